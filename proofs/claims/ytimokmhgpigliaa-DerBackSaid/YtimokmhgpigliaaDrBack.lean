/- What is written is read, and what is read is written again. No program. -/
import Derived.Test.YtimokmhgpigliaaDrSpec
namespace Go.Proofs.Ytimokmhgpigliaa
set_option maxRecDepth 100000
set_option linter.unusedSimpArgs false
set_option linter.unusedVariables false

theorem toNat_of (k : Nat) (h : k < 256) : (UInt8.ofNat k).toNat = k := by rw [UInt8.toNat_ofNat']; omega
theorem rdB_0 (x : UInt8) (l : List UInt8) : rdB (x :: l) 0 = x.toNat := rfl
theorem rdB_1 (x y : UInt8) (l : List UInt8) : rdB (x :: y :: l) 1 = y.toNat := rfl
theorem rdB_2 (x y z : UInt8) (l : List UInt8) : rdB (x :: y :: z :: l) 2 = z.toNat := rfl
theorem rdB_3 (x y z v : UInt8) (l : List UInt8) : rdB (x :: y :: z :: v :: l) 3 = v.toNat := rfl
/-- A thing, and what is behind it. -/
theorem rd_list (a n : Nat) (bl rl : List UInt8) (ha : a < 256) (ht : a % 32 ≠ 31) (hn : bl.length = n) (h : n < 65536) :
    rdB (wrL a n ++ (bl ++ rl)) 0 = a ∧ rdA (wrL a n ++ (bl ++ rl)) = (wrL a n).length ∧ rdN (wrL a n ++ (bl ++ rl)) = n ∧ rdE (wrL a n ++ (bl ++ rl)) = 0 := by
  have e0 : rdB (wrL a n ++ (bl ++ rl)) 0 = a := toNat_of a ha
  have hl : (wrL a n ++ (bl ++ rl)).length = (wrL a n).length + n + rl.length := by rw [List.length_append, List.length_append, hn]; omega
  by_cases c1 : n < 128
  · have ew : wrL a n = [UInt8.ofNat a, UInt8.ofNat n] := by rw [wrL, lenL, if_pos c1]; rfl
    rw [ew] at e0 hl ⊢
    have e1 : rdB ([UInt8.ofNat a, UInt8.ofNat n] ++ (bl ++ rl)) 1 = n := toNat_of n (by omega)
    generalize [UInt8.ofNat a, UInt8.ofNat n] ++ (bl ++ rl) = l at *
    have hA : rdA l = 2 := if_neg (by omega)
    have hN : rdN l = n := by rw [rdN, if_neg (by omega), if_neg (by omega), e1]
    refine ⟨e0, hA, hN, ?_⟩
    simp only [List.length_cons, List.length_nil] at hl
    rw [rdE, if_neg (by omega), if_neg (by omega), if_neg (by omega), if_neg (by omega), if_neg (by omega), if_neg (by omega), if_neg (by omega)]
  by_cases c2 : n < 256
  · have ew : wrL a n = [UInt8.ofNat a, 129, UInt8.ofNat n] := by rw [wrL, lenL, if_neg c1, if_pos c2]; rfl
    rw [ew] at e0 hl ⊢
    have e1 : rdB ([UInt8.ofNat a, 129, UInt8.ofNat n] ++ (bl ++ rl)) 1 = 129 := rfl
    have e2 : rdB ([UInt8.ofNat a, 129, UInt8.ofNat n] ++ (bl ++ rl)) 2 = n := toNat_of n (by omega)
    generalize [UInt8.ofNat a, 129, UInt8.ofNat n] ++ (bl ++ rl) = l at *
    have hA : rdA l = 3 := by rw [rdA, if_pos (by omega), e1]
    have hN : rdN l = n := by rw [rdN, if_pos e1, e2]
    refine ⟨e0, hA, hN, ?_⟩
    simp only [List.length_cons, List.length_nil] at hl
    rw [rdE, if_neg (by omega), if_neg (by omega), if_neg (by omega), if_neg (by omega), if_neg (by omega), if_neg (by omega), if_neg (by omega)]
  · have ew : wrL a n = [UInt8.ofNat a, 130, UInt8.ofNat (n / 256), UInt8.ofNat n] := by rw [wrL, lenL, if_neg c1, if_neg c2]; rfl
    rw [ew] at e0 hl ⊢
    have e1 : rdB ([UInt8.ofNat a, 130, UInt8.ofNat (n / 256), UInt8.ofNat n] ++ (bl ++ rl)) 1 = 130 := rfl
    have e2 : rdB ([UInt8.ofNat a, 130, UInt8.ofNat (n / 256), UInt8.ofNat n] ++ (bl ++ rl)) 2 = n / 256 := toNat_of _ (by omega)
    have e3 : rdB ([UInt8.ofNat a, 130, UInt8.ofNat (n / 256), UInt8.ofNat n] ++ (bl ++ rl)) 3 = n % 256 := by
      show (UInt8.ofNat n).toNat = n % 256
      rw [UInt8.toNat_ofNat']
    generalize [UInt8.ofNat a, 130, UInt8.ofNat (n / 256), UInt8.ofNat n] ++ (bl ++ rl) = l at *
    have hA : rdA l = 4 := by rw [rdA, if_pos (by omega), e1]
    have hN : rdN l = n := by rw [rdN, if_neg (by omega), if_pos e1, e2, e3]; omega
    refine ⟨e0, hA, hN, ?_⟩
    simp only [List.length_cons, List.length_nil] at hl
    rw [rdE, if_neg (by omega), if_neg (by omega), if_neg (by omega), if_neg (by omega), if_neg (by omega), if_neg (by omega), if_neg (by omega)]
theorem ext_of (s : ByteArray) (a b : Nat) (l : List UInt8) (h : ((s.data.toList.drop a).take (b - a)) = l) : s.extract a b = ⟨l.toArray⟩ := by
  have h2 : (s.extract a b).data.toList = (⟨l.toArray⟩ : ByteArray).data.toList := by rw [Lib.extract_data, h]
  apply ByteArray.ext
  exact Array.toList_inj.1 h2
theorem mk_data (s : ByteArray) : (⟨s.data.toList.toArray⟩ : ByteArray) = s := by
  apply ByteArray.ext
  exact Array.toArray_toList
/-- What is written is read. -/
theorem rd_wr (n : Int) (b r : ByteArray) (h : wrE n b = 0) : rdTag (wrX n b ++ r) = n ∧ rdBody (wrX n b ++ r) = b ∧ rdRest (wrX n b ++ r) = r ∧ rdErr (wrX n b ++ r) = 0 := by
  have hT : isT n = true := by
    cases ht : isT n with
    | true => rfl
    | false => rw [wrE, ht] at h; cases h
  have hz : b.size < 65536 := by
    apply Nat.lt_of_not_le
    intro hc
    rw [wrE, hT, if_pos rfl, if_neg (by omega)] at h
    cases h
  have hr : 0 ≤ n ∧ n ≤ 255 ∧ n % 32 ≠ 31 := by
    have h' := hT
    simp only [isT, Bool.and_eq_true, decide_eq_true_eq, bne_iff_ne] at h'
    exact ⟨h'.1.1, h'.1.2, h'.2⟩
  obtain ⟨a, rfl⟩ : ∃ a : Nat, n = (a : Int) := ⟨n.toNat, by omega⟩
  have hx : wrX (a : Int) b = ⟨(wrL (a : Int) b.size).toArray⟩ ++ b := by rw [wrX, if_pos h]
  have hl : (wrX (a : Int) b ++ r).data.toList = wrL (a : Int) b.size ++ (b.data.toList ++ r.data.toList) := by
    rw [hx, ByteArray.data_append, ByteArray.data_append, Array.toList_append, Array.toList_append, List.append_assoc]
  have hbl : b.data.toList.length = b.size := (Lib.size_eq b).symm
  obtain ⟨q0, qA, qN, qE⟩ := rd_list a b.size b.data.toList r.data.toList (by omega) (by omega) hbl hz
  have hw : wrL ((a : Nat) : Int) b.size = wrL a b.size := rfl
  obtain ⟨g1, g2, g3, g4⟩ := rd_good (wrX (a : Int) b ++ r) (by rw [hl]; exact qE)
  rw [hl, q0] at g1
  rw [hl, qA, qN] at g2 g3
  refine ⟨g1, ?_, ?_, g4⟩
  · rw [g2, ext_of _ _ _ b.data.toList, mk_data]
    rw [hl, List.drop_left, Nat.add_sub_cancel_left, ← hbl, List.take_left]
  · rw [g3, ext_of _ _ _ r.data.toList, mk_data]
    rw [hl, ← List.append_assoc, List.drop_left' (by rw [List.length_append, hbl]), List.take_of_length_le]
    have : (wrX (a : Int) b ++ r).size = (wrX (a : Int) b ++ r).data.toList.length := Lib.size_eq _
    rw [this, hl, List.length_append, List.length_append, hbl]
    omega
/-- What is read is written again. -/
theorem wr_rd (s : ByteArray) (h : rdErr s = 0) (hs : s.size < 65536) : wrE (rdTag s) (rdBody s) = 0 ∧ wrX (rdTag s) (rdBody s) ++ rdRest s = s := by
  obtain ⟨g1, g2, g3, _⟩ := rd_good s h
  have hl : s.data.toList.length = s.size := (Lib.size_eq s).symm
  have h0 := rdB_lt s.data.toList 0; have h1 := rdB_lt s.data.toList 1; have h2 := rdB_lt s.data.toList 2; have h3 := rdB_lt s.data.toList 3
  obtain ⟨k1, k2, k3, k4, k5, k6, k7⟩ : ¬ s.data.toList.length = 0 ∧ ¬ rdB s.data.toList 0 % 32 = 31 ∧ ¬ s.data.toList.length < 2 ∧ ¬ (rdB s.data.toList 1 = 128 ∨ 130 < rdB s.data.toList 1) ∧ ¬ s.data.toList.length < rdA s.data.toList ∧
      ¬ ((rdB s.data.toList 1 = 129 ∧ rdN s.data.toList < 128) ∨ (rdB s.data.toList 1 = 130 ∧ rdN s.data.toList < 256)) ∧ ¬ s.data.toList.length < rdA s.data.toList + rdN s.data.toList := by
    have h' : rdE s.data.toList = 0 := h
    rw [rdE] at h'
    split at h'; · cases h'
    split at h'; · cases h'
    split at h'; · cases h'
    split at h'; · cases h'
    split at h'; · cases h'
    split at h'; · cases h'
    split at h'; · cases h'
    refine ⟨?_, ?_, ?_, ?_, ?_, ?_, ?_⟩ <;> assumption
  have hbz : (rdBody s).size = rdN s.data.toList := by rw [g2, ByteArray.size_extract]; omega
  have hT : isT (rdTag s) = true := by rw [g1, isT_byte _ h0]; simp [k2]
  have hE : wrE (rdTag s) (rdBody s) = 0 := by rw [wrE, hT, if_pos rfl, if_pos (by omega)]
  refine ⟨hE, ?_⟩
  have hx : wrX (rdTag s) (rdBody s) = ⟨(wrL (rdTag s) (rdBody s).size).toArray⟩ ++ rdBody s := by rw [wrX, if_pos hE]
  have hw : wrL (rdTag s) (rdBody s).size = s.data.toList.take (rdA s.data.toList) := by
    rw [g1, hbz, wrL, Int.toNat_natCast]
    generalize hll : s.data.toList = l at *
    clear g1 g2 g3 hx hE hT hbz hl hs h hll
    have ofB : ∀ i, UInt8.ofNat (rdB l i) = l.getD i 0 := fun i => by rw [rdB]; exact UInt8.ofNat_toNat
    match l, k1, k3 with
    | x :: y :: r, _, _ =>
      rw [rdB_0] at *
      rw [rdB_1] at *
      by_cases c1 : y.toNat < 128
      · have hA : rdA (x :: y :: r) = 2 := if_neg (by rw [rdB_1]; omega)
        have hN : rdN (x :: y :: r) = y.toNat := by rw [rdN, rdB_1, if_neg (by omega), if_neg (by omega)]
        rw [hA, hN, lenL, if_pos c1, UInt8.ofNat_toNat, UInt8.ofNat_toNat]
        rfl
      · by_cases c2 : y.toNat = 129
        · have hA : rdA (x :: y :: r) = 3 := by rw [rdA, rdB_1, if_pos (by omega)]; omega
          have hN : rdN (x :: y :: r) = rdB (x :: y :: r) 2 := by rw [rdN, rdB_1, if_pos c2]
          rw [hA] at k5 ⊢
          rw [hN] at k6 ⊢
          match r, k5 with
          | z :: r, _ =>
            rw [rdB_2] at *
            have ey : y = 129 := UInt8.toNat_inj.1 (by rw [c2]; rfl)
            rw [lenL, if_neg (by omega), if_pos (by omega), UInt8.ofNat_toNat, UInt8.ofNat_toNat, ey]
            rfl
          | [], h => simp at h
        · have c3 : y.toNat = 130 := by omega
          have hA : rdA (x :: y :: r) = 4 := by rw [rdA, rdB_1, if_pos (by omega)]; omega
          have hN : rdN (x :: y :: r) = 256 * rdB (x :: y :: r) 2 + rdB (x :: y :: r) 3 := by rw [rdN, rdB_1, if_neg c2, if_pos c3]
          rw [hA] at k5 ⊢
          rw [hN] at k6 ⊢
          match r, k5 with
          | z :: v :: r, _ =>
            rw [rdB_2, rdB_3] at *
            have ey : y = 130 := UInt8.toNat_inj.1 (by rw [c3]; rfl)
            rw [lenL, if_neg (by omega), if_neg (by omega), UInt8.ofNat_toNat, ey]
            have e2 : UInt8.ofNat ((256 * z.toNat + v.toNat) / 256) = z := by rw [show (256 * z.toNat + v.toNat) / 256 = z.toNat by omega]; exact UInt8.ofNat_toNat
            have e3 : UInt8.ofNat (256 * z.toNat + v.toNat) = v := by
              apply UInt8.toNat_inj.1
              rw [UInt8.toNat_ofNat']
              omega
            rw [e2, e3]
            rfl
          | [z], h => simp at h
          | [], h => simp at h
    | [x], _, h => simp at h
    | [], h, _ => simp at h
  have h2' : (wrX (rdTag s) (rdBody s) ++ rdRest s).data.toList = s.data.toList := by
    rw [hx, ByteArray.data_append, ByteArray.data_append, Array.toList_append, Array.toList_append, hw, g2, g3, Lib.extract_data, Lib.extract_data, Nat.add_sub_cancel_left]
    generalize rdA s.data.toList = A at *
    generalize rdN s.data.toList = N at *
    rw [List.take_of_length_le (l := s.data.toList.drop (A + N)) (by rw [List.length_drop]; omega), List.append_assoc, ← List.drop_drop, List.take_append_drop, List.take_append_drop]
  apply ByteArray.ext
  exact Array.toList_inj.1 h2'
end Go.Proofs.Ytimokmhgpigliaa
