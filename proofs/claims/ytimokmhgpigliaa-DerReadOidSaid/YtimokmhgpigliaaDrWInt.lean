/- A number as a thing: the reference's Int. -/
import Derived.Test.YtimokmhgpigliaaDrWr
namespace Go.Proofs.Ytimokmhgpigliaa
open Go.RowKit Go.Sort
set_option maxRecDepth 100000
set_option linter.unusedSimpArgs false
set_option linter.unusedVariables false

/-- The eight bytes of a number, the highest first; without those that say nothing. -/
def byt8 (n : Int) (j : Nat) : UInt8 := UInt8.ofNat (n / 256 ^ (7 - j) % 256).toNat
def b8L (n : Int) : List UInt8 := (List.range 8).map fun j => byt8 n j
theorem b8L_length (n : Int) : (b8L n).length = 8 := by simp [b8L]
def trimL : List UInt8 → List UInt8
  | x :: y :: r => if (x.toNat = 0 ∧ y.toNat < 128) ∨ (x.toNat = 255 ∧ 128 ≤ y.toNat) then trimL (y :: r) else x :: y :: r
  | l => l
def intB (n : Int) : ByteArray := ⟨(trimL (b8L n)).toArray⟩
theorem b8L_snoc (n : Int) (k : Nat) (h : k < 8) : (b8L n).take (k + 1) = (b8L n).take k ++ [byt8 n k] := by
  rw [b8L, ← List.map_take, ← List.map_take, List.take_range, List.take_range, Nat.min_eq_left (by omega), Nat.min_eq_left (by omega), List.range_succ, List.map_append]
  rfl
theorem byt8_val (n : Int) (k : Nat) : ((byt8 n k).toNat : Int) = n / 256 ^ (7 - k) % 256 := by
  rw [byt8, UInt8.toNat_ofNat']
  have h := Int.emod_nonneg (n / 256 ^ (7 - k)) (show (256 : Int) ≠ 0 by decide)
  have h2 := Int.emod_lt_of_pos (n / 256 ^ (7 - k)) (show (0 : Int) < 256 by decide)
  omega
theorem pow_shift (k : Nat) (h : k < 8) : (2 : Int) ^ (8 * (7 - k)) = 256 ^ (7 - k) := by
  rw [show (256 : Int) = 2 ^ 8 from rfl, ← Int.pow_mul]

set_option maxHeartbeats 4000000 in
theorem rIntLoop_any (n : Int) (w : World) (h0 : -9223372036854775808 ≤ n) (h1 : n ≤ 9223372036854775807) :
    Calls Try.prog 24 #[.int .i64 n] w fun e w' => e = .returned (.string (wrX 2 (intB n))) ∧ Below w.heap.size w w' := by
  obtain ⟨i0, hi, hz0, hz1, hz2⟩ := info_parts info_u8
  have hb := Below.refl w.heap.size w
  go_enter Try.func24, Try.ntmps24
  go_wp2_with fail
  generalize hBB : w.heap.size = B at *
  have HBB := Lib.hid hBB
  clear hBB
  go_loopw [3, 4] (fun ov iv wr => ∃ (k : Nat) (ao : Option Addr) (cp : Nat), k ≤ 8 ∧ iv = .int .i64 (7 - (k : Int)) ∧ ov = .slice ao k cp ∧ Own wr B (.slice ao k cp) (Lib.byteCells ((b8L n).take k)) ∧ Below B w wr ∧ B ≤ wr.heap.size) (fun _ iv _ => (intOf iv + 1).toNat)
  case atStart => exact ⟨0, none, 0, by omega, rfl, rfl, Own.nil _ _, hb, by rw [← HBB.out]; exact hb.size⟩
  case round =>
    clear hb
    obtain ⟨k, ao, cp, hk, rfl, rfl, hown, hb, hB⟩ := hrel
    have HO := Lib.hid hown
    clear hown
    have HL := Lib.hid (show (Lib.byteCells ((b8L n).take k)).length = k from by rw [Lib.byteCells_length, List.length_take, b8L_length]; omega)
    by_cases hlt : k < 8
    · obtain ⟨i, hii⟩ : ∃ i, i = 7 - k := ⟨_, rfl⟩
      have hi7 : (7 : Int) - (k : Int) = (i : Int) := by omega
      have hd : decide ((0 : Int) ≤ (i : Int)) = true := by simp
      have HSn := Lib.hid (b8L_snoc n k hlt)
      have HV := Lib.hid (byt8_val n k)
      have hps := pow_shift k hlt
      rw [← hii] at hps HV
      have hs0 : (0 : Int) ≤ 8 * (i : Int) := by omega
      have hw8 : IntKind.i64.wrap (8 * (i : Int)) = 8 * (i : Int) := by rw [IntKind.wrap_i64]; omega
      have hT : ((8 : Int) * (i : Int)).toNat = 8 * i := by omega
      rw [hi7]
      go_wp2_with (at_builtin; refine wpList_append_sl rfl (.tmp 11) (.tmp 17) 46 rfl B 5 i0 (.int .u8 0) 1 Try.underlying46 hi hz0 hz1 hz2 rfl ao k cp _ rfl (HO.out.alloc _) HL.out ⟨_, 0, none⟩ 1 1 [.int .u8 _] rfl rfl (cell_one_new _ _ _) ?p2 ?p3 ?p4 ?p5 ?_)
      case p2 => intro u hu; simp at hu; subst hu; rfl
      case p3 => omega
      case p4 => omega
      case p5 => simp; omega
      intro ao7 cp7 W7 hown7 hgrow7
      have hb7 : Below B wr W7 := below_append ((Below.refl B wr).alloc hB _) (by simp; omega) (HO.out.alloc _) hgrow7
      have hB7 : B ≤ W7.heap.size := by have := hgrow7.size; simp at this; omega
      have hown8 : Own W7 B (.slice ao7 (k + 1) cp7) (Lib.byteCells ((b8L n).take (k + 1))) := by
        rw [HSn.out, Lib.byteCells_append]
        have e : Lib.byteCells [byt8 n k] = [.int .u8 (n / 2 ^ (8 * (7 - k)) % 256)] := by simp only [Lib.byteCells, List.map_cons, List.map_nil, byt8_val, pow_shift k hlt]
        rw [e]
        exact hown7
      have hb8 := hb.trans hb7
      clear hown7 hgrow7 HO HSn HV HL hps hs0 hw8 hT hb hb7 hii
      go_wp2_with fail
      go_roundw
      case rel => exact ⟨k + 1, ao7, cp7, by omega, by go_num, rfl, hown8, hb8, hB7⟩
      case measure => simp [intOf]; omega
    · have hd : decide ((0 : Int) ≤ (7 : Int) - (k : Int)) = false := by simp; omega
      obtain rfl : k = 8 := by omega
      have hown := HO.out
      rw [List.take_of_length_le (by rw [b8L_length]; exact Nat.le_refl _)] at hown
      obtain ⟨g, cp1, e1, hoG, _⟩ := hown.some (by rw [Lib.byteCells_length, b8L_length]; decide)
      rw [Lib.byteCells_length, b8L_length] at e1
      cases e1
      have hcp : 8 ≤ cp := by have := hoG.le; rwa [Lib.byteCells_length, b8L_length] at this
      have HG := Lib.hid hoG
      have HLN := Lib.hid (b8L_length n)
      have HIB : Hid (intB n = ⟨(trimL (b8L n)).toArray⟩) := Lib.hid rfl
      generalize b8L n = L at *
      generalize hio : intB n = ib at *
      have HIO := Lib.hid hio
      clear hio
      clear HO HL hown hoG hd
      go_wp2_with fail
      go_loopw [3] (fun ov wr2 => ∃ (j m c : Nat), j + m = 8 ∧ 1 ≤ m ∧ m ≤ c ∧ ov = .slice (some ⟨g, j, none⟩) m c ∧ Hid (trimL (L.drop j) = trimL L) ∧ wr2 = wr) (fun ov _ => (match ov with | .slice _ m _ => m | _ => 0))
      case atStart => exact ⟨0, 8, cp, rfl, by omega, hcp, rfl, Lib.hid rfl, rfl⟩
      case round =>
        obtain ⟨j, m, c, hjm, hm1, hmc, rfl, HT, rfl⟩ := hrel
        have hj : j < L.length := by rw [HLN.out]; omega
        have HD : Hid (L.drop j = L.getD j 0 :: L.drop (j + 1)) := Lib.hid (by rw [List.drop_eq_getElem_cons hj, List.getD_eq_getElem?_getD, List.getElem?_eq_getElem hj]; rfl)
        have HX := Lib.hid (conv_text wr g j c m (L.drop j) (by rw [List.length_drop, HLN.out]; omega) (fun i x hx => by
          rw [List.getElem?_drop] at hx
          exact HG.out.cells (j + i) _ (by simp [Lib.byteCells, hx])))
        by_cases c1 : m = 1
        · subst c1
          have d1 : decide ((1 : Int) < ((1 : Nat) : Int)) = false := by simp
          have ht := HX.out
          have hd1 : L.drop (j + 1) = [] := List.drop_of_length_le (by rw [HLN.out]; omega)
          have HF : Hid ((⟨(L.drop j).toArray⟩ : ByteArray) = ib) := Lib.hid (by rw [HIB.out, ← HT.out, HD.out, hd1]; rfl)
          rw [HF.out] at ht
          have CW := Lib.hid (fun W => rWrite_any 2 ib W (by decide) (by decide))
          have HXO : Hid (wrX 2 ib = wrX 2 (intB n)) := Lib.hid (by rw [HIO.out])
          generalize wrX 2 ib = xo at *
          generalize wrE 2 ib = xe at *
          clear HF HIB HG HLN HX HD HT hd1 hj
          go_wp2_with fail
          refine (CW.out _).mono ?_
          rintro e W1 ⟨rfl, bk⟩
          replace hb := hb.trans (bk.mono hB)
          clear bk CW
          go_wp2_with fail
          go_ret
          exact ⟨by first | (rw [← HXO.out]; done) | (rw [← HXO.out]; rfl), by rw [HBB.out]; exact hb⟩
        · have d1 : decide ((1 : Int) < (m : Int)) = true := by simp; omega
          have hj1 : j + 1 < L.length := by rw [HLN.out]; omega
          have HD1 : Hid (L.drop (j + 1) = L.getD (j + 1) 0 :: L.drop (j + 2)) := Lib.hid (by rw [List.drop_eq_getElem_cons hj1, List.getD_eq_getElem?_getD, List.getElem?_eq_getElem hj1]; rfl)
          have k0 : wr.cell? ⟨g, j, none⟩ = some (.int .u8 ((L.getD j 0).toNat : Int)) := (own_byte HG.out j hj).1
          have k1 : wr.cell? ⟨g, j + 1, none⟩ = some (.int .u8 ((L.getD (j + 1) 0).toNat : Int)) := (own_byte HG.out (j + 1) hj1).1
          have hx256 := (L.getD j 0).toNat_lt; have hy256 := (L.getD (j + 1) 0).toNat_lt
          have HC : Hid (trimL (L.drop j) = if ((L.getD j 0).toNat = 0 ∧ (L.getD (j + 1) 0).toNat < 128) ∨ ((L.getD j 0).toNat = 255 ∧ 128 ≤ (L.getD (j + 1) 0).toNat) then trimL (L.drop (j + 1)) else L.drop j) := Lib.hid (by rw [HD.out, HD1.out, trimL])
          generalize (L.getD j 0).toNat = x at k0 hx256 HC
          generalize (L.getD (j + 1) 0).toNat = y at k1 hy256 HC
          have hi0 : (0 : Int) < (m : Int) := by omega
          have hi1 : (1 : Int) < (m : Int) := by omega
          have hi2 : (1 : Int) ≤ (m : Int) := by omega
          by_cases a0 : x = 0
          · have f0 : ((x : Int) == 0) = true := by simp; omega
            have f1 : ((x : Int) == 255) = false := by simp; omega
            by_cases a1 : y < 128
            · have f2 : decide ((y : Int) < 128) = true := by simp; omega
              have HT2 := Lib.hid ((show trimL (L.drop j) = trimL (L.drop (j + 1)) by rw [HC.out, if_pos (by omega)]).symm.trans HT.out)
              clear HC HT HX HD HD1 hj hj1
              go_wp2_with fail
              go_roundw
              case rel => exact ⟨j + 1, m - 1, c - 1, by omega, by omega, by omega, by go_num, HT2, by first | rfl | trivial⟩
              case measure => simp; omega
            · have f2 : decide ((y : Int) < 128) = false := by simp; omega
              have ht := HX.out
              have HF : Hid ((⟨(L.drop j).toArray⟩ : ByteArray) = ib) := Lib.hid (by rw [HIB.out, ← HT.out, HC.out, if_neg (by omega)])
              rw [HF.out] at ht
              clear HC HT HX HD HD1 hj hj1
              have CW := Lib.hid (fun W => rWrite_any 2 ib W (by decide) (by decide))
              have HXO : Hid (wrX 2 ib = wrX 2 (intB n)) := Lib.hid (by rw [HIO.out])
              generalize wrX 2 ib = xo at *
              generalize wrE 2 ib = xe at *
              clear HF HIB HG HLN
              go_wp2_with fail
              refine (CW.out _).mono ?_
              rintro e W1 ⟨rfl, bk⟩
              replace hb := hb.trans (bk.mono hB)
              clear bk CW
              go_wp2_with fail
              go_ret
              exact ⟨by first | (rw [← HXO.out]; done) | (rw [← HXO.out]; rfl), by rw [HBB.out]; exact hb⟩
          have f0 : ((x : Int) == 0) = false := by simp; omega
          by_cases a2 : x = 255
          · have f1 : ((x : Int) == 255) = true := by simp; omega
            by_cases a1 : 128 ≤ y
            · have f2 : decide (128 ≤ (y : Int)) = true := by simp; omega
              have HT2 := Lib.hid ((show trimL (L.drop j) = trimL (L.drop (j + 1)) by rw [HC.out, if_pos (by omega)]).symm.trans HT.out)
              clear HC HT HX HD HD1 hj hj1
              go_wp2_with fail
              go_roundw
              case rel => exact ⟨j + 1, m - 1, c - 1, by omega, by omega, by omega, by go_num, HT2, by first | rfl | trivial⟩
              case measure => simp; omega
            · have f2 : decide (128 ≤ (y : Int)) = false := by simp; omega
              have ht := HX.out
              have HF : Hid ((⟨(L.drop j).toArray⟩ : ByteArray) = ib) := Lib.hid (by rw [HIB.out, ← HT.out, HC.out, if_neg (by omega)])
              rw [HF.out] at ht
              clear HC HT HX HD HD1 hj hj1
              have CW := Lib.hid (fun W => rWrite_any 2 ib W (by decide) (by decide))
              have HXO : Hid (wrX 2 ib = wrX 2 (intB n)) := Lib.hid (by rw [HIO.out])
              generalize wrX 2 ib = xo at *
              generalize wrE 2 ib = xe at *
              clear HF HIB HG HLN
              go_wp2_with fail
              refine (CW.out _).mono ?_
              rintro e W1 ⟨rfl, bk⟩
              replace hb := hb.trans (bk.mono hB)
              clear bk CW
              go_wp2_with fail
              go_ret
              exact ⟨by first | (rw [← HXO.out]; done) | (rw [← HXO.out]; rfl), by rw [HBB.out]; exact hb⟩
          · have f1 : ((x : Int) == 255) = false := by simp; omega
            have ht := HX.out
            have HF : Hid ((⟨(L.drop j).toArray⟩ : ByteArray) = ib) := Lib.hid (by rw [HIB.out, ← HT.out, HC.out, if_neg (by omega)])
            rw [HF.out] at ht
            clear HC HT HX HD HD1 hj hj1
            have CW := Lib.hid (fun W => rWrite_any 2 ib W (by decide) (by decide))
            have HXO : Hid (wrX 2 ib = wrX 2 (intB n)) := Lib.hid (by rw [HIO.out])
            generalize wrX 2 ib = xo at *
            generalize wrE 2 ib = xe at *
            clear HF HIB HG HLN
            go_wp2_with fail
            refine (CW.out _).mono ?_
            rintro e W1 ⟨rfl, bk⟩
            replace hb := hb.trans (bk.mono hB)
            clear bk CW
            go_wp2_with fail
            go_ret
            exact ⟨by first | (rw [← HXO.out]; done) | (rw [← HXO.out]; rfl), by rw [HBB.out]; exact hb⟩
end Go.Proofs.Ytimokmhgpigliaa
