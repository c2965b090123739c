/- Package der: an element of a tag and a body, Write. -/
import Derived.Test.YtimokmhgpigliaaDpLen
import Derived.Test.YtimokmhgpigliaaDrNums
namespace Go.Proofs.Ytimokmhgpigliaa
open Go.RowKit Go.Sort
set_option maxRecDepth 100000
set_option linter.unusedSimpArgs false
set_option linter.unusedVariables false

/-- A slice of one cell, new. -/
def tOne (x : Value) : Told := ⟨fun w v => ∃ g, v = .slice (some ⟨g, 0, none⟩) 1 1 ∧ w.cell? ⟨g, 0, none⟩ = some x, fun w w' v hb ⟨g, e, hc⟩ => ⟨g, e, (hb.cell (block_lt_of_cell hc)).trans hc⟩⟩
theorem one_new (w : World) (t : TypeId) (x : Value) : (w.alloc (.cells #[x] t)).cell? ⟨w.heap.size, 0, none⟩ = some x := by
  rw [cell_of_row _ w.heap.size 0 _ t (0, 0) (blk_new w _)]; rfl
theorem element_text (a n : Nat) (b : ByteArray) : (⟨#[UInt8.ofNat a]⟩ ++ lenB n : ByteArray) = ⟨(wrL (a : Int) n).toArray⟩ := by
  apply ByteArray.ext
  rw [ByteArray.data_append]
  show (#[UInt8.ofNat a] ++ (lenL n).toArray : Array UInt8) = (wrL (a : Int) n).toArray
  rw [wrL, Int.toNat_natCast]
  simp
set_option maxHeartbeats 8000000 in
theorem element_any (tg : Nat) (b : ByteArray) (w : World) (ha : tg < 256) (hn : b.size < 65536) :
    Calls Try.prog 31 #[.int .i64 (tg : Int), .string b] w fun e w' => e = .returned (.string (⟨(wrL (tg : Int) b.size).toArray⟩ ++ b)) ∧ Below w.heap.size w w' := by
  have CL := Lib.hid (fun W => lengthOf_any b.size W hn)
  have hl3 := lenB_size b.size
  have wt : IntKind.u8.wrap (tg : Int) = (tg : Int) := by rw [IntKind.wrap_u8]; omega
  have HA := Lib.hid (cell_byte tg ha)
  have ht := element_text tg b.size b
  have k1 : 1 + (lenB b.size).size ≤ 9223372036854775807 := by omega
  have ls1 : (⟨#[UInt8.ofNat tg]⟩ : ByteArray).size = 1 := rfl
  have k2 : 1 + (lenB b.size).size + b.size ≤ 9223372036854775807 := by omega
  have k3 : (⟨#[UInt8.ofNat tg]⟩ ++ lenB b.size : ByteArray).size + b.size ≤ 9223372036854775807 := by rw [ByteArray.size_append, ls1]; exact k2
  rw [← ht]
  have hb0 := Below.refl w.heap.size w
  generalize hLB : lenB b.size = lb at *
  clear hLB ht hn hl3 ha k3
  go_enter Try.func31, Try.ntmps31
  go_wp2_with fail
  refine wp_region_told 10 15 [(Told.val (.int .i64 (tg : Int)), [0]),
    (Told.val (.int .u8 (tg : Int)), [5]),
    (tOne (.int .u8 (tg : Int)), [6]),
    (Told.val (.string ⟨#[UInt8.ofNat tg]⟩), [7]),
    (Told.val (.string b), [1]),
    (Told.val (.int .i64 (b.size : Int)), [9]),
    (Told.val (.string lb), [10]),
    (Told.val (.string (⟨#[UInt8.ofNat tg]⟩ ++ lb)), [8, 11]),
    (Told.val (.string b), [1]),
    (Told.val (.string (⟨#[UInt8.ofNat tg]⟩ ++ lb ++ b)), [12, 13])]
    (by kernel_rfl) (by kernel_rfl) rfl ?_ ?_
  · simp only [List.take_succ_cons, List.take_zero, toldObl, and_true]
    refine And.intro ?_ (And.intro ?_ (And.intro ?_ (And.intro ?_ (And.intro ?_ (And.intro ?_ (And.intro ?_ (And.intro ?_ (And.intro ?_ (?_)))))))))
    · intro a w hb h
      have e0 : a.tmps.getD 0 undef = .int .i64 (tg : Int) := h 0 (by simp)
      simp only [Array.getD_eq_getD_getElem?] at e0
      refine told_q ?_
      simp [go_sem, e0, sQuiet]
    · intro a w hb h
      have e0 : a.tmps.getD 5 undef = .int .i64 (tg : Int) := h 5 (by simp)
      simp only [Array.getD_eq_getD_getElem?] at e0
      refine told_q ?_
      simp [go_sem, e0, sQuiet, wt]
    · intro a w hb h
      have e0 : a.tmps.getD 6 undef = .int .u8 (tg : Int) := h 6 (by simp)
      simp only [Array.getD_eq_getD_getElem?] at e0
      simp [go_sem, e0, toldQuiet]
      exact ⟨below_new _ _, _, rfl, one_new _ _ _⟩
    · intro a w hb h
      have t0 := h 7 (by simp)
      replace t0 : (tOne (.int .u8 (tg : Int))).T w (a.tmps.getD 7 undef) := t0
      obtain ⟨g0, e0, c0⟩ := t0
      simp only [Array.getD_eq_getD_getElem?] at e0
      have hcv := conv_text w g0 0 1 1 [UInt8.ofNat tg] rfl (fun j x hx => by
        rw [Nat.zero_add]
        match j, hx with
        | 0, hx => simp at hx; subst hx; rw [HA.out]; exact c0
        | j + 1, hx => simp at hx)
      refine told_q ?_
      simp [go_sem, e0, sQuiet, hcv]
    · intro a w hb h
      have e0 : a.tmps.getD 1 undef = .string b := h 1 (by simp)
      simp only [Array.getD_eq_getD_getElem?] at e0
      refine told_q ?_
      simp [go_sem, e0, sQuiet]
    · intro a w hb h
      have e0 : a.tmps.getD 9 undef = .string b := h 9 (by simp)
      simp only [Array.getD_eq_getD_getElem?] at e0
      refine told_q ?_
      simp [go_sem, e0, sQuiet]
    · intro a w hb h
      have e0 : a.tmps.getD 10 undef = .int .i64 (b.size : Int) := h 10 (by simp)
      simp only [Array.getD_eq_getD_getElem?] at e0
      refine told_q ?_
      simp [go_sem, e0, sQuiet]
      exact CL.out _
    · intro a w hb h
      have e0 : a.tmps.getD 8 undef = .string ⟨#[UInt8.ofNat tg]⟩ := h 8 (by simp)
      have e1 : a.tmps.getD 11 undef = .string lb := h 11 (by simp)
      simp only [Array.getD_eq_getD_getElem?] at e0 e1
      refine told_q ?_
      simp [go_sem, e0, e1, sQuiet, ls1, Nat.not_lt.2 k1]
    · intro a w hb h
      have e0 : a.tmps.getD 1 undef = .string b := h 1 (by simp)
      simp only [Array.getD_eq_getD_getElem?] at e0
      refine told_q ?_
      simp [go_sem, e0, sQuiet]
    · intro a w hb h
      have e0 : a.tmps.getD 12 undef = .string (⟨#[UInt8.ofNat tg]⟩ ++ lb) := h 12 (by simp)
      have e1 : a.tmps.getD 13 undef = .string b := h 13 (by simp)
      simp only [Array.getD_eq_getD_getElem?] at e0 e1
      refine told_q ?_
      simp [go_sem, e0, e1, sQuiet, ls1, Nat.not_lt.2 k2]
  simp only [List.take_succ_cons, List.take_zero, List.drop_succ_cons, List.drop_zero, toldEnd, Act.put, List.setIfInBounds_toArray, List.set_cons_succ, List.set_cons_zero]
  rintro X bk v5 q5 v6 q6 v7 q7 v8 q8 v9 q9 v10 q10 v11 q11 v12 q12 v13 q13 v14 q14
  obtain rfl := q5.symm
  obtain rfl := q6.symm
  obtain rfl := q8.symm
  obtain rfl := q9.symm
  obtain rfl := q10.symm
  obtain rfl := q11.symm
  obtain rfl := q12.symm
  obtain rfl := q13.symm
  obtain rfl := q14.symm
  clear q5 q6 q8 q9 q10 q11 q12 q13 q14
  clear q7
  go_wp2_with fail
  go_ret
  exact ⟨rfl, hb0.trans bk⟩
set_option maxHeartbeats 1000000 in
theorem write_any (n : Int) (b : ByteArray) (w : World) (h0 : -9223372036854775808 ≤ n) (h1 : n ≤ 9223372036854775807) (hs : b.size ≤ 1000000000) :
    Calls Try.prog 15 #[.int .i64 n, .string b] w fun e w' => e = .returned (.tuple #[.string (wrX n b), .int .i64 (wrE n b)]) ∧ Below w.heap.size w w' := by
  have CT := Lib.hid (fun W => isTag_any n W h0 h1)
  have hb := Below.refl w.heap.size w
  cases c1 : isT n with
  | false =>
    rw [c1] at CT
    have hE : wrE n b = 1 := by rw [wrE, c1, if_neg Bool.false_ne_true]
    have HV : Hid (wrX n b = ⟨#[]⟩ ∧ wrE n b = 1) := Lib.hid ⟨by rw [wrX, hE, if_neg (by decide)], hE⟩
    clear hE c1 h0 h1
    go_enter Try.func15, Try.ntmps15
    go_wp2_with fail
    refine (CT.out w).mono ?_
    rintro e W1 ⟨rfl, bk⟩
    replace hb := hb.trans (bk.mono hb.size)
    clear bk CT
    go_wp2_with fail
    go_ret2
    exact ⟨by rw [HV.out.1, HV.out.2]; rfl, hb⟩
  | true =>
    rw [c1] at CT
    by_cases c2 : b.size < 65536
    · have hE : wrE n b = 0 := by rw [wrE, c1, if_pos rfl, if_pos c2]
      have hr : 0 ≤ n ∧ n ≤ 255 := by
        rw [isT] at c1
        simp only [Bool.and_eq_true, decide_eq_true_eq] at c1
        exact c1.1
      obtain ⟨a, rfl⟩ : ∃ a : Nat, n = (a : Int) := ⟨n.toNat, by omega⟩
      have HV : Hid (wrX (a : Int) b = ⟨(wrL (a : Int) b.size).toArray⟩ ++ b ∧ wrE (a : Int) b = 0) := Lib.hid ⟨by rw [wrX, if_pos hE], hE⟩
      have CE := Lib.hid (fun W => element_any a b W (by omega) c2)
      have d1 : decide ((65535 : Int) < (b.size : Int)) = false := by simp; omega
      generalize (⟨(wrL (a : Int) b.size).toArray⟩ ++ b : ByteArray) = o at *
      clear hE c1 h0 h1 hr c2
      go_enter Try.func15, Try.ntmps15
      go_wp2_with fail
      refine (CT.out w).mono ?_
      rintro e W1 ⟨rfl, bk⟩
      replace hb := hb.trans (bk.mono hb.size)
      clear bk CT
      go_wp2_with fail
      refine (CE.out _).mono ?_
      rintro e W2 ⟨rfl, bk⟩
      replace hb := hb.trans (bk.mono hb.size)
      clear bk CE
      go_wp2_with fail
      go_ret2
      exact ⟨by rw [HV.out.1, HV.out.2]; rfl, hb⟩
    · have hE : wrE n b = 13 := by rw [wrE, c1, if_pos rfl, if_neg c2]
      have HV : Hid (wrX n b = ⟨#[]⟩ ∧ wrE n b = 13) := Lib.hid ⟨by rw [wrX, hE, if_neg (by decide)], hE⟩
      have d1 : decide ((65535 : Int) < (b.size : Int)) = true := by simp; omega
      clear hE c1 h0 h1
      go_enter Try.func15, Try.ntmps15
      go_wp2_with fail
      refine (CT.out w).mono ?_
      rintro e W1 ⟨rfl, bk⟩
      replace hb := hb.trans (bk.mono hb.size)
      clear bk CT
      go_wp2_with fail
      go_ret2
      exact ⟨by rw [HV.out.1, HV.out.2]; rfl, hb⟩
end Go.Proofs.Ytimokmhgpigliaa
