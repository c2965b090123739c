/- Encode: the reference's. -/
import Derived.Test.YtjemikbnncfonaaHeZ
namespace Go.Proofs.Ytjemikbnncfonaa
open Go.RowKit Go.Sort
set_option maxRecDepth 100000
set_option linter.unusedSimpArgs false
set_option linter.unusedVariables false

set_option maxHeartbeats 1000000 in
theorem rbodyNo (m : HMsg) (ao : Option Addr) (n c : Nat) (w : World) (hk : m.k ≠ 1 ∧ m.k ≠ 2 ∧ m.k ≠ 8 ∧ m.k ≠ 11 ∧ m.k ≠ 13 ∧ m.k ≠ 15 ∧ m.k ≠ 20 ∧ m.k ≠ 24) :
    Calls Try.prog 17 #[.agg (msC m (.slice ao n c))] w fun e w' => e = .returned (.tuple #[.string (bodB m), .bool (okM m)]) ∧ Below w.heap.size w w' := by
  have HB0 := Lib.hid (below_new w (.cells (msC m (.slice ao n c)) 31))
  obtain ⟨c0, c1, c2', c3', c4, c5⟩ := ms_cells (blk_new w (.cells (msC m (.slice ao n c)) 31))
  have HV : Hid (bodB m = ⟨#[]⟩ ∧ okM m = false) := Lib.hid ⟨by simp [bodB, hk]; rfl, okM_none m hk⟩
  have d1 : (m.k == 1) = false := beq_eq_false_iff_ne.2 hk.1
  have d2 : (m.k == 2) = false := beq_eq_false_iff_ne.2 hk.2.1
  have d8 : (m.k == 8) = false := beq_eq_false_iff_ne.2 hk.2.2.1
  have d11 : (m.k == 11) = false := beq_eq_false_iff_ne.2 hk.2.2.2.1
  have d13 : (m.k == 13) = false := beq_eq_false_iff_ne.2 hk.2.2.2.2.1
  have d15 : (m.k == 15) = false := beq_eq_false_iff_ne.2 hk.2.2.2.2.2.1
  have d20 : (m.k == 20) = false := beq_eq_false_iff_ne.2 hk.2.2.2.2.2.2.1
  have d24 : (m.k == 24) = false := beq_eq_false_iff_ne.2 hk.2.2.2.2.2.2.2
  clear hk
  go_enter Try.func17, Try.ntmps17
  go_wp2_with fail
  go_ret2
  exact ⟨by rw [HV.out.1, HV.out.2]; rfl, HB0.out⟩
theorem rbody_any (m : HMsg) (ao : Option Addr) (n c : Nat) (w : World) (hn : m.su.length = n) (hm : n ≤ 1000) (h1 : m.rn.size ≤ 100000) (h2 : m.sh.size ≤ 100000) (h3 : m.da.size ≤ 100000) (hz : ∀ k, -9223372036854775808 ≤ m.su.getD k 0 ∧ m.su.getD k 0 ≤ 9223372036854775807) (hI : IntsAt w ao m.su) :
    Calls Try.prog 17 #[.agg (msC m (.slice ao n c))] w fun e w' => e = .returned (.tuple #[.string (bodB m), .bool (okM m)]) ∧ Below w.heap.size w w' := by
  by_cases k1 : m.k = 1
  · exact rbody1 m ao n c w k1 hn hm h1 h2 h3 hz hI
  by_cases k2 : m.k = 2
  · exact rbody2 m ao n c w k2 hn hm h1 h2 h3 hz hI
  by_cases k8 : m.k = 8
  · exact rbody8 m ao n c w k8 hn hm h1 h2 h3 hz hI
  by_cases k11 : m.k = 11
  · exact rbody11 m ao n c w k11 hn hm h1 h2 h3 hz hI
  by_cases k13 : m.k = 13
  · exact rbody13 m ao n c w k13 hn hm h1 h2 h3 hz hI
  by_cases k15 : m.k = 15
  · exact rbody15 m ao n c w k15 hn hm h1 h2 h3 hz hI
  by_cases k20 : m.k = 20
  · exact rbody20 m ao n c w k20 hn hm h1 h2 h3 hz hI
  by_cases k24 : m.k = 24
  · cases ha : m.ask with
    | true => exact rbody24t m ao n c w ⟨k24, ha⟩ hn hm h1 h2 h3 hz hI
    | false => exact rbody24f m ao n c w ⟨k24, ha⟩ hn hm h1 h2 h3 hz hI
  exact rbodyNo m ao n c w ⟨k1, k2, k8, k11, k13, k15, k20, k24⟩
/-- A new slice of one value. -/
def heOne (x : Value) : Told := ⟨fun w v => ∃ g, v = .slice (some ⟨g, 0, none⟩) 1 1 ∧ w.cell? ⟨g, 0, none⟩ = some x, fun w w' v hb ⟨g, e, hc⟩ => ⟨g, e, (hb.cell (block_lt_of_cell hc)).trans hc⟩⟩
theorem heOne_new (w : World) (t : TypeId) (x : Value) : (w.alloc (.cells #[x] t)).cell? ⟨w.heap.size, 0, none⟩ = some x := by
  rw [cell_of_row _ _ _ _ _ _ (blk_new w (.cells #[x] t))]; rfl
theorem bod_size (m : HMsg) (hm : m.su.length ≤ 1000) (h1 : m.rn.size ≤ 100000) (h2 : m.sh.size ≤ 100000) (h3 : m.da.size ≤ 100000) : (bodB m).size ≤ 1000000 := by
  unfold bodB
  simp only [c2, c3]
  repeat' split
  all_goals try simp only [ByteArray.size_append, toB_size, suL_length, n2, n3, extC, extS, List.length_cons, List.length_nil]
  all_goals first | omega | (show (0 : Nat) ≤ _; omega)
set_option maxHeartbeats 2000000 in
theorem rencode_any (m : HMsg) (ao : Option Addr) (n c : Nat) (w : World) (hn : m.su.length = n) (hm : n ≤ 1000) (h1 : m.rn.size ≤ 100000) (h2 : m.sh.size ≤ 100000) (h3 : m.da.size ≤ 100000) (hz : ∀ k, -9223372036854775808 ≤ m.su.getD k 0 ∧ m.su.getD k 0 ≤ 9223372036854775807) (hI : IntsAt w ao m.su) :
    Calls Try.prog 10 #[.agg (msC m (.slice ao n c))] w fun e w' => e = .returned (.tuple #[.string (encX m), .int .i64 (encE m)]) ∧ Below w.heap.size w w' := by
  obtain ⟨k, rn, sh, su, da, ask⟩ := m
  dsimp only at hn h1 h2 h3 hz hI
  have HB0 := Lib.hid (below_new w (.cells (msC ⟨k, rn, sh, su, da, ask⟩ (.slice ao n c)) 31))
  obtain ⟨c0, c1, c2', c3', c4, c5⟩ := ms_cells (blk_new w (.cells (msC ⟨k, rn, sh, su, da, ask⟩ (.slice ao n c)) 31))
  dsimp only at c0 c1 c2' c3' c4 c5
  have HI := Lib.hid (hI.step (below_new w (.cells (msC ⟨k, rn, sh, su, da, ask⟩ (.slice ao n c)) 31)))
  have hsz : w.heap.size ≤ (w.alloc (.cells (msC ⟨k, rn, sh, su, da, ask⟩ (.slice ao n c)) 31)).heap.size := HB0.out.size
  have hbk := blk_lt (blk_new w (.cells (msC ⟨k, rn, sh, su, da, ask⟩ (.slice ao n c)) 31))
  have CBD : Hid (Calls Try.prog 17 #[.agg #[.int .i64 k, .string rn, .string sh, .slice ao n c, .string da, .bool ask]] (w.alloc (.cells (msC ⟨k, rn, sh, su, da, ask⟩ (.slice ao n c)) 31)) fun e w' => e = .returned (.tuple #[.string (bodB ⟨k, rn, sh, su, da, ask⟩), .bool (okM ⟨k, rn, sh, su, da, ask⟩)]) ∧ Below (w.alloc (.cells (msC ⟨k, rn, sh, su, da, ask⟩ (.slice ao n c)) 31)).heap.size (w.alloc (.cells (msC ⟨k, rn, sh, su, da, ask⟩ (.slice ao n c)) 31)) w') := Lib.hid (rbody_any ⟨k, rn, sh, su, da, ask⟩ ao n c _ hn hm h1 h2 h3 hz HI.out)
  have hbs := bod_size ⟨k, rn, sh, su, da, ask⟩ (by dsimp only; omega) h1 h2 h3
  have HX : Hid (encX ⟨k, rn, sh, su, da, ask⟩ = (if okM ⟨k, rn, sh, su, da, ask⟩ = true then toB [wbyte k 0] ++ c3 (bodB ⟨k, rn, sh, su, da, ask⟩) else emB) ∧ encE ⟨k, rn, sh, su, da, ask⟩ = if okM ⟨k, rn, sh, su, da, ask⟩ = true then 0 else 1) := Lib.hid ⟨rfl, rfl⟩
  generalize bodB ⟨k, rn, sh, su, da, ask⟩ = s at *
  cases hq : okM ⟨k, rn, sh, su, da, ask⟩ with
  | false =>
    rw [hq] at CBD HX
    clear hI hz hn hm h1 h2 h3 hq
    go_enter Try.func10, Try.ntmps10
    go_wp2_with fail
    refine CBD.out.mono ?_
    rintro e W1 ⟨rfl, hb1⟩
    go_wp2_with fail
    go_ret2
    exact ⟨by rw [HX.out.1, HX.out.2]; rfl, HB0.out.trans (hb1.mono hsz)⟩
  | true =>
    rw [hq] at CBD HX
    have CC := Lib.hid (fun W => rc3_any s W (by omega))
    have hcs := c3_size s
    generalize c3 s = t at *
    have ht : 1 + t.size ≤ 9223372036854775807 := by omega
    have ls1 : (⟨#[wbyte k 0]⟩ : ByteArray).size = 1 := rfl
    have wt : IntKind.u8.wrap k = ((wbyte k 0).toNat : Int) := by rw [IntKind.wrap_u8, wbyte_toNat]; simp
    generalize wbyte k 0 = kb at *
    clear hI hz hn hm h1 h2 h3 hq hcs hbs
    go_enter Try.func10, Try.ntmps10
    go_wp2_with fail
    refine CBD.out.mono ?_
    rintro e W1 ⟨rfl, hb1⟩
    have c0' := (hb1.cell (p := ⟨w.heap.size, 0, none⟩) hbk).trans c0
    have HB1 := Lib.hid (HB0.out.trans (hb1.mono hsz))
    have hsz1 := HB1.out.size
    clear hb1 CBD HB0 c0 c1 c2' c3' c4 c5 HI hbk
    generalize hBB : w.heap.size = B at *
    have HBB := Lib.hid hBB
    clear hBB
    go_wp2_with fail
    refine wp_region_told 8 21 [(Told.val (.pointer (some ⟨B, 0, none⟩)), [1]),
      (Told.val (.int .i64 k), [13]),
      (Told.val (.int .u8 (kb.toNat : Int)), [14]),
      (heOne (.int .u8 (kb.toNat : Int)), [15]),
      (Told.val (.string ⟨#[kb]⟩), [16]),
      (Told.val (.string s), [4]),
      (Told.val (.string t), [18]),
      (Told.val (.string (⟨#[kb]⟩ ++ t)), [17, 19])]
      (by kernel_rfl) (by kernel_rfl) rfl ?_ ?_
    · simp only [List.take_succ_cons, List.take_zero, toldObl, and_true]
      refine And.intro ?_ (And.intro ?_ (And.intro ?_ (And.intro ?_ (And.intro ?_ (And.intro ?_ (And.intro ?_ (?_)))))))
      · intro a w hb h
        have e0 : a.tmps.getD 1 undef = .pointer (some ⟨B, 0, none⟩) := h 1 (by simp)
        simp only [Array.getD_eq_getD_getElem?] at e0
        refine told_q ?_
        simp [go_sem, e0, sQuiet]
      · intro a w hb h
        have e0 : a.tmps.getD 13 undef = .pointer (some ⟨B, 0, none⟩) := h 13 (by simp)
        simp only [Array.getD_eq_getD_getElem?] at e0
        have hc := (hb.cell (block_lt_of_cell c0')).trans c0'
        refine told_q ?_
        simp [go_sem, e0, sQuiet, hc]
      · intro a w hb h
        have e0 : a.tmps.getD 14 undef = .int .i64 k := h 14 (by simp)
        simp only [Array.getD_eq_getD_getElem?] at e0
        refine told_q ?_
        simp [go_sem, e0, sQuiet, wt]
      · intro a w hb h
        have e0 : a.tmps.getD 15 undef = .int .u8 (kb.toNat : Int) := h 15 (by simp)
        simp only [Array.getD_eq_getD_getElem?] at e0
        simp [go_sem, e0, toldQuiet]
        exact ⟨below_new _ _, _, rfl, heOne_new _ _ _⟩
      · intro a w hb h
        have t0 := h 16 (by simp)
        replace t0 : (heOne (.int .u8 (kb.toNat : Int))).T w (a.tmps.getD 16 undef) := t0
        obtain ⟨g0, e0, c0⟩ := t0
        simp only [Array.getD_eq_getD_getElem?] at e0
        have hcv := conv_text w g0 0 1 1 [kb] rfl (fun j x hx => by
          rw [Nat.zero_add]
          match j, hx with
          | 0, hx => simp at hx; subst hx; exact c0
          | j + 1, hx => simp at hx)
        refine told_q ?_
        simp [go_sem, e0, sQuiet, hcv]
      · intro a w hb h
        have e0 : a.tmps.getD 4 undef = .string s := h 4 (by simp)
        simp only [Array.getD_eq_getD_getElem?] at e0
        refine told_q ?_
        simp [go_sem, e0, sQuiet]
      · intro a w hb h
        have e0 : a.tmps.getD 18 undef = .string s := h 18 (by simp)
        simp only [Array.getD_eq_getD_getElem?] at e0
        refine told_q ?_
        simp [go_sem, e0, sQuiet]
        exact CC.out _
      · intro a w hb h
        have e0 : a.tmps.getD 17 undef = .string ⟨#[kb]⟩ := h 17 (by simp)
        have e1 : a.tmps.getD 19 undef = .string t := h 19 (by simp)
        simp only [Array.getD_eq_getD_getElem?] at e0 e1
        refine told_q ?_
        simp [go_sem, e0, e1, sQuiet, ls1, Nat.not_lt.2 ht]
    simp only [List.take_succ_cons, List.take_zero, List.drop_succ_cons, List.drop_zero, toldEnd, Act.put, List.setIfInBounds_toArray, List.set_cons_succ, List.set_cons_zero]
    rintro X bk v13 q13 v14 q14 v15 q15 v16 q16 v17 q17 v18 q18 v19 q19 v20 q20
    obtain rfl := q13.symm
    obtain rfl := q14.symm
    obtain rfl := q15.symm
    obtain rfl := q17.symm
    obtain rfl := q18.symm
    obtain rfl := q19.symm
    obtain rfl := q20.symm
    clear q13 q14 q15 q17 q18 q19 q20
    clear q16
    go_wp2_with fail
    go_ret2
    exact ⟨by rw [HX.out.1, HX.out.2]; rfl, by rw [HBB.out]; exact HB1.out.trans (bk.mono hsz1)⟩
end Go.Proofs.Ytjemikbnncfonaa
