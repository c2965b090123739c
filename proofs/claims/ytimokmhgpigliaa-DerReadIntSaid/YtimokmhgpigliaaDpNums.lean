/- Package der: the numbers of an object identifier, of its values: numbersOf. -/
import Derived.Test.YtimokmhgpigliaaDpVal
import Derived.Test.YtimokmhgpigliaaDpMin
namespace Go.Proofs.Ytimokmhgpigliaa
open Go.RowKit Go.Sort
set_option maxRecDepth 100000
set_option linter.unusedSimpArgs false
set_option linter.unusedVariables false

/-- A slice of two cells of the caller's own. -/
def tTwo (B : Nat) (x y : Value) : Told := ⟨fun w v => ∃ g, v = .slice (some ⟨g, 0, none⟩) 2 2 ∧ OwnS w B g 2 [x, y], fun w w' v hb ⟨g, e, hc⟩ => ⟨g, e, hc.stays hb⟩⟩
theorem two_new (w : World) (B : Nat) (x y : Value) (hx : x.oneCell' = true) (hy : y.oneCell' = true) (hB : B ≤ w.heap.size) : OwnS (w.alloc (.cells #[x, y] 3)) B w.heap.size 2 [x, y] := by
  have h : (w.alloc (.cells #[x, y] 3)).ownsRow B 3 1 (.slice (some ⟨w.heap.size, 0, none⟩) 2 2) 2 [x, y] :=
    ⟨rfl, .inr ⟨w.heap.size, 2, _, rfl, hB, blk_new w _, by omega, by unfold maxLen; omega, rfl, rfl⟩⟩
  obtain ⟨g, c, e, ho, _⟩ := (own_of_row h).1.some (by simp)
  cases e
  exact ho
/-- The first two numbers. -/
theorem first_two (v : Nat) : firstOf v = [min ((v : Int) / 40) 2, (v : Int) - 40 * min ((v : Int) / 40) 2] := by
  rw [firstOf]
  by_cases c : v / 40 < 2
  · rw [if_pos c, Int.min_eq_left (by omega)]
    congr 1
    congr 1
    omega
  · rw [if_neg c, Int.min_eq_right (by omega)]
    rfl
theorem names_cells (v : Nat) (r : List Nat) : iCells (namesOf (v :: r)) = [.int .i64 (min ((v : Int) / 40) 2), .int .i64 ((v : Int) - 40 * min ((v : Int) / 40) 2)] ++ iCells (nats r) := by
  rw [namesOf, first_two, iCells_append]
  rfl
set_option maxHeartbeats 8000000 in
theorem numbersOf_any (g n c B : Nat) (v : Nat) (r : List Nat) (w : World) (hn : (v :: r).length = n) (hn20 : n ≤ 19) (hv : v ≤ 268435455) (ho : OwnS w B g c (iCells (nats (v :: r)))) (hB0 : B ≤ w.heap.size) :
    Calls Try.prog 46 #[.slice (some ⟨g, 0, none⟩) n c] w fun e w' => (∃ ao cp, e = .returned (.slice ao (n + 1) cp) ∧ IntsAt w' ao (namesOf (v :: r)) ∧ n + 1 ≤ cp) ∧ Below B w w' := by
  obtain ⟨i0', hi, hz0, hz1, hz2⟩ := info_parts infoI13
  have hcells : (iCells (nats (v :: r))).length = n := by rw [iCells_length, nats_length]; exact hn
  have hcn : n ≤ c := by have := ho.le; omega
  have hn1 : 1 ≤ n := by rw [← hn]; simp
  have c0 : w.cell? ⟨g, 0, none⟩ = some (.int .i64 (v : Int)) := ho.cells 0 _ rfl
  have i0 : (0 : Int) < (n : Int) := by omega
  have j0 : 0 < n := by omega
  have i1 : (1 : Int) ≤ (n : Int) := by omega
  obtain ⟨m, hnm⟩ : ∃ m, n - 1 = m := ⟨_, rfl⟩
  have HNM : Hid (n = m + 1) := Lib.hid (by omega)
  have HR : Hid (r.length = m) := Lib.hid (by have : r.length + 1 = n := hn; omega)
  have HO := Lib.hid ho
  have hb0 := Below.refl B w
  obtain ⟨f, hf⟩ : ∃ f, min ((v : Int) / 40) 2 = f := ⟨_, rfl⟩
  have hf0 : 0 ≤ f := by omega
  have hf2 : f ≤ 2 := by omega
  have w40 : IntKind.i64.wrap (40 * f) = 40 * f := by rw [IntKind.wrap_i64]; omega
  have wS : IntKind.i64.wrap ((v : Int) - 40 * f) = (v : Int) - 40 * f := by rw [IntKind.wrap_i64]; omega
  have hq : (v : Int).tdiv 40 = (v : Int) / 40 := Int.tdiv_eq_ediv_of_nonneg (by omega)
  have HC : Hid (iCells (namesOf (v :: r)) = [.int .i64 f, .int .i64 ((v : Int) - 40 * f)] ++ iCells (nats r)) := Lib.hid (by rw [names_cells, hf])
  have HCR : Hid (∀ j u, (iCells (nats r))[j]? = some u → w.cell? ⟨g, 1 + j, none⟩ = some u) := Lib.hid (fun j u hj => ho.cells (1 + j) u (by
    rw [show nats (v :: r) = (v : Int) :: nats r from rfl, show iCells ((v : Int) :: nats r) = .int .i64 (v : Int) :: iCells (nats r) from rfl, Nat.add_comm 1 j, List.getElem?_cons_succ]
    exact hj))
  have HL : Hid ((iCells (nats r)).length = m) := Lib.hid (by rw [iCells_length, nats_length]; exact HR.out)
  have HLZ : Hid ((namesOf (v :: r)).length = n + 1) := Lib.hid (by
    have := congrArg List.length HC.out
    rw [iCells_length, List.length_append, HL.out] at this
    simp at this
    omega)
  have hfz := hf
  have hw4 : IntKind.i64.wrap ((v : Int) / 40) = (v : Int) / 40 := by rw [IntKind.wrap_i64]; omega
  clear ho hcells hn
  by_cases hc1 : c = 1
  · obtain rfl : m = 0 := by omega
    obtain rfl : n = 1 := by omega
    subst hc1
    clear hfz
    go_enter Try.func46, Try.ntmps46
    go_wp2_with fail
    refine wp_region_told 10 20 [(Told.val (.int .i64 f), [3]),
      (Told.val (.slice (some ⟨g, 0, none⟩) 1 1), [0]),
      (Told.val (.pointer (some ⟨g, 0, none⟩)), [10]),
      (Told.val (.int .i64 (v : Int)), [11]),
      (Told.val (.int .i64 f), [3]),
      (Told.val (.int .i64 (40 * f)), [13]),
      (Told.val (.int .i64 ((v : Int) - 40 * f)), [12, 14]),
      (tTwo B (.int .i64 f) (.int .i64 ((v : Int) - 40 * f)), [9, 15]),
      (Told.val (.slice (some ⟨g, 0, none⟩) 1 1), [0]),
      (Told.val (.slice (some ⟨g, 0, none⟩) 0 0), [17])]
      (by kernel_rfl) (by kernel_rfl) rfl ?_ ?_
    · simp only [List.take_succ_cons, List.take_zero, toldObl, and_true]
      refine And.intro ?_ (And.intro ?_ (And.intro ?_ (And.intro ?_ (And.intro ?_ (And.intro ?_ (And.intro ?_ (And.intro ?_ (And.intro ?_ (?_)))))))))
      · intro a w hb h
        have e0 : a.tmps.getD 3 undef = .int .i64 f := h 3 (by simp)
        simp only [Array.getD_eq_getD_getElem?] at e0
        refine told_q ?_
        simp [go_sem, e0, sQuiet]
      · intro a w hb h
        have e0 : a.tmps.getD 0 undef = .slice (some ⟨g, 0, none⟩) 1 1 := h 0 (by simp)
        simp only [Array.getD_eq_getD_getElem?] at e0
        refine told_q ?_
        simp [go_sem, e0, sQuiet]
      · intro a w hb h
        have e0 : a.tmps.getD 10 undef = .slice (some ⟨g, 0, none⟩) 1 1 := h 10 (by simp)
        simp only [Array.getD_eq_getD_getElem?] at e0
        refine told_q ?_
        simp [go_sem, e0, sQuiet, i0, j0]
      · intro a w hb h
        have e0 : a.tmps.getD 11 undef = .pointer (some ⟨g, 0, none⟩) := h 11 (by simp)
        simp only [Array.getD_eq_getD_getElem?] at e0
        have hc := (hb.cell (block_lt_of_cell c0)).trans c0
        refine told_q ?_
        simp [go_sem, e0, sQuiet, hc]
      · intro a w hb h
        have e0 : a.tmps.getD 3 undef = .int .i64 f := h 3 (by simp)
        simp only [Array.getD_eq_getD_getElem?] at e0
        refine told_q ?_
        simp [go_sem, e0, sQuiet]
      · intro a w hb h
        have e0 : a.tmps.getD 13 undef = .int .i64 f := h 13 (by simp)
        simp only [Array.getD_eq_getD_getElem?] at e0
        refine told_q ?_
        simp [go_sem, e0, sQuiet, w40]
      · intro a w hb h
        have e0 : a.tmps.getD 12 undef = .int .i64 (v : Int) := h 12 (by simp)
        have e1 : a.tmps.getD 14 undef = .int .i64 (40 * f) := h 14 (by simp)
        simp only [Array.getD_eq_getD_getElem?] at e0 e1
        refine told_q ?_
        simp [go_sem, e0, e1, sQuiet, wS]
      · intro a w hb h
        have e0 : a.tmps.getD 9 undef = .int .i64 f := h 9 (by simp)
        have e1 : a.tmps.getD 15 undef = .int .i64 ((v : Int) - 40 * f) := h 15 (by simp)
        simp only [Array.getD_eq_getD_getElem?] at e0 e1
        have hBw : B ≤ w.heap.size := Nat.le_trans hB0 hb.size
        simp [go_sem, e0, e1, toldQuiet]
        exact ⟨below_new _ _, _, rfl, two_new _ B _ _ rfl rfl hBw⟩
      · intro a w hb h
        have e0 : a.tmps.getD 0 undef = .slice (some ⟨g, 0, none⟩) 1 1 := h 0 (by simp)
        simp only [Array.getD_eq_getD_getElem?] at e0
        refine told_q ?_
        simp [go_sem, e0, sQuiet]
      · intro a w hb h
        have e0 : a.tmps.getD 17 undef = .slice (some ⟨g, 0, none⟩) 1 1 := h 17 (by simp)
        simp only [Array.getD_eq_getD_getElem?] at e0
        refine told_q ?_
        simp [go_sem, e0, sQuiet]
    simp only [List.take_succ_cons, List.take_zero, List.drop_succ_cons, List.drop_zero, toldEnd, Act.put, List.setIfInBounds_toArray, List.set_cons_succ, List.set_cons_zero]
    rintro X bk v9 q9 v10 q10 v11 q11 v12 q12 v13 q13 v14 q14 v15 q15 v16 q16 v17 q17 v18 q18
    obtain rfl := q9.symm
    obtain rfl := q10.symm
    obtain rfl := q11.symm
    obtain rfl := q12.symm
    obtain rfl := q13.symm
    obtain rfl := q14.symm
    obtain rfl := q15.symm
    obtain rfl := q17.symm
    obtain rfl := q18.symm
    clear q9 q10 q11 q12 q13 q14 q15 q17 q18
    obtain ⟨g16, rfl, ho16⟩ := q16
    have hBX : B ≤ X.heap.size := Nat.le_trans hB0 bk.size
    have hb1 := hb0.trans (bk.mono hB0)
    have HO16 := Lib.hid ho16
    have HCX := Lib.hid (show ∀ j u, (iCells (nats r))[j]? = some u → X.cell? ((⟨g, 0, none⟩ : Addr).add j) = some u from fun j u hj => by
      rw [List.getElem?_eq_none (by rw [HL.out]; omega)] at hj
      cases hj)
    clear ho16 bk c0 hb0
    go_wp2_with (at_builtin; refine wpList_append_sl rfl (.tmp 16) (.tmp 18) 34 rfl B 3 i0' (.int .i64 0) 8 Try.underlying34 hi hz0 hz1 hz2 rfl (some ⟨g16, 0, none⟩) 2 2 [.int .i64 f, .int .i64 ((v : Int) - 40 * f)] rfl (.inr ⟨g16, 2, rfl, HO16.out⟩) rfl ⟨g, 0, none⟩ 0 0 (iCells (nats r)) rfl HL.out HCX.out ?p2 ?p3 ?p4 hBX ?_)
    case p2 => intro u hu; simp [iCells] at hu; obtain ⟨x, _, rfl⟩ := hu; rfl
    case p3 => omega
    case p4 => omega
    intro ao7 cp7 W7 hown7 hgrow7
    have hb7 : Below B w W7 := below_append hb1 hBX (.inr ⟨g16, 2, rfl, HO16.out⟩) hgrow7
    have hown7 : Own W7 B (.slice ao7 2 cp7) (iCells (namesOf (v :: r))) := by rw [HC.out]; exact hown7
    have HW := Lib.hid hown7
    skip
    clear hown7 hgrow7 HO16 HCX hb1
    go_wp2_with fail
    go_ret
    obtain ⟨gg, cc, e, hoG, _⟩ := HW.out.some (by rw [iCells_length, HLZ.out]; omega)
    have hle := hoG.le
    rw [iCells_length, HLZ.out] at e hle
    have hcc : cp7 = cc := (Value.slice.inj e).2.2
    refine ⟨⟨ao7, cp7, by first | (rw [HM1.out]; rfl) | rfl, ?_, by omega⟩, hb7⟩
    have hW := HW.out
    exact IntsAt.own hW HLZ.out
  · clear hfz
    go_enter Try.func46, Try.ntmps46
    go_wp2_with fail
    refine wp_region_told 10 20 [(Told.val (.int .i64 f), [3]),
      (Told.val (.slice (some ⟨g, 0, none⟩) n c), [0]),
      (Told.val (.pointer (some ⟨g, 0, none⟩)), [10]),
      (Told.val (.int .i64 (v : Int)), [11]),
      (Told.val (.int .i64 f), [3]),
      (Told.val (.int .i64 (40 * f)), [13]),
      (Told.val (.int .i64 ((v : Int) - 40 * f)), [12, 14]),
      (tTwo B (.int .i64 f) (.int .i64 ((v : Int) - 40 * f)), [9, 15]),
      (Told.val (.slice (some ⟨g, 0, none⟩) n c), [0]),
      (Told.val (.slice (some ⟨g, 1, none⟩) m (c - 1)), [17])]
      (by kernel_rfl) (by kernel_rfl) rfl ?_ ?_
    · simp only [List.take_succ_cons, List.take_zero, toldObl, and_true]
      refine And.intro ?_ (And.intro ?_ (And.intro ?_ (And.intro ?_ (And.intro ?_ (And.intro ?_ (And.intro ?_ (And.intro ?_ (And.intro ?_ (?_)))))))))
      · intro a w hb h
        have e0 : a.tmps.getD 3 undef = .int .i64 f := h 3 (by simp)
        simp only [Array.getD_eq_getD_getElem?] at e0
        refine told_q ?_
        simp [go_sem, e0, sQuiet]
      · intro a w hb h
        have e0 : a.tmps.getD 0 undef = .slice (some ⟨g, 0, none⟩) n c := h 0 (by simp)
        simp only [Array.getD_eq_getD_getElem?] at e0
        refine told_q ?_
        simp [go_sem, e0, sQuiet]
      · intro a w hb h
        have e0 : a.tmps.getD 10 undef = .slice (some ⟨g, 0, none⟩) n c := h 10 (by simp)
        simp only [Array.getD_eq_getD_getElem?] at e0
        refine told_q ?_
        simp [go_sem, e0, sQuiet, i0, j0]
      · intro a w hb h
        have e0 : a.tmps.getD 11 undef = .pointer (some ⟨g, 0, none⟩) := h 11 (by simp)
        simp only [Array.getD_eq_getD_getElem?] at e0
        have hc := (hb.cell (block_lt_of_cell c0)).trans c0
        refine told_q ?_
        simp [go_sem, e0, sQuiet, hc]
      · intro a w hb h
        have e0 : a.tmps.getD 3 undef = .int .i64 f := h 3 (by simp)
        simp only [Array.getD_eq_getD_getElem?] at e0
        refine told_q ?_
        simp [go_sem, e0, sQuiet]
      · intro a w hb h
        have e0 : a.tmps.getD 13 undef = .int .i64 f := h 13 (by simp)
        simp only [Array.getD_eq_getD_getElem?] at e0
        refine told_q ?_
        simp [go_sem, e0, sQuiet, w40]
      · intro a w hb h
        have e0 : a.tmps.getD 12 undef = .int .i64 (v : Int) := h 12 (by simp)
        have e1 : a.tmps.getD 14 undef = .int .i64 (40 * f) := h 14 (by simp)
        simp only [Array.getD_eq_getD_getElem?] at e0 e1
        refine told_q ?_
        simp [go_sem, e0, e1, sQuiet, wS]
      · intro a w hb h
        have e0 : a.tmps.getD 9 undef = .int .i64 f := h 9 (by simp)
        have e1 : a.tmps.getD 15 undef = .int .i64 ((v : Int) - 40 * f) := h 15 (by simp)
        simp only [Array.getD_eq_getD_getElem?] at e0 e1
        have hBw : B ≤ w.heap.size := Nat.le_trans hB0 hb.size
        simp [go_sem, e0, e1, toldQuiet]
        exact ⟨below_new _ _, _, rfl, two_new _ B _ _ rfl rfl hBw⟩
      · intro a w hb h
        have e0 : a.tmps.getD 0 undef = .slice (some ⟨g, 0, none⟩) n c := h 0 (by simp)
        simp only [Array.getD_eq_getD_getElem?] at e0
        refine told_q ?_
        simp [go_sem, e0, sQuiet]
      · intro a w hb h
        have e0 : a.tmps.getD 17 undef = .slice (some ⟨g, 0, none⟩) n c := h 17 (by simp)
        simp only [Array.getD_eq_getD_getElem?] at e0
        refine told_q ?_
        simp [go_sem, e0, sQuiet, hnm, i1, hc1]
    simp only [List.take_succ_cons, List.take_zero, List.drop_succ_cons, List.drop_zero, toldEnd, Act.put, List.setIfInBounds_toArray, List.set_cons_succ, List.set_cons_zero]
    rintro X bk v9 q9 v10 q10 v11 q11 v12 q12 v13 q13 v14 q14 v15 q15 v16 q16 v17 q17 v18 q18
    obtain rfl := q9.symm
    obtain rfl := q10.symm
    obtain rfl := q11.symm
    obtain rfl := q12.symm
    obtain rfl := q13.symm
    obtain rfl := q14.symm
    obtain rfl := q15.symm
    obtain rfl := q17.symm
    obtain rfl := q18.symm
    clear q9 q10 q11 q12 q13 q14 q15 q17 q18
    obtain ⟨g16, rfl, ho16⟩ := q16
    have hBX : B ≤ X.heap.size := Nat.le_trans hB0 bk.size
    have hb1 := hb0.trans (bk.mono hB0)
    have HO16 := Lib.hid ho16
    have HCX := Lib.hid (show ∀ j u, (iCells (nats r))[j]? = some u → X.cell? ((⟨g, 1, none⟩ : Addr).add j) = some u from fun j u hj => by
      have hadd : (⟨g, 1, none⟩ : Addr).add j = ⟨g, 1 + j, none⟩ := by unfold Addr.add; split <;> simp_all
      rw [hadd]
      have := HCR.out j u hj
      exact (bk.cell (block_lt_of_cell this)).trans this)
    clear ho16 bk c0 hb0
    go_wp2_with (at_builtin; refine wpList_append_sl rfl (.tmp 16) (.tmp 18) 34 rfl B 3 i0' (.int .i64 0) 8 Try.underlying34 hi hz0 hz1 hz2 rfl (some ⟨g16, 0, none⟩) 2 2 [.int .i64 f, .int .i64 ((v : Int) - 40 * f)] rfl (.inr ⟨g16, 2, rfl, HO16.out⟩) rfl ⟨g, 1, none⟩ m (c - 1) (iCells (nats r)) rfl HL.out HCX.out ?p2 ?p3 ?p4 hBX ?_)
    case p2 => intro u hu; simp [iCells] at hu; obtain ⟨x, _, rfl⟩ := hu; rfl
    case p3 => omega
    case p4 => omega
    intro ao7 cp7 W7 hown7 hgrow7
    have hb7 : Below B w W7 := below_append hb1 hBX (.inr ⟨g16, 2, rfl, HO16.out⟩) hgrow7
    have hown7 : Own W7 B (.slice ao7 (2 + m) cp7) (iCells (namesOf (v :: r))) := by rw [HC.out]; exact hown7
    have HW := Lib.hid hown7
    have HM1 : Hid (2 + m = n + 1) := Lib.hid (by rw [HNM.out]; omega)
    clear hown7 hgrow7 HO16 HCX hb1
    go_wp2_with fail
    go_ret
    obtain ⟨gg, cc, e, hoG, _⟩ := HW.out.some (by rw [iCells_length, HLZ.out]; omega)
    have hle := hoG.le
    rw [iCells_length, HLZ.out] at e hle
    have hcc : cp7 = cc := (Value.slice.inj e).2.2
    refine ⟨⟨ao7, cp7, by first | (rw [HM1.out]; rfl) | rfl, ?_, by omega⟩, hb7⟩
    have hW := HW.out
    rw [HM1.out] at hW
    exact IntsAt.own hW HLZ.out
end Go.Proofs.Ytimokmhgpigliaa
