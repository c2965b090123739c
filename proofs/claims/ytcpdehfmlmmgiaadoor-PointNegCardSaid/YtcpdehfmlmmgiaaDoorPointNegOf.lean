/- PointNeg, whatever the program's points are. -/
import Derived.Test.YtcpdehfmlmmgiaaDoorPtSmall
namespace Go.Proofs.YtcpdehfmlmmgiaaDoor
open Go.RowKit Go.Sort
set_option maxRecDepth 100000
set_option linter.unusedSimpArgs false
set_option linter.unusedVariables false

set_option maxHeartbeats 8000000 in
theorem pointNeg_of {IsPt : Array Value → PtN → Prop} {zv : Array Value} {N : Nat} (C : PtCalls IsPt zv N) (HA : ∀ W : World, PrmQ W → Calls Tryd.prog 15 #[] W fun e w' => e = .returned (.bool true) ∧ Below W.heap.size W w') (s : ByteArray) (w : World) (hT : PrmQ w) :
    Calls Tryd.prog 8 #[.string s] w fun e w' => e = .returned (.bool true) ∧ Below w.heap.size w w' := by
  have hok := ofPT_ok s
  have CO := Lib.hid (C.of s)
  have CR := Lib.hid (rofT_any s)
  generalize ofPT s = p at *
  generalize ofET s = q at *
  have hn := negP_ok p hok
  have hnn := negP_negP p hok
  have CN := Lib.hid (fun cs W h hT => C.neg cs p W h hT)
  have CN2 := Lib.hid (fun cs W h hT => C.neg cs (negP p) W h hT)
  rw [hnn] at CN2
  have RN := Lib.hid (fun v W h => rneg_any v p W hok h)
  generalize negP p = np at *
  have CB := Lib.hid (fun cs W h hT => C.bytes cs p W h hT)
  have CB2 := Lib.hid (fun cs W h hT => C.bytes cs np W h hT)
  have RB2 := Lib.hid (fun v W h => rbytesT_any v np W hn h)
  generalize txtP p = t1 at *
  generalize txtP np = t2 at *
  have x1 : (t1.toList == t1.toList) = true := by simp
  have x2 : (t2.toList == t2.toList) = true := by simp
  clear hnn hok hn
  have hzP := (zero_of_info C.info).1
  have hzR := (zero_of_info infoR).1
  have HP := Lib.hid hT
  have hb := Below.refl w.heap.size w
  have hgl := HP.out.lt
  have HAw := Lib.hid HA
  clear hT HA
  go_enter Tryd.func8, Tryd.ntmps8
  go_wp2_with fail
  refine (CO.out w HP.out).mono ?_
  rintro e W1 ⟨⟨cs, rfl, hcs⟩, bk⟩
  have Hcs := Lib.hid hcs
  clear hcs
  replace hb := hb.trans (bk.mono hb.size)
  replace HP := Lib.hid (HP.out.step bk)
  clear bk
  have HN := Lib.hid (blk_new W1 (.cells zv 28))
  have bn := below_new W1 (.cells zv 28)
  have Scs := Lib.hid (C.isz Hcs.out); have Ocs := Lib.hid (C.zsz Hcs.out); have Ics := Lib.hid (C.one _ _ Hcs.out)
  go_wp2_with (with_reducible refine wpList_store_row rfl 28 _ _ rfl W1.heap.size cs rfl rfl 28 _ HN.out Scs.out Ocs.out Ics.out ?_)
  have Bcs := Lib.hid (setRow_heap _ W1.heap.size _ cs _ _ HN.out)
  have bk := below_setRow bn (Nat.le_refl _) cs
  have hg1 := hb.size
  replace hb := hb.trans (bk.mono hb.size)
  replace HP := Lib.hid (HP.out.step bk)
  clear bk
  generalize (World.setRow (World.alloc _ _) _ _) = V2 at *
  generalize W1.heap.size = g1 at *
  clear bn HN
  refine (CR.out V2).mono ?_
  rintro e W3 ⟨⟨vr, rfl, hvr⟩, bk⟩
  have Hvr := Lib.hid hvr
  clear hvr
  replace hb := hb.trans (bk.mono hb.size)
  replace HP := Lib.hid (HP.out.step bk)
  replace Bcs := Lib.hid (blk_below bk (blk_lt Bcs.out) Bcs.out)
  clear bk
  obtain ⟨ra, rb, rc, rd, rfl⟩ := Hvr.out.four
  have HN := Lib.hid (blk_new W3 (.cells zeroR 34))
  have bn := below_new W3 (.cells zeroR 34)
  have Svr := Lib.hid (sizeR ra rb rc rd); have Ovr := Lib.hid (zeroR_size ra rb rc rd); have Ivr := Lib.hid Hvr.out.one
  have Bvr := Lib.hid (setRow_heap _ W3.heap.size _ #[ra, rb, rc, rd] _ _ HN.out)
  have bk := below_setRow bn (Nat.le_refl _) #[ra, rb, rc, rd]
  go_wp2_with (with_reducible refine wpList_store_row rfl 34 _ _ rfl W3.heap.size #[ra, rb, rc, rd] rfl rfl 34 _ HN.out Svr.out Ovr.out Ivr.out ?_)
  replace hb := hb.trans (bk.mono hb.size)
  replace HP := Lib.hid (HP.out.step bk)
  replace Bcs := Lib.hid (blk_below bk (blk_lt Bcs.out) Bcs.out)
  replace Hvr := Lib.hid (Hvr.out.step bk)
  clear bk
  generalize (World.setRow (World.alloc _ _) _ _) = V4 at *
  generalize W3.heap.size = g2 at *
  clear bn HN
  refine wp_region_toldg 19 36 [(Told.val (.agg cs), [3]),
    (tIs IsPt np, [17]),
    (Told.val (.string t2), [18]),
    (Told.val (.agg #[ra, rb, rc, rd]), [5]),
    (tPt np, [20]),
    (Told.val (.string t2), [21]),
    (Told.val (.bool true), [19, 22]),
    (Told.val (.bool true), [23]),
    (Told.val (.agg cs), [3]),
    (tIs IsPt np, [25]),
    (tIs IsPt p, [26]),
    (Told.val (.string t1), [27]),
    (Told.val (.agg cs), [3]),
    (Told.val (.string t1), [29]),
    (Told.val (.bool true), [28, 30]),
    (Told.val (.bool true), [24, 31]),
    (Told.val (.bool true), [32]),
    (Told.val (.bool true), []),
    (Told.val (.bool true), [33, 34])]
    (by kernel_rfl) (by kernel_rfl) rfl (by simp [toldGuards, Told.val]) ?_ ?_
  · simp only [List.take_succ_cons, List.take_zero, toldObl, and_true]
    refine ⟨?_, ?_, ?_, ?_, ?_, ?_, ?_, ?_, ?_, ?_, ?_, ?_, ?_, ?_, ?_, ?_, ?_, ?_, ?_⟩
    · intro a w hb h
      have e0 : a.tmps.getD 3 undef = (.pointer (some ⟨g1, 0, none⟩)) := h 3 (by simp)
      exact told_of_sQuiet (sQuiet_load_row 28 (.tmp 3) rfl g1 e0 28 _ (0, 0) _ (blk_below hb (blk_lt Bcs.out) Bcs.out) Tryd.underlying28 rfl Scs.out)
    · intro a w hb h
      have e0 : a.tmps.getD 17 undef = (.agg cs) := h 17 (by simp)
      simp only [Array.getD_eq_getD_getElem?] at e0
      simp [go_sem, e0, toldQuiet]
      exact isOf (CN.out cs w Hcs.out (HP.out.step hb))
    · intro a w hb h
      obtain ⟨u0, e0, f0⟩ : ∃ cs, a.tmps.getD 18 undef = .agg cs ∧ IsPt cs np := h 18 (by simp)
      simp only [Array.getD_eq_getD_getElem?] at e0
      simp [go_sem, e0, toldQuiet]
      exact valOf (CB2.out u0 w f0 (HP.out.step hb))
    · intro a w hb h
      have e0 : a.tmps.getD 5 undef = (.pointer (some ⟨g2, 0, none⟩)) := h 5 (by simp)
      exact told_of_sQuiet (sQuiet_load_row 34 (.tmp 5) rfl g2 e0 34 _ (0, 0) _ (blk_below hb (blk_lt Bvr.out) Bvr.out) Tryd.underlying34 rfl Svr.out)
    · intro a w hb h
      have e0 : a.tmps.getD 20 undef = (.agg #[ra, rb, rc, rd]) := h 20 (by simp)
      simp only [Array.getD_eq_getD_getElem?] at e0
      simp [go_sem, e0, toldQuiet]
      exact ptOf (RN.out _ w (Hvr.out.step hb))
    · intro a w hb h
      have f0 : PtAt w (a.tmps.getD 21 undef) np := h 21 (by simp)
      obtain ⟨u0, e0⟩ : ∃ u, a.tmps.getD 21 undef = u := ⟨_, rfl⟩
      rw [e0] at f0
      simp only [Array.getD_eq_getD_getElem?] at e0
      simp [go_sem, e0, toldQuiet]
      exact valOf (RB2.out u0 w f0)
    · intro a w hb h
      have e0 : a.tmps.getD 19 undef = (.string t2) := h 19 (by simp)
      have e1 : a.tmps.getD 22 undef = (.string t2) := h 22 (by simp)
      simp only [Array.getD_eq_getD_getElem?] at e0 e1
      simp [go_sem, e0, e1, toldQuiet, Told.val, x2]
      exact Below.refl _ _
    · intro a w hb h
      have e0 : a.tmps.getD 23 undef = (.bool true) := h 23 (by simp)
      simp only [Array.getD_eq_getD_getElem?] at e0
      simp [go_sem, e0, toldQuiet, Told.val]
      exact Below.refl _ _
    · intro a w hb h
      have e0 : a.tmps.getD 3 undef = (.pointer (some ⟨g1, 0, none⟩)) := h 3 (by simp)
      exact told_of_sQuiet (sQuiet_load_row 28 (.tmp 3) rfl g1 e0 28 _ (0, 0) _ (blk_below hb (blk_lt Bcs.out) Bcs.out) Tryd.underlying28 rfl Scs.out)
    · intro a w hb h
      have e0 : a.tmps.getD 25 undef = (.agg cs) := h 25 (by simp)
      simp only [Array.getD_eq_getD_getElem?] at e0
      simp [go_sem, e0, toldQuiet]
      exact isOf (CN.out cs w Hcs.out (HP.out.step hb))
    · intro a w hb h
      obtain ⟨u0, e0, f0⟩ : ∃ cs, a.tmps.getD 26 undef = .agg cs ∧ IsPt cs np := h 26 (by simp)
      simp only [Array.getD_eq_getD_getElem?] at e0
      simp [go_sem, e0, toldQuiet]
      exact isOf (CN2.out u0 w f0 (HP.out.step hb))
    · intro a w hb h
      obtain ⟨u0, e0, f0⟩ : ∃ cs, a.tmps.getD 27 undef = .agg cs ∧ IsPt cs p := h 27 (by simp)
      simp only [Array.getD_eq_getD_getElem?] at e0
      simp [go_sem, e0, toldQuiet]
      exact valOf (CB.out u0 w f0 (HP.out.step hb))
    · intro a w hb h
      have e0 : a.tmps.getD 3 undef = (.pointer (some ⟨g1, 0, none⟩)) := h 3 (by simp)
      exact told_of_sQuiet (sQuiet_load_row 28 (.tmp 3) rfl g1 e0 28 _ (0, 0) _ (blk_below hb (blk_lt Bcs.out) Bcs.out) Tryd.underlying28 rfl Scs.out)
    · intro a w hb h
      have e0 : a.tmps.getD 29 undef = (.agg cs) := h 29 (by simp)
      simp only [Array.getD_eq_getD_getElem?] at e0
      simp [go_sem, e0, toldQuiet]
      exact valOf (CB.out cs w Hcs.out (HP.out.step hb))
    · intro a w hb h
      have e0 : a.tmps.getD 28 undef = (.string t1) := h 28 (by simp)
      have e1 : a.tmps.getD 30 undef = (.string t1) := h 30 (by simp)
      simp only [Array.getD_eq_getD_getElem?] at e0 e1
      simp [go_sem, e0, e1, toldQuiet, Told.val, x1]
      exact Below.refl _ _
    · intro a w hb h
      have e0 : a.tmps.getD 24 undef = (.bool true) := h 24 (by simp)
      have e1 : a.tmps.getD 31 undef = (.bool true) := h 31 (by simp)
      simp only [Array.getD_eq_getD_getElem?] at e0 e1
      simp [go_sem, e0, e1, toldQuiet, Told.val]
      exact Below.refl _ _
    · intro a w hb h
      have e0 : a.tmps.getD 32 undef = (.bool true) := h 32 (by simp)
      simp only [Array.getD_eq_getD_getElem?] at e0
      simp [go_sem, e0, toldQuiet, Told.val]
      exact Below.refl _ _
    · intro a w hb h
      simp [go_sem, toldQuiet]
      exact valOf (HAw.out w (HP.out.step hb))
    · intro a w hb h
      have e0 : a.tmps.getD 33 undef = (.bool true) := h 33 (by simp)
      have e1 : a.tmps.getD 34 undef = (.bool true) := h 34 (by simp)
      simp only [Array.getD_eq_getD_getElem?] at e0 e1
      simp [go_sem, e0, e1, toldQuiet, Told.val]
      exact Below.refl _ _
  · simp only [List.take_succ_cons, List.take_zero, List.drop_succ_cons, List.drop_zero, toldEnd, Act.put, List.setIfInBounds_toArray, List.set_cons_succ, List.set_cons_zero]
    intro W5 bk v17 q17 v18 q18 v19 q19 v20 q20 v21 q21 v22 q22 v23 q23 v24 q24 v25 q25 v26 q26 v27 q27 v28 q28 v29 q29 v30 q30 v31 q31 v32 q32 v33 q33 v34 q34 v35 q35
    obtain rfl := q35.symm
    replace hb := hb.trans (bk.mono hb.size)
    replace HP := Lib.hid (HP.out.step bk)
    replace Bcs := Lib.hid (blk_below bk (blk_lt Bcs.out) Bcs.out)
    replace Bvr := Lib.hid (blk_below bk (blk_lt Bvr.out) Bvr.out)
    replace Hvr := Lib.hid (Hvr.out.step bk)
    clear bk
    clear q17 q18 q19 q20 q21 q22 q23 q24 q25 q26 q27 q28 q29 q30 q31 q32 q33 q34 q35
    go_wp2_with fail
    go_ret
    exact ⟨rfl, hb⟩
end Go.Proofs.YtcpdehfmlmmgiaaDoor
