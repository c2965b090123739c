/- PointAdds, whatever the program's points are. -/
import Derived.Test.YtcpdehfmlmmgiaaDoorPtSmall
namespace Go.Proofs.YtcpdehfmlmmgiaaDoor
open Go.RowKit Go.Sort
set_option maxRecDepth 100000
set_option linter.unusedSimpArgs false
set_option linter.unusedVariables false

set_option maxHeartbeats 8000000 in
theorem pointAdds_of {IsPt : Array Value → PtN → Prop} {zv : Array Value} {N : Nat} (C : PtCalls IsPt zv N) (HA : ∀ W : World, PrmQ W → Calls Tryd.prog 15 #[] W fun e w' => e = .returned (.bool true) ∧ Below W.heap.size W w') (s : ByteArray) (t : ByteArray) (w : World) (hT : PrmQ w) :
    Calls Tryd.prog 4 #[.string s, .string t] w fun e w' => e = .returned (.bool true) ∧ Below w.heap.size w w' := by
  have ok1 := ofPT_ok s; have ok2 := ofPT_ok t
  have C1 := Lib.hid (C.of s); have C2 := Lib.hid (C.of t)
  have R1 := Lib.hid (rofT_any s); have R2 := Lib.hid (rofT_any t)
  generalize ofPT s = p at *
  generalize ofPT t = p2 at *
  generalize ofET s = q at *
  generalize ofET t = q2 at *
  have hn := sumP_ok p p2
  have CA := Lib.hid (fun cs ds W h1 h2 hT => C.add cs ds p p2 W h1 h2 hT)
  have RA := Lib.hid (fun v u W h1 h2 => radd_any v u p p2 W ok1 ok2 h1 h2)
  generalize sumP p p2 = np at *
  have CB := Lib.hid (fun cs W h hT => C.bytes cs np W h hT)
  have RB := Lib.hid (fun v W h => rbytesT_any v np W hn h)
  generalize txtP np = t1 at *
  have x1 : (t1.toList == t1.toList) = true := by simp
  have eq : (q == q) = true := by simp
  have eq2 : (q2 == q2) = true := by simp
  clear ok1 ok2 hn
  have hzP := (zero_of_info C.info).1
  have hzR := (zero_of_info infoR).1
  have HP := Lib.hid hT
  have hb := Below.refl w.heap.size w
  have hgl := HP.out.lt
  have HAw := Lib.hid HA
  clear hT HA
  go_enter Tryd.func4, Tryd.ntmps4
  go_wp2_with fail
  refine (C1.out w HP.out).mono ?_
  rintro e W1 ⟨⟨cs, rfl, hcs⟩, bk⟩
  have Hcs := Lib.hid hcs
  clear hcs
  replace hb := hb.trans (bk.mono hb.size)
  replace HP := Lib.hid (HP.out.step bk)
  clear bk
  have HN := Lib.hid (blk_new W1 (.cells zv 28))
  have bn := below_new W1 (.cells zv 28)
  have Scs := Lib.hid (C.isz Hcs.out); have Ocs := Lib.hid (C.zsz Hcs.out); have Ics := Lib.hid (C.one _ _ Hcs.out)
  go_wp2_with (with_reducible refine wpList_store_row rfl 28 _ _ rfl W1.heap.size cs rfl rfl 28 _ HN.out Scs.out Ocs.out Ics.out ?_)
  have Bcs := Lib.hid (setRow_heap _ W1.heap.size _ cs _ _ HN.out)
  have bk := below_setRow bn (Nat.le_refl _) cs
  have hg1 := hb.size
  replace hb := hb.trans (bk.mono hb.size)
  replace HP := Lib.hid (HP.out.step bk)
  clear bk
  generalize (World.setRow (World.alloc _ _) _ _) = V2 at *
  generalize W1.heap.size = g1 at *
  clear bn HN
  refine (C2.out V2 HP.out).mono ?_
  rintro e W3 ⟨⟨ds, rfl, hds⟩, bk⟩
  have Hds := Lib.hid hds
  clear hds
  replace hb := hb.trans (bk.mono hb.size)
  replace HP := Lib.hid (HP.out.step bk)
  replace Bcs := Lib.hid (blk_below bk (blk_lt Bcs.out) Bcs.out)
  clear bk
  have HN := Lib.hid (blk_new W3 (.cells zv 28))
  have bn := below_new W3 (.cells zv 28)
  have Sds := Lib.hid (C.isz Hds.out); have Ods := Lib.hid (C.zsz Hds.out); have Ids := Lib.hid (C.one _ _ Hds.out)
  go_wp2_with (with_reducible refine wpList_store_row rfl 28 _ _ rfl W3.heap.size ds rfl rfl 28 _ HN.out Sds.out Ods.out Ids.out ?_)
  have Bds := Lib.hid (setRow_heap _ W3.heap.size _ ds _ _ HN.out)
  have bk := below_setRow bn (Nat.le_refl _) ds
  have hg2 := hb.size
  replace hb := hb.trans (bk.mono hb.size)
  replace HP := Lib.hid (HP.out.step bk)
  replace Bcs := Lib.hid (blk_below bk (blk_lt Bcs.out) Bcs.out)
  clear bk
  generalize (World.setRow (World.alloc _ _) _ _) = V4 at *
  generalize W3.heap.size = g2 at *
  clear bn HN
  refine (R1.out V4).mono ?_
  rintro e W5 ⟨⟨vr, rfl, hvr⟩, bk⟩
  have Hvr := Lib.hid hvr
  clear hvr
  replace hb := hb.trans (bk.mono hb.size)
  replace HP := Lib.hid (HP.out.step bk)
  replace Bcs := Lib.hid (blk_below bk (blk_lt Bcs.out) Bcs.out)
  replace Bds := Lib.hid (blk_below bk (blk_lt Bds.out) Bds.out)
  clear bk
  obtain ⟨ra, rb, rc, rd, rfl⟩ := Hvr.out.four
  have HN := Lib.hid (blk_new W5 (.cells zeroR 34))
  have bn := below_new W5 (.cells zeroR 34)
  have Svr := Lib.hid (sizeR ra rb rc rd); have Ovr := Lib.hid (zeroR_size ra rb rc rd); have Ivr := Lib.hid Hvr.out.one
  have Bvr := Lib.hid (setRow_heap _ W5.heap.size _ #[ra, rb, rc, rd] _ _ HN.out)
  have bk := below_setRow bn (Nat.le_refl _) #[ra, rb, rc, rd]
  go_wp2_with (with_reducible refine wpList_store_row rfl 34 _ _ rfl W5.heap.size #[ra, rb, rc, rd] rfl rfl 34 _ HN.out Svr.out Ovr.out Ivr.out ?_)
  replace hb := hb.trans (bk.mono hb.size)
  replace HP := Lib.hid (HP.out.step bk)
  replace Bcs := Lib.hid (blk_below bk (blk_lt Bcs.out) Bcs.out)
  replace Bds := Lib.hid (blk_below bk (blk_lt Bds.out) Bds.out)
  replace Hvr := Lib.hid (Hvr.out.step bk)
  clear bk
  generalize (World.setRow (World.alloc _ _) _ _) = V6 at *
  generalize W5.heap.size = g3 at *
  clear bn HN
  refine (R2.out V6).mono ?_
  rintro e W7 ⟨⟨vs, rfl, hvs⟩, bk⟩
  have Hvs := Lib.hid hvs
  clear hvs
  replace hb := hb.trans (bk.mono hb.size)
  replace HP := Lib.hid (HP.out.step bk)
  replace Bcs := Lib.hid (blk_below bk (blk_lt Bcs.out) Bcs.out)
  replace Bds := Lib.hid (blk_below bk (blk_lt Bds.out) Bds.out)
  replace Bvr := Lib.hid (blk_below bk (blk_lt Bvr.out) Bvr.out)
  replace Hvr := Lib.hid (Hvr.out.step bk)
  clear bk
  obtain ⟨sa, sb, sc, sd, rfl⟩ := Hvs.out.four
  have HN := Lib.hid (blk_new W7 (.cells zeroR 34))
  have bn := below_new W7 (.cells zeroR 34)
  have Svs := Lib.hid (sizeR sa sb sc sd); have Ovs := Lib.hid (zeroR_size sa sb sc sd); have Ivs := Lib.hid Hvs.out.one
  have Bvs := Lib.hid (setRow_heap _ W7.heap.size _ #[sa, sb, sc, sd] _ _ HN.out)
  have bk := below_setRow bn (Nat.le_refl _) #[sa, sb, sc, sd]
  go_wp2_with (with_reducible refine wpList_store_row rfl 34 _ _ rfl W7.heap.size #[sa, sb, sc, sd] rfl rfl 34 _ HN.out Svs.out Ovs.out Ivs.out ?_)
  replace hb := hb.trans (bk.mono hb.size)
  replace HP := Lib.hid (HP.out.step bk)
  replace Bcs := Lib.hid (blk_below bk (blk_lt Bcs.out) Bcs.out)
  replace Bds := Lib.hid (blk_below bk (blk_lt Bds.out) Bds.out)
  replace Bvr := Lib.hid (blk_below bk (blk_lt Bvr.out) Bvr.out)
  replace Hvr := Lib.hid (Hvr.out.step bk)
  replace Hvs := Lib.hid (Hvs.out.step bk)
  clear bk
  generalize (World.setRow (World.alloc _ _) _ _) = V8 at *
  generalize W7.heap.size = g4 at *
  clear bn HN
  refine wp_region_toldg 22 55 [(Told.val (.int .i64 q), [6]),
    (Told.val (.int .i64 q), [10]),
    (Told.val (.bool true), [33, 34]),
    (Told.val (.bool true), [35]),
    (Told.val (.int .i64 q2), [8]),
    (Told.val (.int .i64 q2), [12]),
    (Told.val (.bool true), [37, 38]),
    (Told.val (.bool true), [36, 39]),
    (Told.val (.bool true), [40]),
    (Told.val (.agg cs), [5]),
    (Told.val (.agg ds), [7]),
    (tIs IsPt np, [42, 43]),
    (Told.val (.string t1), [44]),
    (Told.val (.agg #[ra, rb, rc, rd]), [9]),
    (Told.val (.agg #[sa, sb, sc, sd]), [11]),
    (tPt np, [46, 47]),
    (Told.val (.string t1), [48]),
    (Told.val (.bool true), [45, 49]),
    (Told.val (.bool true), [41, 50]),
    (Told.val (.bool true), [51]),
    (Told.val (.bool true), []),
    (Told.val (.bool true), [52, 53])]
    (by kernel_rfl) (by kernel_rfl) rfl (by simp [toldGuards, Told.val]) ?_ ?_
  · simp only [List.take_succ_cons, List.take_zero, toldObl, and_true]
    refine ⟨?_, ?_, ?_, ?_, ?_, ?_, ?_, ?_, ?_, ?_, ?_, ?_, ?_, ?_, ?_, ?_, ?_, ?_, ?_, ?_, ?_, ?_⟩
    · intro a w hb h
      have e0 : a.tmps.getD 6 undef = (.int .i64 q) := h 6 (by simp)
      simp only [Array.getD_eq_getD_getElem?] at e0
      simp [go_sem, e0, toldQuiet, Told.val]
      exact Below.refl _ _
    · intro a w hb h
      have e0 : a.tmps.getD 10 undef = (.int .i64 q) := h 10 (by simp)
      simp only [Array.getD_eq_getD_getElem?] at e0
      simp [go_sem, e0, toldQuiet, Told.val]
      exact Below.refl _ _
    · intro a w hb h
      have e0 : a.tmps.getD 33 undef = (.int .i64 q) := h 33 (by simp)
      have e1 : a.tmps.getD 34 undef = (.int .i64 q) := h 34 (by simp)
      simp only [Array.getD_eq_getD_getElem?] at e0 e1
      simp [go_sem, e0, e1, toldQuiet, Told.val, eq]
      exact Below.refl _ _
    · intro a w hb h
      have e0 : a.tmps.getD 35 undef = (.bool true) := h 35 (by simp)
      simp only [Array.getD_eq_getD_getElem?] at e0
      simp [go_sem, e0, toldQuiet, Told.val]
      exact Below.refl _ _
    · intro a w hb h
      have e0 : a.tmps.getD 8 undef = (.int .i64 q2) := h 8 (by simp)
      simp only [Array.getD_eq_getD_getElem?] at e0
      simp [go_sem, e0, toldQuiet, Told.val]
      exact Below.refl _ _
    · intro a w hb h
      have e0 : a.tmps.getD 12 undef = (.int .i64 q2) := h 12 (by simp)
      simp only [Array.getD_eq_getD_getElem?] at e0
      simp [go_sem, e0, toldQuiet, Told.val]
      exact Below.refl _ _
    · intro a w hb h
      have e0 : a.tmps.getD 37 undef = (.int .i64 q2) := h 37 (by simp)
      have e1 : a.tmps.getD 38 undef = (.int .i64 q2) := h 38 (by simp)
      simp only [Array.getD_eq_getD_getElem?] at e0 e1
      simp [go_sem, e0, e1, toldQuiet, Told.val, eq2]
      exact Below.refl _ _
    · intro a w hb h
      have e0 : a.tmps.getD 36 undef = (.bool true) := h 36 (by simp)
      have e1 : a.tmps.getD 39 undef = (.bool true) := h 39 (by simp)
      simp only [Array.getD_eq_getD_getElem?] at e0 e1
      simp [go_sem, e0, e1, toldQuiet, Told.val]
      exact Below.refl _ _
    · intro a w hb h
      have e0 : a.tmps.getD 40 undef = (.bool true) := h 40 (by simp)
      simp only [Array.getD_eq_getD_getElem?] at e0
      simp [go_sem, e0, toldQuiet, Told.val]
      exact Below.refl _ _
    · intro a w hb h
      have e0 : a.tmps.getD 5 undef = (.pointer (some ⟨g1, 0, none⟩)) := h 5 (by simp)
      exact told_of_sQuiet (sQuiet_load_row 28 (.tmp 5) rfl g1 e0 28 _ (0, 0) _ (blk_below hb (blk_lt Bcs.out) Bcs.out) Tryd.underlying28 rfl Scs.out)
    · intro a w hb h
      have e0 : a.tmps.getD 7 undef = (.pointer (some ⟨g2, 0, none⟩)) := h 7 (by simp)
      exact told_of_sQuiet (sQuiet_load_row 28 (.tmp 7) rfl g2 e0 28 _ (0, 0) _ (blk_below hb (blk_lt Bds.out) Bds.out) Tryd.underlying28 rfl Sds.out)
    · intro a w hb h
      have e0 : a.tmps.getD 42 undef = (.agg cs) := h 42 (by simp)
      have e1 : a.tmps.getD 43 undef = (.agg ds) := h 43 (by simp)
      simp only [Array.getD_eq_getD_getElem?] at e0 e1
      simp [go_sem, e0, e1, toldQuiet]
      exact isOf (CA.out cs ds w Hcs.out Hds.out (HP.out.step hb))
    · intro a w hb h
      obtain ⟨u0, e0, f0⟩ : ∃ cs, a.tmps.getD 44 undef = .agg cs ∧ IsPt cs np := h 44 (by simp)
      simp only [Array.getD_eq_getD_getElem?] at e0
      simp [go_sem, e0, toldQuiet]
      exact valOf (CB.out u0 w f0 (HP.out.step hb))
    · intro a w hb h
      have e0 : a.tmps.getD 9 undef = (.pointer (some ⟨g3, 0, none⟩)) := h 9 (by simp)
      exact told_of_sQuiet (sQuiet_load_row 34 (.tmp 9) rfl g3 e0 34 _ (0, 0) _ (blk_below hb (blk_lt Bvr.out) Bvr.out) Tryd.underlying34 rfl Svr.out)
    · intro a w hb h
      have e0 : a.tmps.getD 11 undef = (.pointer (some ⟨g4, 0, none⟩)) := h 11 (by simp)
      exact told_of_sQuiet (sQuiet_load_row 34 (.tmp 11) rfl g4 e0 34 _ (0, 0) _ (blk_below hb (blk_lt Bvs.out) Bvs.out) Tryd.underlying34 rfl Svs.out)
    · intro a w hb h
      have e0 : a.tmps.getD 46 undef = (.agg #[ra, rb, rc, rd]) := h 46 (by simp)
      have e1 : a.tmps.getD 47 undef = (.agg #[sa, sb, sc, sd]) := h 47 (by simp)
      simp only [Array.getD_eq_getD_getElem?] at e0 e1
      simp [go_sem, e0, e1, toldQuiet]
      exact ptOf (RA.out _ _ w (Hvr.out.step hb) (Hvs.out.step hb))
    · intro a w hb h
      have f0 : PtAt w (a.tmps.getD 48 undef) np := h 48 (by simp)
      obtain ⟨u0, e0⟩ : ∃ u, a.tmps.getD 48 undef = u := ⟨_, rfl⟩
      rw [e0] at f0
      simp only [Array.getD_eq_getD_getElem?] at e0
      simp [go_sem, e0, toldQuiet]
      exact valOf (RB.out u0 w f0)
    · intro a w hb h
      have e0 : a.tmps.getD 45 undef = (.string t1) := h 45 (by simp)
      have e1 : a.tmps.getD 49 undef = (.string t1) := h 49 (by simp)
      simp only [Array.getD_eq_getD_getElem?] at e0 e1
      simp [go_sem, e0, e1, toldQuiet, Told.val, x1]
      exact Below.refl _ _
    · intro a w hb h
      have e0 : a.tmps.getD 41 undef = (.bool true) := h 41 (by simp)
      have e1 : a.tmps.getD 50 undef = (.bool true) := h 50 (by simp)
      simp only [Array.getD_eq_getD_getElem?] at e0 e1
      simp [go_sem, e0, e1, toldQuiet, Told.val]
      exact Below.refl _ _
    · intro a w hb h
      have e0 : a.tmps.getD 51 undef = (.bool true) := h 51 (by simp)
      simp only [Array.getD_eq_getD_getElem?] at e0
      simp [go_sem, e0, toldQuiet, Told.val]
      exact Below.refl _ _
    · intro a w hb h
      simp [go_sem, toldQuiet]
      exact valOf (HAw.out w (HP.out.step hb))
    · intro a w hb h
      have e0 : a.tmps.getD 52 undef = (.bool true) := h 52 (by simp)
      have e1 : a.tmps.getD 53 undef = (.bool true) := h 53 (by simp)
      simp only [Array.getD_eq_getD_getElem?] at e0 e1
      simp [go_sem, e0, e1, toldQuiet, Told.val]
      exact Below.refl _ _
  · simp only [List.take_succ_cons, List.take_zero, List.drop_succ_cons, List.drop_zero, toldEnd, Act.put, List.setIfInBounds_toArray, List.set_cons_succ, List.set_cons_zero]
    intro W9 bk v33 q33 v34 q34 v35 q35 v36 q36 v37 q37 v38 q38 v39 q39 v40 q40 v41 q41 v42 q42 v43 q43 v44 q44 v45 q45 v46 q46 v47 q47 v48 q48 v49 q49 v50 q50 v51 q51 v52 q52 v53 q53 v54 q54
    obtain rfl := q54.symm
    replace hb := hb.trans (bk.mono hb.size)
    replace HP := Lib.hid (HP.out.step bk)
    replace Bcs := Lib.hid (blk_below bk (blk_lt Bcs.out) Bcs.out)
    replace Bds := Lib.hid (blk_below bk (blk_lt Bds.out) Bds.out)
    replace Bvr := Lib.hid (blk_below bk (blk_lt Bvr.out) Bvr.out)
    replace Bvs := Lib.hid (blk_below bk (blk_lt Bvs.out) Bvs.out)
    replace Hvr := Lib.hid (Hvr.out.step bk)
    replace Hvs := Lib.hid (Hvs.out.step bk)
    clear bk
    clear q33 q34 q35 q36 q37 q38 q39 q40 q41 q42 q43 q44 q45 q46 q47 q48 q49 q50 q51 q52 q53 q54
    go_wp2_with fail
    go_ret
    exact ⟨rfl, hb⟩
end Go.Proofs.YtcpdehfmlmmgiaaDoor
