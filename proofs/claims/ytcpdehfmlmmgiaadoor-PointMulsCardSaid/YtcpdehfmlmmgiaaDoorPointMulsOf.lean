/- PointMuls, whatever the program's points are. -/
import Derived.Test.YtcpdehfmlmmgiaaDoorPtSmall
namespace Go.Proofs.YtcpdehfmlmmgiaaDoor
open Go.RowKit Go.Sort
set_option maxRecDepth 100000
set_option linter.unusedSimpArgs false
set_option linter.unusedVariables false

set_option maxHeartbeats 8000000 in
theorem pointMuls_of {IsPt : Array Value → PtN → Prop} {zv : Array Value} {N : Nat} (C : PtCalls IsPt zv N) (HA : ∀ W : World, PrmQ W → Calls Tryd.prog 15 #[] W fun e w' => e = .returned (.bool true) ∧ Below W.heap.size W w') (s : ByteArray) (n : ByteArray) (w : World) (hT : PrmQ w) :
    Calls Tryd.prog 5 #[.string s, .string n] w fun e w' => e = .returned (.bool true) ∧ Below w.heap.size w w' := by
  have hok := ofPT_ok s
  have CO := Lib.hid (C.of s)
  have CR := Lib.hid (rofT_any s)
  generalize ofPT s = p at *
  generalize ofET s = q at *
  have eq : (q == q) = true := by simp
  have nq : (q != q) = false := by simp
  have CM := Lib.hid (fun cs p W (h : IsPt cs p) hT => C.mul cs p n W h hT)
  have RM := Lib.hid (fun v p W (hp : p.Ok) h => rmulT_any v p n W hp h)
  have hmo := Lib.hid (fun p => mulPT_ok p n)
  generalize mulET n = q2 at *
  have eq2 : (q2 == q2) = true := by simp
  have CB := Lib.hid (fun cs p W h hT => C.bytes cs p W h hT)
  have RB := Lib.hid (fun v p W (hp : p.Ok) h => rbytesT_any v p W hp h)
  have HOK := Lib.hid hok
  clear hok
  have hzP := (zero_of_info C.info).1
  have hzR := (zero_of_info infoR).1
  have HP := Lib.hid hT
  have hb := Below.refl w.heap.size w
  have hgl := HP.out.lt
  have HAw := Lib.hid HA
  clear hT HA
  go_enter Tryd.func5, Tryd.ntmps5
  go_wp2_with fail
  refine (CO.out w HP.out).mono ?_
  rintro e W1 ⟨⟨cs, rfl, hcs⟩, bk⟩
  have Hcs := Lib.hid hcs
  clear hcs
  replace hb := hb.trans (bk.mono hb.size)
  replace HP := Lib.hid (HP.out.step bk)
  clear bk
  have HN := Lib.hid (blk_new W1 (.cells zv 28))
  have bn := below_new W1 (.cells zv 28)
  have Scs := Lib.hid (C.isz Hcs.out); have Ocs := Lib.hid (C.zsz Hcs.out); have Ics := Lib.hid (C.one _ _ Hcs.out)
  go_wp2_with (with_reducible refine wpList_store_row rfl 28 _ _ rfl W1.heap.size cs rfl rfl 28 _ HN.out Scs.out Ocs.out Ics.out ?_)
  have Bcs := Lib.hid (setRow_heap _ W1.heap.size _ cs _ _ HN.out)
  have bk := below_setRow bn (Nat.le_refl _) cs
  have hg1 := hb.size
  replace hb := hb.trans (bk.mono hb.size)
  replace HP := Lib.hid (HP.out.step bk)
  clear bk
  generalize (World.setRow (World.alloc _ _) _ _) = V2 at *
  generalize W1.heap.size = g1 at *
  clear bn HN
  refine (CR.out V2).mono ?_
  rintro e W3 ⟨⟨vr, rfl, hvr⟩, bk⟩
  have Hvr := Lib.hid hvr
  clear hvr
  replace hb := hb.trans (bk.mono hb.size)
  replace HP := Lib.hid (HP.out.step bk)
  replace Bcs := Lib.hid (blk_below bk (blk_lt Bcs.out) Bcs.out)
  clear bk
  obtain ⟨ra, rb, rc, rd, rfl⟩ := Hvr.out.four
  have hg := blk_lt Bcs.out
  by_cases hq0 : q = 0
  · have nz : (q != 0) = false := by simp [hq0]
    clear hq0
    have HN := Lib.hid (blk_new W3 (.cells zeroR 34))
    have bn := below_new W3 (.cells zeroR 34)
    have Svr := Lib.hid (sizeR ra rb rc rd); have Ovr := Lib.hid (zeroR_size ra rb rc rd); have Ivr := Lib.hid Hvr.out.one
    have Bvr := Lib.hid (setRow_heap _ W3.heap.size _ #[ra, rb, rc, rd] _ _ HN.out)
    have bk := below_setRow bn (Nat.le_refl _) #[ra, rb, rc, rd]
    have KL := Lib.hid (blk_below bk (blk_lt Bcs.out) Bcs.out)
    go_wp2_with (first
      | (with_reducible refine wpList_store_row rfl 34 _ _ rfl W3.heap.size #[ra, rb, rc, rd] rfl rfl 34 _ HN.out Svr.out Ovr.out Ivr.out ?_)
      | (with_reducible refine wpList_load_row rfl 28 _ rfl g1 rfl 28 _ (0, 0) _ KL.out Tryd.underlying28 rfl Scs.out ?_))
    clear KL
    replace hb := hb.trans (bk.mono hb.size)
    replace HP := Lib.hid (HP.out.step bk)
    replace Bcs := Lib.hid (blk_below bk (blk_lt Bcs.out) Bcs.out)
    replace Hvr := Lib.hid (Hvr.out.step bk)
    clear bk
    generalize (World.setRow (World.alloc _ _) _ _) = V4 at *
    generalize W3.heap.size = g2 at *
    clear bn HN
    have hMP := CM.out cs p
    have hMR := RM.out (.agg #[ra, rb, rc, rd]) p
    have hmo2 := hmo.out p
    generalize mulPT p n = m at *
    have HMP := Lib.hid hMP; have HMR := Lib.hid hMR; have HMO := Lib.hid hmo2
    have hB1 := Lib.hid (fun cs W h hT => CB.out cs m W h hT); have hR1 := Lib.hid (fun v W h => RB.out v m W HMO.out h)
    generalize txtP m = t1 at *
    have x1 : (t1.toList == t1.toList) = true := by simp
    clear hMP hMR hmo2 CB RB
    refine (HMP.out V4 Hcs.out HP.out).mono ?_
    rintro e W5 ⟨⟨es, rfl, hes⟩, bk⟩
    have Hes := Lib.hid hes
    clear hes
    replace hb := hb.trans (bk.mono hb.size)
    replace HP := Lib.hid (HP.out.step bk)
    replace Bcs := Lib.hid (blk_below bk (blk_lt Bcs.out) Bcs.out)
    replace Bvr := Lib.hid (blk_below bk (blk_lt Bvr.out) Bvr.out)
    replace Hvr := Lib.hid (Hvr.out.step bk)
    clear bk
    have HN := Lib.hid (blk_new W5 (.cells zv 28))
    have bn := below_new W5 (.cells zv 28)
    have Ses := Lib.hid (C.isz Hes.out); have Oes := Lib.hid (C.zsz Hes.out); have Ies := Lib.hid (C.one _ _ Hes.out)
    have Bes := Lib.hid (setRow_heap _ W5.heap.size _ es _ _ HN.out)
    have bk := below_setRow bn (Nat.le_refl _) es
    have Bvr' := Lib.hid (blk_below bk (blk_lt Bvr.out) Bvr.out)
    go_wp2_with (first
      | (with_reducible refine wpList_store_row rfl 28 _ _ rfl W5.heap.size es rfl rfl 28 _ HN.out Ses.out Oes.out Ies.out ?_)
      | (with_reducible refine wpList_load_row rfl 34 _ rfl g2 rfl 34 _ (0, 0) _ Bvr'.out Tryd.underlying34 rfl Svr.out ?_))
    clear Bvr'
    replace hb := hb.trans (bk.mono hb.size)
    replace HP := Lib.hid (HP.out.step bk)
    replace Bcs := Lib.hid (blk_below bk (blk_lt Bcs.out) Bcs.out)
    replace Bvr := Lib.hid (blk_below bk (blk_lt Bvr.out) Bvr.out)
    replace Hvr := Lib.hid (Hvr.out.step bk)
    clear bk
    generalize (World.setRow (World.alloc _ _) _ _) = V6 at *
    generalize W5.heap.size = g3 at *
    clear bn HN
    refine (HMR.out V6 HOK.out Hvr.out).mono ?_
    rintro e W7 ⟨⟨vm, rfl, hvm⟩, bk⟩
    have Hvm := Lib.hid hvm
    clear hvm
    replace hb := hb.trans (bk.mono hb.size)
    replace HP := Lib.hid (HP.out.step bk)
    replace Bcs := Lib.hid (blk_below bk (blk_lt Bcs.out) Bcs.out)
    replace Bvr := Lib.hid (blk_below bk (blk_lt Bvr.out) Bvr.out)
    replace Bes := Lib.hid (blk_below bk (blk_lt Bes.out) Bes.out)
    replace Hvr := Lib.hid (Hvr.out.step bk)
    clear bk
    obtain ⟨ta, tb, tc, td, rfl⟩ := Hvm.out.four
    have HN := Lib.hid (blk_new W7 (.cells zeroR 34))
    have bn := below_new W7 (.cells zeroR 34)
    have Svm := Lib.hid (sizeR ta tb tc td); have Ovm := Lib.hid (zeroR_size ta tb tc td); have Ivm := Lib.hid Hvm.out.one
    have Bvm := Lib.hid (setRow_heap _ W7.heap.size _ #[ta, tb, tc, td] _ _ HN.out)
    have bk := below_setRow bn (Nat.le_refl _) #[ta, tb, tc, td]
    go_wp2_with (with_reducible refine wpList_store_row rfl 34 _ _ rfl W7.heap.size #[ta, tb, tc, td] rfl rfl 34 _ HN.out Svm.out Ovm.out Ivm.out ?_)
    replace hb := hb.trans (bk.mono hb.size)
    replace HP := Lib.hid (HP.out.step bk)
    replace Bcs := Lib.hid (blk_below bk (blk_lt Bcs.out) Bcs.out)
    replace Bvr := Lib.hid (blk_below bk (blk_lt Bvr.out) Bvr.out)
    replace Bes := Lib.hid (blk_below bk (blk_lt Bes.out) Bes.out)
    replace Hvr := Lib.hid (Hvr.out.step bk)
    replace Hvm := Lib.hid (Hvm.out.step bk)
    clear bk
    generalize (World.setRow (World.alloc _ _) _ _) = V8 at *
    generalize W7.heap.size = g4 at *
    clear bn HN
    refine wp_region_toldg 13 55 [(Told.val (.int .i64 q2), [10]),
    (Told.val (.int .i64 q2), [12]),
    (Told.val (.bool true), [42, 43]),
    (Told.val (.bool true), [44]),
    (Told.val (.agg es), [9]),
    (Told.val (.string t1), [46]),
    (Told.val (.agg #[ta, tb, tc, td]), [11]),
    (Told.val (.string t1), [48]),
    (Told.val (.bool true), [47, 49]),
    (Told.val (.bool true), [45, 50]),
    (Told.val (.bool true), [51]),
    (Told.val (.bool true), []),
    (Told.val (.bool true), [52, 53])]
      (by kernel_rfl) (by kernel_rfl) rfl (by simp [toldGuards, Told.val]) ?_ ?_
    · simp only [List.take_succ_cons, List.take_zero, toldObl, and_true]
      refine ⟨?_, ?_, ?_, ?_, ?_, ?_, ?_, ?_, ?_, ?_, ?_, ?_, ?_⟩
      · intro a w hb h
        have e0 : a.tmps.getD 10 undef = (.int .i64 q2) := h 10 (by simp)
        simp only [Array.getD_eq_getD_getElem?] at e0
        simp [go_sem, e0, toldQuiet, Told.val]
        exact Below.refl _ _
      · intro a w hb h
        have e0 : a.tmps.getD 12 undef = (.int .i64 q2) := h 12 (by simp)
        simp only [Array.getD_eq_getD_getElem?] at e0
        simp [go_sem, e0, toldQuiet, Told.val]
        exact Below.refl _ _
      · intro a w hb h
        have e0 : a.tmps.getD 42 undef = (.int .i64 q2) := h 42 (by simp)
        have e1 : a.tmps.getD 43 undef = (.int .i64 q2) := h 43 (by simp)
        simp only [Array.getD_eq_getD_getElem?] at e0 e1
        simp [go_sem, e0, e1, toldQuiet, Told.val, eq2]
        exact Below.refl _ _
      · intro a w hb h
        have e0 : a.tmps.getD 44 undef = (.bool true) := h 44 (by simp)
        simp only [Array.getD_eq_getD_getElem?] at e0
        simp [go_sem, e0, toldQuiet, Told.val]
        exact Below.refl _ _
      · intro a w hb h
        have e0 : a.tmps.getD 9 undef = (.pointer (some ⟨g3, 0, none⟩)) := h 9 (by simp)
        exact told_of_sQuiet (sQuiet_load_row 28 (.tmp 9) rfl g3 e0 28 _ (0, 0) _ (blk_below hb (blk_lt Bes.out) Bes.out) Tryd.underlying28 rfl Ses.out)
      · intro a w hb h
        have e0 : a.tmps.getD 46 undef = (.agg es) := h 46 (by simp)
        simp only [Array.getD_eq_getD_getElem?] at e0
        simp [go_sem, e0, toldQuiet]
        exact valOf (hB1.out es w Hes.out (HP.out.step hb))
      · intro a w hb h
        have e0 : a.tmps.getD 11 undef = (.pointer (some ⟨g4, 0, none⟩)) := h 11 (by simp)
        exact told_of_sQuiet (sQuiet_load_row 34 (.tmp 11) rfl g4 e0 34 _ (0, 0) _ (blk_below hb (blk_lt Bvm.out) Bvm.out) Tryd.underlying34 rfl Svm.out)
      · intro a w hb h
        have e0 : a.tmps.getD 48 undef = (.agg #[ta, tb, tc, td]) := h 48 (by simp)
        simp only [Array.getD_eq_getD_getElem?] at e0
        simp [go_sem, e0, toldQuiet]
        exact valOf (hR1.out _ w (Hvm.out.step hb))
      · intro a w hb h
        have e0 : a.tmps.getD 47 undef = (.string t1) := h 47 (by simp)
        have e1 : a.tmps.getD 49 undef = (.string t1) := h 49 (by simp)
        simp only [Array.getD_eq_getD_getElem?] at e0 e1
        simp [go_sem, e0, e1, toldQuiet, Told.val, x1]
        exact Below.refl _ _
      · intro a w hb h
        have e0 : a.tmps.getD 45 undef = (.bool true) := h 45 (by simp)
        have e1 : a.tmps.getD 50 undef = (.bool true) := h 50 (by simp)
        simp only [Array.getD_eq_getD_getElem?] at e0 e1
        simp [go_sem, e0, e1, toldQuiet, Told.val]
        exact Below.refl _ _
      · intro a w hb h
        have e0 : a.tmps.getD 51 undef = (.bool true) := h 51 (by simp)
        simp only [Array.getD_eq_getD_getElem?] at e0
        simp [go_sem, e0, toldQuiet, Told.val]
        exact Below.refl _ _
      · intro a w hb h
        simp [go_sem, toldQuiet]
        exact valOf (HAw.out w (HP.out.step hb))
      · intro a w hb h
        have e0 : a.tmps.getD 52 undef = (.bool true) := h 52 (by simp)
        have e1 : a.tmps.getD 53 undef = (.bool true) := h 53 (by simp)
        simp only [Array.getD_eq_getD_getElem?] at e0 e1
        simp [go_sem, e0, e1, toldQuiet, Told.val]
        exact Below.refl _ _
    · simp only [List.take_succ_cons, List.take_zero, List.drop_succ_cons, List.drop_zero, toldEnd, Act.put, List.setIfInBounds_toArray, List.set_cons_succ, List.set_cons_zero]
      intro W9 bk v42 q42 v43 q43 v44 q44 v45 q45 v46 q46 v47 q47 v48 q48 v49 q49 v50 q50 v51 q51 v52 q52 v53 q53 v54 q54
      obtain rfl := q54.symm
      replace hb := hb.trans (bk.mono hb.size)
      replace HP := Lib.hid (HP.out.step bk)
      replace Bcs := Lib.hid (blk_below bk (blk_lt Bcs.out) Bcs.out)
      replace Bvr := Lib.hid (blk_below bk (blk_lt Bvr.out) Bvr.out)
      replace Bes := Lib.hid (blk_below bk (blk_lt Bes.out) Bes.out)
      replace Bvm := Lib.hid (blk_below bk (blk_lt Bvm.out) Bvm.out)
      replace Hvr := Lib.hid (Hvr.out.step bk)
      replace Hvm := Lib.hid (Hvm.out.step bk)
      clear bk
      clear q42 q43 q44 q45 q46 q47 q48 q49 q50 q51 q52 q53 q54
      go_wp2_with fail
      go_ret
      exact ⟨rfl, hb⟩
  · have nz : (q != 0) = true := by simp; exact hq0
    clear hq0
    have HN := Lib.hid (blk_new W3 (.cells zeroR 34))
    have bn := below_new W3 (.cells zeroR 34)
    have Svr := Lib.hid (sizeR ra rb rc rd); have Ovr := Lib.hid (zeroR_size ra rb rc rd); have Ivr := Lib.hid Hvr.out.one
    have Bvr := Lib.hid (setRow_heap _ W3.heap.size _ #[ra, rb, rc, rd] _ _ HN.out)
    have bk := below_setRow bn (Nat.le_refl _) #[ra, rb, rc, rd]
    go_wp2_with (with_reducible refine wpList_store_row rfl 34 _ _ rfl W3.heap.size #[ra, rb, rc, rd] rfl rfl 34 _ HN.out Svr.out Ovr.out Ivr.out ?_)
    replace hb := hb.trans (bk.mono hb.size)
    replace HP := Lib.hid (HP.out.step bk)
    replace Bcs := Lib.hid (blk_below bk (blk_lt Bcs.out) Bcs.out)
    replace Hvr := Lib.hid (Hvr.out.step bk)
    clear bk
    generalize (World.setRow (World.alloc _ _) _ _) = V4 at *
    generalize W3.heap.size = g2 at *
    clear bn HN
    refine (C.base V4 HP.out).mono ?_
    rintro e W5 ⟨⟨bs, rfl, hbs⟩, bk⟩
    have Hbs := Lib.hid hbs
    clear hbs
    replace hb := hb.trans (bk.mono hb.size)
    replace HP := Lib.hid (HP.out.step bk)
    replace Bcs := Lib.hid (blk_below bk (blk_lt Bcs.out) Bcs.out)
    replace Bvr := Lib.hid (blk_below bk (blk_lt Bvr.out) Bvr.out)
    replace Hvr := Lib.hid (Hvr.out.step bk)
    clear bk
    have Sbs := Lib.hid (C.isz Hbs.out); have Obs := Lib.hid (C.same Hcs.out Hbs.out); have Ibs := Lib.hid (C.one _ _ Hbs.out)
    go_wp2_with (with_reducible refine wpList_store_row rfl 28 _ _ rfl g1 bs rfl rfl 28 _ Bcs.out Sbs.out Obs.out Ibs.out ?_)
    have Bbs := Lib.hid (setRow_heap _ g1 _ bs _ _ Bcs.out)
    have hsz : w.heap.size ≤ g1 := hg1
    have Bvr2 : Hid ((W5.setRow g1 bs).heap[g2]? = some (.cells #[ra, rb, rc, rd] 34)) := Lib.hid (by rw [setRow_other _ _ _ _ (by omega)]; exact Bvr.out)
    have Hvr2 := Lib.hid (Hvr.out.laid Bcs.out (C.first _ _ Hcs.out) bs)
    have HP2 := Lib.hid (HP.out.below (below_setRow (Below.refl w.heap.size W5) hg1 bs) hgl)
    replace hb := below_setRow hb hg1 bs
    clear Bcs Bvr Hvr HP
    generalize W5.setRow g1 bs = V6 at *
    have HP := HP2; have Bvr := Bvr2; have Hvr := Hvr2
    clear HP2 Bvr2 Hvr2
    refine (rbase_any V6).mono ?_
    rintro e W7 ⟨⟨vb, rfl, hvb⟩, bk⟩
    have Hvb := Lib.hid hvb
    clear hvb
    replace hb := hb.trans (bk.mono hb.size)
    replace HP := Lib.hid (HP.out.step bk)
    replace Bbs := Lib.hid (blk_below bk (blk_lt Bbs.out) Bbs.out)
    replace Bvr := Lib.hid (blk_below bk (blk_lt Bvr.out) Bvr.out)
    replace Hvr := Lib.hid (Hvr.out.step bk)
    clear bk
    obtain ⟨ba, bb, bc, bd, rfl⟩ := Hvb.out.four
    have Svb := Lib.hid (sizeR ba bb bc bd); have Ivb := Lib.hid Hvb.out.one; have Ovb : Hid ((#[ra, rb, rc, rd] : Array Value).size = (#[ba, bb, bc, bd] : Array Value).size) := Lib.hid rfl
    have Bvb := Lib.hid (setRow_heap _ g2 _ #[ba, bb, bc, bd] _ _ Bvr.out)
    have Bbs2 : Hid ((W7.setRow g2 #[ba, bb, bc, bd]).heap[g1]? = some (.cells bs 28)) := Lib.hid (by rw [setRow_other _ _ _ _ (by omega)]; exact Bbs.out)
    have Hvb2 := Lib.hid (Hvb.out.rowed Bvr.out Hvr.out.first #[ba, bb, bc, bd])
    have HP2 := Lib.hid (HP.out.below (below_setRow (Below.refl w.heap.size W7) (show w.heap.size ≤ g2 by omega) #[ba, bb, bc, bd]) hgl)
    replace hb := below_setRow hb (show w.heap.size ≤ g2 by omega) #[ba, bb, bc, bd]
    have hMP := CM.out bs baseP
    have hMR := RM.out (.agg #[ba, bb, bc, bd]) baseP
    have hmo2 := hmo.out baseP
    generalize mulPT baseP n = m at *
    have HMP := Lib.hid hMP; have HMR := Lib.hid hMR; have HMO := Lib.hid hmo2
    have hB1 := Lib.hid (fun cs W h hT => CB.out cs m W h hT); have hR1 := Lib.hid (fun v W h => RB.out v m W HMO.out h)
    generalize txtP m = t1 at *
    have x1 : (t1.toList == t1.toList) = true := by simp
    clear hMP hMR hmo2 CB RB
    go_wp2_with (first
      | (with_reducible refine wpList_store_row rfl 34 _ _ rfl g2 #[ba, bb, bc, bd] rfl rfl 34 _ Bvr.out Svb.out Ovb.out Ivb.out ?_)
      | (with_reducible refine wpList_load_row rfl 28 _ rfl g1 rfl 28 _ (0, 0) _ Bbs2.out Tryd.underlying28 rfl Sbs.out ?_))
    clear Bvr Hvr HP Hvb Bbs
    generalize W7.setRow g2 #[ba, bb, bc, bd] = V8 at *
    have HP := HP2; have Bbs := Bbs2; have Hvb := Hvb2
    clear HP2 Bbs2 Hvb2
    refine (HMP.out V8 Hbs.out HP.out).mono ?_
    rintro e W9 ⟨⟨es, rfl, hes⟩, bk⟩
    have Hes := Lib.hid hes
    clear hes
    replace hb := hb.trans (bk.mono hb.size)
    replace HP := Lib.hid (HP.out.step bk)
    replace Bbs := Lib.hid (blk_below bk (blk_lt Bbs.out) Bbs.out)
    replace Bvb := Lib.hid (blk_below bk (blk_lt Bvb.out) Bvb.out)
    replace Hvb := Lib.hid (Hvb.out.step bk)
    clear bk
    have HN := Lib.hid (blk_new W9 (.cells zv 28))
    have bn := below_new W9 (.cells zv 28)
    have Ses := Lib.hid (C.isz Hes.out); have Oes := Lib.hid (C.zsz Hes.out); have Ies := Lib.hid (C.one _ _ Hes.out)
    have Bes := Lib.hid (setRow_heap _ W9.heap.size _ es _ _ HN.out)
    have bk := below_setRow bn (Nat.le_refl _) es
    have Bvb' := Lib.hid (blk_below bk (blk_lt Bvb.out) Bvb.out)
    go_wp2_with (first
      | (with_reducible refine wpList_store_row rfl 28 _ _ rfl W9.heap.size es rfl rfl 28 _ HN.out Ses.out Oes.out Ies.out ?_)
      | (with_reducible refine wpList_load_row rfl 34 _ rfl g2 rfl 34 _ (0, 0) _ Bvb'.out Tryd.underlying34 rfl Svb.out ?_))
    clear Bvb'
    replace hb := hb.trans (bk.mono hb.size)
    replace HP := Lib.hid (HP.out.step bk)
    replace Bbs := Lib.hid (blk_below bk (blk_lt Bbs.out) Bbs.out)
    replace Bvb := Lib.hid (blk_below bk (blk_lt Bvb.out) Bvb.out)
    replace Hvb := Lib.hid (Hvb.out.step bk)
    clear bk
    generalize (World.setRow (World.alloc _ _) _ _) = V10 at *
    generalize W9.heap.size = g3 at *
    clear bn HN
    refine (HMR.out V10 baseP_ok Hvb.out).mono ?_
    rintro e W11 ⟨⟨vm, rfl, hvm⟩, bk⟩
    have Hvm := Lib.hid hvm
    clear hvm
    replace hb := hb.trans (bk.mono hb.size)
    replace HP := Lib.hid (HP.out.step bk)
    replace Bbs := Lib.hid (blk_below bk (blk_lt Bbs.out) Bbs.out)
    replace Bvb := Lib.hid (blk_below bk (blk_lt Bvb.out) Bvb.out)
    replace Bes := Lib.hid (blk_below bk (blk_lt Bes.out) Bes.out)
    replace Hvb := Lib.hid (Hvb.out.step bk)
    clear bk
    obtain ⟨ta, tb, tc, td, rfl⟩ := Hvm.out.four
    have HN := Lib.hid (blk_new W11 (.cells zeroR 34))
    have bn := below_new W11 (.cells zeroR 34)
    have Svm := Lib.hid (sizeR ta tb tc td); have Ovm := Lib.hid (zeroR_size ta tb tc td); have Ivm := Lib.hid Hvm.out.one
    have Bvm := Lib.hid (setRow_heap _ W11.heap.size _ #[ta, tb, tc, td] _ _ HN.out)
    have bk := below_setRow bn (Nat.le_refl _) #[ta, tb, tc, td]
    go_wp2_with (with_reducible refine wpList_store_row rfl 34 _ _ rfl W11.heap.size #[ta, tb, tc, td] rfl rfl 34 _ HN.out Svm.out Ovm.out Ivm.out ?_)
    replace hb := hb.trans (bk.mono hb.size)
    replace HP := Lib.hid (HP.out.step bk)
    replace Bbs := Lib.hid (blk_below bk (blk_lt Bbs.out) Bbs.out)
    replace Bvb := Lib.hid (blk_below bk (blk_lt Bvb.out) Bvb.out)
    replace Bes := Lib.hid (blk_below bk (blk_lt Bes.out) Bes.out)
    replace Hvb := Lib.hid (Hvb.out.step bk)
    replace Hvm := Lib.hid (Hvm.out.step bk)
    clear bk
    generalize (World.setRow (World.alloc _ _) _ _) = V12 at *
    generalize W11.heap.size = g4 at *
    clear bn HN
    refine wp_region_toldg 13 55 [(Told.val (.int .i64 q2), [10]),
    (Told.val (.int .i64 q2), [12]),
    (Told.val (.bool true), [42, 43]),
    (Told.val (.bool true), [44]),
    (Told.val (.agg es), [9]),
    (Told.val (.string t1), [46]),
    (Told.val (.agg #[ta, tb, tc, td]), [11]),
    (Told.val (.string t1), [48]),
    (Told.val (.bool true), [47, 49]),
    (Told.val (.bool true), [45, 50]),
    (Told.val (.bool true), [51]),
    (Told.val (.bool true), []),
    (Told.val (.bool true), [52, 53])]
      (by kernel_rfl) (by kernel_rfl) rfl (by simp [toldGuards, Told.val]) ?_ ?_
    · simp only [List.take_succ_cons, List.take_zero, toldObl, and_true]
      refine ⟨?_, ?_, ?_, ?_, ?_, ?_, ?_, ?_, ?_, ?_, ?_, ?_, ?_⟩
      · intro a w hb h
        have e0 : a.tmps.getD 10 undef = (.int .i64 q2) := h 10 (by simp)
        simp only [Array.getD_eq_getD_getElem?] at e0
        simp [go_sem, e0, toldQuiet, Told.val]
        exact Below.refl _ _
      · intro a w hb h
        have e0 : a.tmps.getD 12 undef = (.int .i64 q2) := h 12 (by simp)
        simp only [Array.getD_eq_getD_getElem?] at e0
        simp [go_sem, e0, toldQuiet, Told.val]
        exact Below.refl _ _
      · intro a w hb h
        have e0 : a.tmps.getD 42 undef = (.int .i64 q2) := h 42 (by simp)
        have e1 : a.tmps.getD 43 undef = (.int .i64 q2) := h 43 (by simp)
        simp only [Array.getD_eq_getD_getElem?] at e0 e1
        simp [go_sem, e0, e1, toldQuiet, Told.val, eq2]
        exact Below.refl _ _
      · intro a w hb h
        have e0 : a.tmps.getD 44 undef = (.bool true) := h 44 (by simp)
        simp only [Array.getD_eq_getD_getElem?] at e0
        simp [go_sem, e0, toldQuiet, Told.val]
        exact Below.refl _ _
      · intro a w hb h
        have e0 : a.tmps.getD 9 undef = (.pointer (some ⟨g3, 0, none⟩)) := h 9 (by simp)
        exact told_of_sQuiet (sQuiet_load_row 28 (.tmp 9) rfl g3 e0 28 _ (0, 0) _ (blk_below hb (blk_lt Bes.out) Bes.out) Tryd.underlying28 rfl Ses.out)
      · intro a w hb h
        have e0 : a.tmps.getD 46 undef = (.agg es) := h 46 (by simp)
        simp only [Array.getD_eq_getD_getElem?] at e0
        simp [go_sem, e0, toldQuiet]
        exact valOf (hB1.out es w Hes.out (HP.out.step hb))
      · intro a w hb h
        have e0 : a.tmps.getD 11 undef = (.pointer (some ⟨g4, 0, none⟩)) := h 11 (by simp)
        exact told_of_sQuiet (sQuiet_load_row 34 (.tmp 11) rfl g4 e0 34 _ (0, 0) _ (blk_below hb (blk_lt Bvm.out) Bvm.out) Tryd.underlying34 rfl Svm.out)
      · intro a w hb h
        have e0 : a.tmps.getD 48 undef = (.agg #[ta, tb, tc, td]) := h 48 (by simp)
        simp only [Array.getD_eq_getD_getElem?] at e0
        simp [go_sem, e0, toldQuiet]
        exact valOf (hR1.out _ w (Hvm.out.step hb))
      · intro a w hb h
        have e0 : a.tmps.getD 47 undef = (.string t1) := h 47 (by simp)
        have e1 : a.tmps.getD 49 undef = (.string t1) := h 49 (by simp)
        simp only [Array.getD_eq_getD_getElem?] at e0 e1
        simp [go_sem, e0, e1, toldQuiet, Told.val, x1]
        exact Below.refl _ _
      · intro a w hb h
        have e0 : a.tmps.getD 45 undef = (.bool true) := h 45 (by simp)
        have e1 : a.tmps.getD 50 undef = (.bool true) := h 50 (by simp)
        simp only [Array.getD_eq_getD_getElem?] at e0 e1
        simp [go_sem, e0, e1, toldQuiet, Told.val]
        exact Below.refl _ _
      · intro a w hb h
        have e0 : a.tmps.getD 51 undef = (.bool true) := h 51 (by simp)
        simp only [Array.getD_eq_getD_getElem?] at e0
        simp [go_sem, e0, toldQuiet, Told.val]
        exact Below.refl _ _
      · intro a w hb h
        simp [go_sem, toldQuiet]
        exact valOf (HAw.out w (HP.out.step hb))
      · intro a w hb h
        have e0 : a.tmps.getD 52 undef = (.bool true) := h 52 (by simp)
        have e1 : a.tmps.getD 53 undef = (.bool true) := h 53 (by simp)
        simp only [Array.getD_eq_getD_getElem?] at e0 e1
        simp [go_sem, e0, e1, toldQuiet, Told.val]
        exact Below.refl _ _
    · simp only [List.take_succ_cons, List.take_zero, List.drop_succ_cons, List.drop_zero, toldEnd, Act.put, List.setIfInBounds_toArray, List.set_cons_succ, List.set_cons_zero]
      intro W13 bk v42 q42 v43 q43 v44 q44 v45 q45 v46 q46 v47 q47 v48 q48 v49 q49 v50 q50 v51 q51 v52 q52 v53 q53 v54 q54
      obtain rfl := q54.symm
      replace hb := hb.trans (bk.mono hb.size)
      replace HP := Lib.hid (HP.out.step bk)
      replace Bbs := Lib.hid (blk_below bk (blk_lt Bbs.out) Bbs.out)
      replace Bvb := Lib.hid (blk_below bk (blk_lt Bvb.out) Bvb.out)
      replace Bes := Lib.hid (blk_below bk (blk_lt Bes.out) Bes.out)
      replace Bvm := Lib.hid (blk_below bk (blk_lt Bvm.out) Bvm.out)
      replace Hvb := Lib.hid (Hvb.out.step bk)
      replace Hvm := Lib.hid (Hvm.out.step bk)
      clear bk
      clear q42 q43 q44 q45 q46 q47 q48 q49 q50 q51 q52 q53 q54
      go_wp2_with fail
      go_ret
      exact ⟨rfl, hb⟩
end Go.Proofs.YtcpdehfmlmmgiaaDoor
