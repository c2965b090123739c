/- The program's root at a height. -/
import Derived.Test.YtcpdehfmlmmgiaaDoorPpSum
namespace Go.Proofs.YtcpdehfmlmmgiaaDoor
open Go.RowKit Go.Sort
set_option maxRecDepth 100000
set_option linter.unusedSimpArgs false
set_option linter.unusedVariables false

set_option maxHeartbeats 4000000 in
theorem rootL_any (y fd sq m be u v q r : Nat) (b : Bool) (w : World) (l_y : y < pF) (hfd : facF = fd) (hT : PrmQ w)
    (e_sq : mulF y y = sq) (e_m : mulF fd sq = m) (e_be : addF m 1 = be) (e_u : subF sq 1 = u) (e_v : invF be = v) (e_q : mulF u v = q) (e_r : rootF q = (r, b)) :
    Calls Tryd.prog 25 #[.agg (uc (limN 4 y))] w fun e w' => e = .returned (.tuple #[.agg (uc (limN 4 r)), .bool b]) ∧ Below w.heap.size w w' := by
  have C_fd := Lib.hid (fun (W : World) (hW : PrmQ W) => coef_any W hW)
  have l_fd : fd < pF := hfd ▸ facF_lt
  rw [hfd] at C_fd
  have l_v : v < pF := e_v ▸ powF_lt _ _
  have l_q : q < pF := e_q ▸ mulF_lt _ _
  have C_v := Lib.hid (fun (W : World) (hW : PrmQ W) => invF_any be W (e_be ▸ addF_lt _ _))
  rw [e_v] at C_v
  have C_q := Lib.hid (fun (W : World) (hW : PrmQ W) => mulF_any u v W (e_u ▸ subF_lt _ _) l_v)
  rw [e_q] at C_q
  have C_r := Lib.hid (fun (W : World) (hW : PrmQ W) => rootF_any q W l_q hW)
  rw [e_r] at C_r
  dsimp only at C_r
  have l_sq : sq < pF := e_sq ▸ mulF_lt _ _
  have l_m : m < pF := e_m ▸ mulF_lt _ _
  have l_be : be < pF := e_be ▸ addF_lt _ _
  have l_u : u < pF := e_u ▸ subF_lt _ _
  have C_sq := Lib.hid (fun (W : World) (hW : PrmQ W) => mulF_any y y W l_y l_y)
  rw [e_sq] at C_sq
  have C_m := Lib.hid (fun (W : World) (hW : PrmQ W) => mulF_any fd sq W l_fd l_sq)
  rw [e_m] at C_m
  have C_be := Lib.hid (fun (W : World) (hW : PrmQ W) => addF_any m 1 W l_m (by decide))
  rw [e_be] at C_be
  have C_u := Lib.hid (fun (W : World) (hW : PrmQ W) => subF_any sq 1 W l_sq (by decide) hW)
  rw [e_u] at C_u
  clear e_sq l_sq e_m l_m e_be l_be e_u l_u l_y l_fd l_v l_q
  clear hfd e_v e_q e_r
  have C_1 : Hid (∀ W : World, Calls Tryd.prog 28 #[.int .i64 1] W fun e w' => e = .returned (.agg (uc (limN 4 1))) ∧ Below W.heap.size W w') := Lib.hid (fun W => smallPos_any 1 W (by decide))
  obtain ⟨hz, hi⟩ := zero_of_info infoF
  obtain ⟨hzn, hin⟩ := zero_of_info infoNs
  obtain ⟨hzp, hip⟩ := zero_of_info infoPt
  have hb := below_new2 w (.cells (uc (limN 4 y)) 26) (.cells zeros4 26)
  have HP := Lib.hid (hT.step hb)
  have HQ := Lib.hid (blk_old (o := .cells zeros4 26) (blk_new w (.cells (uc (limN 4 y)) 26)))
  have HR := Lib.hid (blk_new2 w (.cells (uc (limN 4 y)) 26) (.cells zeros4 26))
  clear hi hin hip hT
  go_enter Tryd.func25, Tryd.ntmps25
  go_upto_region 1 with fail
  try clear hzn
  try clear hzp
  generalize ((w.alloc _).alloc _) = W0 at *
  have hB := Lib.hid hb.size
  generalize hBB : w.heap.size = B at *
  have HBB := Lib.hid hBB
  clear hBB
  refine wp_region_fresh 6 25 [.val (.agg (uc (limN 4 1))) [],
      .val (.agg (uc (limN 4 y))) [(1, .pointer (some ⟨B, 0, none⟩))],
      .val (.agg (uc (limN 4 y))) [(1, .pointer (some ⟨B, 0, none⟩))],
      .val (.agg (uc (limN 4 sq))) [(8, .agg (uc (limN 4 y))), (9, .agg (uc (limN 4 y)))],
      .fresh (.cells zeros4 26),
      .fresh (.cells zeros4 26)] (by kernel_rfl) (by kernel_rfl) rfl ?_ ?_ ?_
  · simp only [List.take_succ_cons, List.take_zero, headObl, specObl, HeadSpec.val, HeadSpec.fresh, and_true]
    refine ⟨?_, ?_, ?_, ?_, ?_, ?_⟩
    · intro act w hb h
      simp [go_sem, sQuiet]
      exact C_1.out w
    · intro act w hb h
      have e0 := h (1, .pointer (some ⟨B, 0, none⟩)) (by simp)
      exact sQuiet_load_row 26 (.tmp 1) rfl (B) e0 26 _ (0, 0) _ (blk_below hb (blk_lt HQ.out) HQ.out) Tryd.underlying26 rfl (sizeF' _)
    · intro act w hb h
      have e0 := h (1, .pointer (some ⟨B, 0, none⟩)) (by simp)
      exact sQuiet_load_row 26 (.tmp 1) rfl (B) e0 26 _ (0, 0) _ (blk_below hb (blk_lt HQ.out) HQ.out) Tryd.underlying26 rfl (sizeF' _)
    · intro act w hb h
      have e0 := h (8, .agg (uc (limN 4 y))) (by simp)
      have e1 := h (9, .agg (uc (limN 4 y))) (by simp)
      simp only [Array.getD_eq_getD_getElem?] at e0 e1
      simp [go_sem, e0, e1, sQuiet]
      exact C_sq.out w (HP.out.step hb)
    · intro act w hb
      simp [go_sem, hz]
    · intro act w hb
      simp [go_sem, hz]
  · simp [headReads, headPut, specV, HeadSpec.val, HeadSpec.fresh, Act.put]
  · simp only [List.take_succ_cons, List.take_zero, List.drop_succ_cons, List.drop_zero, headEnd, HeadSpec.val, HeadSpec.fresh, Act.put, List.setIfInBounds_toArray, List.set_cons_succ, List.set_cons_zero]
    intro g4 hg4 _ g5 hg5 ng5 v1 hv1 hgs
    have ne_g4_g5 : g4 ≠ g5 := ng5 (g4, .cells zeros4 26) (by simp)
    have N_g4 := Lib.hid (show v1.heap[g4]? = some (.cells zeros4 26) from hgs (g4, .cells zeros4 26) (by simp))
    have N_g5 := Lib.hid (show v1.heap[g5]? = some (.cells zeros4 26) from hgs (g5, .cells zeros4 26) (by simp))
    have M_g5 := Lib.hid (show (v1.setRow g4 (uc (limN 4 1))).heap[g5]? = some (.cells zeros4 26) from by rw [setRow_other _ _ _ _ (Ne.symm ne_g4_g5)]; exact N_g5.out)
    have hk : Below W0.heap.size W0 ((v1.setRow g4 (uc (limN 4 1))).setRow g5 (uc (limN 4 sq))) := below_setRow (below_setRow hv1 hg4 (uc (limN 4 1))) hg5 (uc (limN 4 sq))
    have k_g4 := Lib.hid (show ((v1.setRow g4 (uc (limN 4 1))).setRow g5 (uc (limN 4 sq))).heap[g4]? = some (.cells (uc (limN 4 1)) 26) from by rw [setRow_other _ _ _ _ ne_g4_g5]; exact setRow_heap _ g4 _ (uc (limN 4 1)) _ _ N_g4.out)
    have k_g5 := Lib.hid (show ((v1.setRow g4 (uc (limN 4 1))).setRow g5 (uc (limN 4 sq))).heap[g5]? = some (.cells (uc (limN 4 sq)) 26) from by exact setRow_heap _ g5 _ (uc (limN 4 sq)) _ _ M_g5.out)
    have hb1 := hb.trans (hk.mono hB.out)
    have hP1 := Lib.hid (HP.out.step hk)
    have kHQ := Lib.hid (blk_below hk (blk_lt HQ.out) HQ.out)
    have kHR := Lib.hid (blk_below hk (blk_lt HR.out) HR.out)
    have hB1 := Lib.hid (Nat.le_trans hB.out hk.size)
    have b_g4 := Lib.hid (Nat.le_trans hB.out hg4)
    have b_g5 := Lib.hid (Nat.le_trans hB.out hg5)
    clear HQ HR hv1 hgs hb HP hB hk hg4 hg5 ne_g4_g5 ng5
    go_wp2_with (first | (with_reducible refine wpList_store_row rfl 26 _ _ rfl g4 (uc (limN 4 1)) rfl rfl 26 _ N_g4.out (sizeF' _) (zerosF_size _) (uc_one _) ?_) | (with_reducible refine wpList_store_row rfl 26 _ _ rfl g5 (uc (limN 4 sq)) rfl rfl 26 _ M_g5.out (sizeF' _) (zerosF_size _) (uc_one _) ?_))
    generalize (World.setRow (World.setRow _ _ _) _ _) = W1 at *
    clear N_g4 N_g5 M_g5
    have HQ := kHQ
    have HR := kHR
    have H_g4 := k_g4
    have H_g5 := k_g5
    have hb := hb1; have HP := hP1; have hB := hB1
    clear hb1 hP1 hB1 kHQ kHR k_g4 k_g5
    try simp only [Act.put]
    refine wp_region_fresh 6 25 [.val (.agg (uc (limN 4 fd))) [],
      .val (.agg (uc (limN 4 sq))) [(5, .pointer (some ⟨g5, 0, none⟩))],
      .val (.agg (uc (limN 4 m))) [(11, .agg (uc (limN 4 fd))), (12, .agg (uc (limN 4 sq)))],
      .val (.agg (uc (limN 4 1))) [(4, .pointer (some ⟨g4, 0, none⟩))],
      .val (.agg (uc (limN 4 be))) [(13, .agg (uc (limN 4 m))), (14, .agg (uc (limN 4 1)))],
      .fresh (.cells zeros4 26)] (by kernel_rfl) (by kernel_rfl) rfl ?_ ?_ ?_
    · simp only [List.take_succ_cons, List.take_zero, headObl, specObl, HeadSpec.val, HeadSpec.fresh, and_true]
      refine ⟨?_, ?_, ?_, ?_, ?_, ?_⟩
      · intro act w hb h
        simp [go_sem, sQuiet]
        exact C_fd.out w (HP.out.step hb)
      · intro act w hb h
        have e0 := h (5, .pointer (some ⟨g5, 0, none⟩)) (by simp)
        exact sQuiet_load_row 26 (.tmp 5) rfl (g5) e0 26 _ (0, 0) _ (blk_below hb (blk_lt H_g5.out) H_g5.out) Tryd.underlying26 rfl (sizeF' _)
      · intro act w hb h
        have e0 := h (11, .agg (uc (limN 4 fd))) (by simp)
        have e1 := h (12, .agg (uc (limN 4 sq))) (by simp)
        simp only [Array.getD_eq_getD_getElem?] at e0 e1
        simp [go_sem, e0, e1, sQuiet]
        exact C_m.out w (HP.out.step hb)
      · intro act w hb h
        have e0 := h (4, .pointer (some ⟨g4, 0, none⟩)) (by simp)
        exact sQuiet_load_row 26 (.tmp 4) rfl (g4) e0 26 _ (0, 0) _ (blk_below hb (blk_lt H_g4.out) H_g4.out) Tryd.underlying26 rfl (sizeF' _)
      · intro act w hb h
        have e0 := h (13, .agg (uc (limN 4 m))) (by simp)
        have e1 := h (14, .agg (uc (limN 4 1))) (by simp)
        simp only [Array.getD_eq_getD_getElem?] at e0 e1
        simp [go_sem, e0, e1, sQuiet]
        exact C_be.out w (HP.out.step hb)
      · intro act w hb
        simp [go_sem, hz]
    · simp [headReads, headPut, specV, HeadSpec.val, HeadSpec.fresh, Act.put]
    · simp only [List.take_succ_cons, List.take_zero, List.drop_succ_cons, List.drop_zero, headEnd, HeadSpec.val, HeadSpec.fresh, Act.put, List.setIfInBounds_toArray, List.set_cons_succ, List.set_cons_zero]
      intro g6 hg6 _ v1 hv1 hgs
      have N_g6 := Lib.hid (show v1.heap[g6]? = some (.cells zeros4 26) from hgs (g6, .cells zeros4 26) (by simp))
      have hk : Below W1.heap.size W1 (v1.setRow g6 (uc (limN 4 be))) := below_setRow hv1 hg6 (uc (limN 4 be))
      have k_g6 := Lib.hid (show (v1.setRow g6 (uc (limN 4 be))).heap[g6]? = some (.cells (uc (limN 4 be)) 26) from by exact setRow_heap _ g6 _ (uc (limN 4 be)) _ _ N_g6.out)
      have hb1 := hb.trans (hk.mono hB.out)
      have hP1 := Lib.hid (HP.out.step hk)
      have kHQ := Lib.hid (blk_below hk (blk_lt HQ.out) HQ.out)
      have kHR := Lib.hid (blk_below hk (blk_lt HR.out) HR.out)
      have kH_g4 := Lib.hid (blk_below hk (blk_lt H_g4.out) H_g4.out)
      have kH_g5 := Lib.hid (blk_below hk (blk_lt H_g5.out) H_g5.out)
      have hB1 := Lib.hid (Nat.le_trans hB.out hk.size)
      have b_g6 := Lib.hid (Nat.le_trans hB.out hg6)
      clear HQ HR H_g4 H_g5 hv1 hgs hb HP hB hk hg6  
      go_wp2_with (first | (with_reducible refine wpList_store_row rfl 26 _ _ rfl g6 (uc (limN 4 be)) rfl rfl 26 _ N_g6.out (sizeF' _) (zerosF_size _) (uc_one _) ?_))
      generalize (World.setRow _ _ _) = W2 at *
      clear N_g6
      have HQ := kHQ
      have HR := kHR
      have H_g4 := kH_g4
      have H_g5 := kH_g5
      have H_g6 := k_g6
      have hb := hb1; have HP := hP1; have hB := hB1
      clear hb1 hP1 hB1 kHQ kHR kH_g4 kH_g5 k_g6
      try simp only [Act.put]
      refine wp_region_fresh 9 25 [.val (.agg (uc (limN 4 sq))) [(5, .pointer (some ⟨g5, 0, none⟩))],
      .val (.agg (uc (limN 4 1))) [(4, .pointer (some ⟨g4, 0, none⟩))],
      .val (.agg (uc (limN 4 u))) [(16, .agg (uc (limN 4 sq))), (17, .agg (uc (limN 4 1)))],
      .val (.agg (uc (limN 4 be))) [(6, .pointer (some ⟨g6, 0, none⟩))],
      .val (.agg (uc (limN 4 v))) [(19, .agg (uc (limN 4 be)))],
      .val (.agg (uc (limN 4 q))) [(18, .agg (uc (limN 4 u))), (20, .agg (uc (limN 4 v)))],
      .val (.tuple #[.agg (uc (limN 4 r)), .bool b]) [(21, .agg (uc (limN 4 q)))],
      .val (.agg (uc (limN 4 r))) [(22, .tuple #[.agg (uc (limN 4 r)), .bool b])],
      .val (.bool b) [(22, .tuple #[.agg (uc (limN 4 r)), .bool b])]] (by kernel_rfl) (by kernel_rfl) rfl ?_ ?_ ?_
      · simp only [List.take_succ_cons, List.take_zero, headObl, specObl, HeadSpec.val, HeadSpec.fresh, and_true]
        refine ⟨?_, ?_, ?_, ?_, ?_, ?_, ?_, ?_, ?_⟩
        · intro act w hb h
          have e0 := h (5, .pointer (some ⟨g5, 0, none⟩)) (by simp)
          exact sQuiet_load_row 26 (.tmp 5) rfl (g5) e0 26 _ (0, 0) _ (blk_below hb (blk_lt H_g5.out) H_g5.out) Tryd.underlying26 rfl (sizeF' _)
        · intro act w hb h
          have e0 := h (4, .pointer (some ⟨g4, 0, none⟩)) (by simp)
          exact sQuiet_load_row 26 (.tmp 4) rfl (g4) e0 26 _ (0, 0) _ (blk_below hb (blk_lt H_g4.out) H_g4.out) Tryd.underlying26 rfl (sizeF' _)
        · intro act w hb h
          have e0 := h (16, .agg (uc (limN 4 sq))) (by simp)
          have e1 := h (17, .agg (uc (limN 4 1))) (by simp)
          simp only [Array.getD_eq_getD_getElem?] at e0 e1
          simp [go_sem, e0, e1, sQuiet]
          exact C_u.out w (HP.out.step hb)
        · intro act w hb h
          have e0 := h (6, .pointer (some ⟨g6, 0, none⟩)) (by simp)
          exact sQuiet_load_row 26 (.tmp 6) rfl (g6) e0 26 _ (0, 0) _ (blk_below hb (blk_lt H_g6.out) H_g6.out) Tryd.underlying26 rfl (sizeF' _)
        · intro act w hb h
          have e0 := h (19, .agg (uc (limN 4 be))) (by simp)
          simp only [Array.getD_eq_getD_getElem?] at e0
          simp [go_sem, e0, sQuiet]
          exact C_v.out w (HP.out.step hb)
        · intro act w hb h
          have e0 := h (18, .agg (uc (limN 4 u))) (by simp)
          have e1 := h (20, .agg (uc (limN 4 v))) (by simp)
          simp only [Array.getD_eq_getD_getElem?] at e0 e1
          simp [go_sem, e0, e1, sQuiet]
          exact C_q.out w (HP.out.step hb)
        · intro act w hb h
          have e0 := h (21, .agg (uc (limN 4 q))) (by simp)
          simp only [Array.getD_eq_getD_getElem?] at e0
          simp [go_sem, e0, sQuiet]
          exact C_r.out w (HP.out.step hb)
        · intro act w hb h
          have e0 := h (22, .tuple #[.agg (uc (limN 4 r)), .bool b]) (by simp)
          simp only [Array.getD_eq_getD_getElem?] at e0
          simp [go_sem, e0, sQuiet]
        · intro act w hb h
          have e0 := h (22, .tuple #[.agg (uc (limN 4 r)), .bool b]) (by simp)
          simp only [Array.getD_eq_getD_getElem?] at e0
          simp [go_sem, e0, sQuiet]
      · simp [headReads, headPut, specV, HeadSpec.val, HeadSpec.fresh, Act.put]
      · simp only [List.take_succ_cons, List.take_zero, List.drop_succ_cons, List.drop_zero, headEnd, HeadSpec.val, HeadSpec.fresh, Act.put, List.setIfInBounds_toArray, List.set_cons_succ, List.set_cons_zero]
        intro v1 hv1 hgs
        have HN := Lib.hid (blk_below hv1 (blk_lt HR.out) HR.out)
        have HNN := Lib.hid (setRow_heap v1 (B + 1) _ (uc (limN 4 r)) _ _ HN.out)
        have hb2 : Below B w (v1.setRow (B + 1) (uc (limN 4 r))) := below_setRow (hb.trans (hv1.mono hB.out)) (by omega) _
        clear hgs hv1 hb
        go_wp2_with (with_reducible refine wpList_store_row rfl 26 _ _ rfl (B + 1) (uc (limN 4 r)) rfl rfl 26 _ HN.out (sizeF' _) (zerosF_size _) (uc_one _) ?_)
        exact bodyPost_ret (results_row_tmpF (by rfl) _ _ (B + 1) 26 _ (0, 0) _ rfl HNN.out Tryd.underlying26 rfl (sizeF' _)) rfl ⟨rfl, by rw [HBB.out]; exact hb2⟩
theorem rootAt_any (y : Nat) (w : World) (hy : y < pF) (hT : PrmQ w) :
    Calls Tryd.prog 25 #[.agg (uc (limN 4 y))] w fun e w' => e = .returned (.tuple #[.agg (uc (limN 4 (rootF (sqrP y)).1)), .bool (rootF (sqrP y)).2]) ∧ Below w.heap.size w w' := by
  have e (x : Nat × Bool) : x = (x.1, x.2) := rfl
  exact rootL_any y facF (mulF y y) (mulF facF (mulF y y)) (addF (mulF facF (mulF y y)) 1) (subF (mulF y y) 1) (invF (addF (mulF facF (mulF y y)) 1)) (sqrP y) (rootF (sqrP y)).1 (rootF (sqrP y)).2 w hy rfl hT rfl rfl rfl rfl rfl rfl (e _)
end Go.Proofs.YtcpdehfmlmmgiaaDoor
