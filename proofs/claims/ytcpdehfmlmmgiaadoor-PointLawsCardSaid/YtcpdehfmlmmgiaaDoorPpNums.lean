/- The program's numbers of a point, and the point of numbers. -/
import Derived.Test.YtcpdehfmlmmgiaaDoorPpRow
namespace Go.Proofs.YtcpdehfmlmmgiaaDoor
open Go.RowKit Go.Sort
set_option maxRecDepth 100000
set_option linter.unusedSimpArgs false
set_option linter.unusedVariables false

set_option maxHeartbeats 4000000 in
theorem numbersL_any (a b c d y1 z1 : Nat) (w : World) (l_b : b < pF) (l_c : c < pF) (hT : PrmQ w)
    (e_y1 : addF b 1 = y1) (e_z1 : addF c 1 = z1) :
    Calls Tryd.prog 43 #[.agg (uc (row4 a b c d))] w fun e w' => e = .returned (.agg (uc (row4 a y1 z1 d))) ∧ Below w.heap.size w w' := by
  have l_y1 : y1 < pF := e_y1 ▸ addF_lt _ _
  have l_z1 : z1 < pF := e_z1 ▸ addF_lt _ _
  have C_y1 := Lib.hid (fun (W : World) (hW : PrmQ W) => addF_any b 1 W l_b (by decide))
  rw [e_y1] at C_y1
  have C_z1 := Lib.hid (fun (W : World) (hW : PrmQ W) => addF_any c 1 W l_c (by decide))
  rw [e_z1] at C_z1
  clear e_y1 l_y1 e_z1 l_z1 l_b l_c
  have C_1 : Hid (∀ W : World, Calls Tryd.prog 28 #[.int .i64 1] W fun e w' => e = .returned (.agg (uc (limN 4 1))) ∧ Below W.heap.size W w') := Lib.hid (fun W => smallPos_any 1 W (by decide))
  obtain ⟨hz, hi⟩ := zero_of_info infoF
  obtain ⟨hzn, hin⟩ := zero_of_info infoNs
  obtain ⟨hzp, hip⟩ := zero_of_info infoPt
  have hb := below_new2 w (.cells (uc (row4 a b c d)) 28) (.cells zrow4 57)
  have HP := Lib.hid (hT.step hb)
  have HQ := Lib.hid (blk_old (o := .cells zrow4 57) (blk_new w (.cells (uc (row4 a b c d)) 28)))
  have HR := Lib.hid (blk_new2 w (.cells (uc (row4 a b c d)) 28) (.cells zrow4 57))
  clear hi hin hip hT
  go_enter Tryd.func43, Tryd.ntmps43
  go_wp2_with fail
  try clear hzn
  try clear hzp
  generalize ((w.alloc _).alloc _) = W0 at *
  have hB := Lib.hid hb.size
  generalize hBB : w.heap.size = B at *
  have HBB := Lib.hid hBB
  clear hBB
  refine (C_1.out W0).mono ?_
  rintro e W1 ⟨rfl, bk⟩
  replace hb := hb.trans (bk.mono hB.out)
  replace HP := Lib.hid (HP.out.step bk)
  replace hB := Lib.hid (Nat.le_trans hB.out bk.size)
  replace HQ := Lib.hid (blk_below bk (blk_lt HQ.out) HQ.out)
  replace HR := Lib.hid (blk_below bk (blk_lt HR.out) HR.out)
  clear bk
  have HN := Lib.hid (blk_new W1 (.cells zeros4 26))
  have bn := below_new W1 (.cells zeros4 26)
  have q_g3 := Lib.hid (setRow_heap _ W1.heap.size _ (uc (limN 4 1)) _ _ HN.out)
  go_wp2_with (first | (with_reducible refine wpList_store_row rfl 26 _ _ rfl W1.heap.size (uc (limN 4 1)) rfl rfl 26 _ HN.out (sizeF' _) (zerosF_size _) (uc_one _) ?_))
  have bk := below_setRow bn (Nat.le_refl _) (uc (limN 4 1))
  have b_g3 := Lib.hid hB.out
  replace hb := hb.trans (bk.mono hB.out)
  replace HP := Lib.hid (HP.out.step bk)
  replace hB := Lib.hid (Nat.le_trans hB.out bk.size)
  replace HQ := Lib.hid (blk_below bk (blk_lt HQ.out) HQ.out)
  replace HR := Lib.hid (blk_below bk (blk_lt HR.out) HR.out)
  clear bk
  have H_g3 := q_g3
  generalize (World.setRow (World.alloc _ _) _ _) = W2 at *
  generalize W1.heap.size = g3 at *
  clear bn HN q_g3
  try simp only [Act.put]
  refine wp_region_fresh 13 18 [.val (.pointer (some ⟨B, 0, none⟩)) [(1, .pointer (some ⟨B, 0, none⟩))],
      .val (.agg (uc (limN 4 a))) [(5, .pointer (some ⟨B, 0, none⟩))],
      .val (.pointer (some ⟨B, 4, none⟩)) [(1, .pointer (some ⟨B, 0, none⟩))],
      .val (.agg (uc (limN 4 b))) [(7, .pointer (some ⟨B, 4, none⟩))],
      .val (.agg (uc (limN 4 1))) [(3, .pointer (some ⟨g3, 0, none⟩))],
      .val (.agg (uc (limN 4 y1))) [(8, .agg (uc (limN 4 b))), (9, .agg (uc (limN 4 1)))],
      .val (.pointer (some ⟨B, 8, none⟩)) [(1, .pointer (some ⟨B, 0, none⟩))],
      .val (.agg (uc (limN 4 c))) [(11, .pointer (some ⟨B, 8, none⟩))],
      .val (.agg (uc (limN 4 1))) [(3, .pointer (some ⟨g3, 0, none⟩))],
      .val (.agg (uc (limN 4 z1))) [(12, .agg (uc (limN 4 c))), (13, .agg (uc (limN 4 1)))],
      .val (.pointer (some ⟨B, 12, none⟩)) [(1, .pointer (some ⟨B, 0, none⟩))],
      .val (.agg (uc (limN 4 d))) [(15, .pointer (some ⟨B, 12, none⟩))],
      .val (.agg (uc (row4 a y1 z1 d))) [(6, .agg (uc (limN 4 a))), (10, .agg (uc (limN 4 y1))), (14, .agg (uc (limN 4 z1))), (16, .agg (uc (limN 4 d)))]] (by kernel_rfl) (by kernel_rfl) rfl ?_ ?_ ?_
  · simp only [List.take_succ_cons, List.take_zero, headObl, specObl, HeadSpec.val, HeadSpec.fresh, and_true]
    refine ⟨?_, ?_, ?_, ?_, ?_, ?_, ?_, ?_, ?_, ?_, ?_, ?_, ?_⟩
    · intro act w hb h
      have e0 := h (1, .pointer (some ⟨B, 0, none⟩)) (by simp)
      simp only [Array.getD_eq_getD_getElem?] at e0
      simp [go_sem, e0, sQuiet]
    · intro act w hb h
      have e0 := h (5, .pointer (some ⟨B, 0, none⟩)) (by simp)
      exact sQuiet_load_in4 (.tmp 5) rfl (B) 0 e0 28 _ _ (0, 0) (blk_below hb (blk_lt HQ.out) HQ.out) (limN_length _ _) (row4_0 _ _ _ _)
    · intro act w hb h
      have e0 := h (1, .pointer (some ⟨B, 0, none⟩)) (by simp)
      simp only [Array.getD_eq_getD_getElem?] at e0
      simp [go_sem, e0, sQuiet]
    · intro act w hb h
      have e0 := h (7, .pointer (some ⟨B, 4, none⟩)) (by simp)
      exact sQuiet_load_in4 (.tmp 7) rfl (B) 4 e0 28 _ _ (0, 0) (blk_below hb (blk_lt HQ.out) HQ.out) (limN_length _ _) (row4_1 _ _ _ _)
    · intro act w hb h
      have e0 := h (3, .pointer (some ⟨g3, 0, none⟩)) (by simp)
      exact sQuiet_load_row 26 (.tmp 3) rfl (g3) e0 26 _ (0, 0) _ (blk_below hb (blk_lt H_g3.out) H_g3.out) Tryd.underlying26 rfl (sizeF' _)
    · intro act w hb h
      have e0 := h (8, .agg (uc (limN 4 b))) (by simp)
      have e1 := h (9, .agg (uc (limN 4 1))) (by simp)
      simp only [Array.getD_eq_getD_getElem?] at e0 e1
      simp [go_sem, e0, e1, sQuiet]
      exact C_y1.out w (HP.out.step hb)
    · intro act w hb h
      have e0 := h (1, .pointer (some ⟨B, 0, none⟩)) (by simp)
      simp only [Array.getD_eq_getD_getElem?] at e0
      simp [go_sem, e0, sQuiet]
    · intro act w hb h
      have e0 := h (11, .pointer (some ⟨B, 8, none⟩)) (by simp)
      exact sQuiet_load_in4 (.tmp 11) rfl (B) 8 e0 28 _ _ (0, 0) (blk_below hb (blk_lt HQ.out) HQ.out) (limN_length _ _) (row4_2 _ _ _ _)
    · intro act w hb h
      have e0 := h (3, .pointer (some ⟨g3, 0, none⟩)) (by simp)
      exact sQuiet_load_row 26 (.tmp 3) rfl (g3) e0 26 _ (0, 0) _ (blk_below hb (blk_lt H_g3.out) H_g3.out) Tryd.underlying26 rfl (sizeF' _)
    · intro act w hb h
      have e0 := h (12, .agg (uc (limN 4 c))) (by simp)
      have e1 := h (13, .agg (uc (limN 4 1))) (by simp)
      simp only [Array.getD_eq_getD_getElem?] at e0 e1
      simp [go_sem, e0, e1, sQuiet]
      exact C_z1.out w (HP.out.step hb)
    · intro act w hb h
      have e0 := h (1, .pointer (some ⟨B, 0, none⟩)) (by simp)
      simp only [Array.getD_eq_getD_getElem?] at e0
      simp [go_sem, e0, sQuiet]
    · intro act w hb h
      have e0 := h (15, .pointer (some ⟨B, 12, none⟩)) (by simp)
      exact sQuiet_load_in4 (.tmp 15) rfl (B) 12 e0 28 _ _ (0, 0) (blk_below hb (blk_lt HQ.out) HQ.out) (limN_length _ _) (row4_3 _ _ _ _)
    · intro act w hb h
      have e0 := h (6, .agg (uc (limN 4 a))) (by simp)
      have e1 := h (10, .agg (uc (limN 4 y1))) (by simp)
      have e2 := h (14, .agg (uc (limN 4 z1))) (by simp)
      have e3 := h (16, .agg (uc (limN 4 d))) (by simp)
      exact sQuiet_build_ns (.tmp 6) (.tmp 10) (.tmp 14) (.tmp 16) rfl _ _ _ _ e0 e1 e2 e3
  · simp [headReads, headPut, specV, HeadSpec.val, HeadSpec.fresh, Act.put]
  · simp only [List.take_succ_cons, List.take_zero, List.drop_succ_cons, List.drop_zero, headEnd, HeadSpec.val, HeadSpec.fresh, Act.put, List.setIfInBounds_toArray, List.set_cons_succ, List.set_cons_zero]
    intro v1 hv1 hgs
    have HN := Lib.hid (blk_below hv1 (blk_lt HR.out) HR.out)
    have HNN := Lib.hid (setRow_heap v1 (B + 1) _ (uc (row4 a y1 z1 d)) _ _ HN.out)
    have hb2 : Below B w (v1.setRow (B + 1) (uc (row4 a y1 z1 d))) := below_setRow (hb.trans (hv1.mono hB.out)) (by omega) _
    clear hgs hv1 hb
    go_wp2_with (with_reducible refine wpList_store_row rfl 57 _ _ rfl (B + 1) (uc (row4 a y1 z1 d)) rfl rfl 57 _ HN.out (sizeNs _ (row4_length _ _ _ _)) (zrow4_size _ (row4_length _ _ _ _)) (uc_one _) ?_)
    exact bodyPost_ret (v := .agg (uc (row4 a y1 z1 d))) (results_cell_row (by rfl) _ _ (B + 1) 57 _ (0, 0) _ rfl HNN.out Tryd.underlying57 rfl (sizeNs _ (row4_length _ _ _ _))) rfl ⟨rfl, by rw [HBB.out]; exact hb2⟩
set_option maxHeartbeats 4000000 in
theorem pointL_any (a b c d y1 z1 : Nat) (w : World) (l_b : b < pF) (l_c : c < pF) (hT : PrmQ w)
    (e_y1 : subF b 1 = y1) (e_z1 : subF c 1 = z1) :
    Calls Tryd.prog 30 #[.agg (uc (row4 a b c d))] w fun e w' => e = .returned (.agg (uc (row4 a y1 z1 d))) ∧ Below w.heap.size w w' := by
  have l_y1 : y1 < pF := e_y1 ▸ subF_lt _ _
  have l_z1 : z1 < pF := e_z1 ▸ subF_lt _ _
  have C_y1 := Lib.hid (fun (W : World) (hW : PrmQ W) => subF_any b 1 W l_b (by decide) hW)
  rw [e_y1] at C_y1
  have C_z1 := Lib.hid (fun (W : World) (hW : PrmQ W) => subF_any c 1 W l_c (by decide) hW)
  rw [e_z1] at C_z1
  clear e_y1 l_y1 e_z1 l_z1 l_b l_c
  have C_1 : Hid (∀ W : World, Calls Tryd.prog 28 #[.int .i64 1] W fun e w' => e = .returned (.agg (uc (limN 4 1))) ∧ Below W.heap.size W w') := Lib.hid (fun W => smallPos_any 1 W (by decide))
  obtain ⟨hz, hi⟩ := zero_of_info infoF
  obtain ⟨hzn, hin⟩ := zero_of_info infoNs
  obtain ⟨hzp, hip⟩ := zero_of_info infoPt
  have hb := below_new2 w (.cells (uc (row4 a b c d)) 57) (.cells zrow4 28)
  have HP := Lib.hid (hT.step hb)
  have HQ := Lib.hid (blk_old (o := .cells zrow4 28) (blk_new w (.cells (uc (row4 a b c d)) 57)))
  have HR := Lib.hid (blk_new2 w (.cells (uc (row4 a b c d)) 57) (.cells zrow4 28))
  clear hi hin hip hT
  go_enter Tryd.func30, Tryd.ntmps30
  go_wp2_with fail
  try clear hzn
  try clear hzp
  generalize ((w.alloc _).alloc _) = W0 at *
  have hB := Lib.hid hb.size
  generalize hBB : w.heap.size = B at *
  have HBB := Lib.hid hBB
  clear hBB
  refine (C_1.out W0).mono ?_
  rintro e W1 ⟨rfl, bk⟩
  replace hb := hb.trans (bk.mono hB.out)
  replace HP := Lib.hid (HP.out.step bk)
  replace hB := Lib.hid (Nat.le_trans hB.out bk.size)
  replace HQ := Lib.hid (blk_below bk (blk_lt HQ.out) HQ.out)
  replace HR := Lib.hid (blk_below bk (blk_lt HR.out) HR.out)
  clear bk
  have HN := Lib.hid (blk_new W1 (.cells zeros4 26))
  have bn := below_new W1 (.cells zeros4 26)
  have q_g3 := Lib.hid (setRow_heap _ W1.heap.size _ (uc (limN 4 1)) _ _ HN.out)
  go_wp2_with (first | (with_reducible refine wpList_store_row rfl 26 _ _ rfl W1.heap.size (uc (limN 4 1)) rfl rfl 26 _ HN.out (sizeF' _) (zerosF_size _) (uc_one _) ?_))
  have bk := below_setRow bn (Nat.le_refl _) (uc (limN 4 1))
  have b_g3 := Lib.hid hB.out
  replace hb := hb.trans (bk.mono hB.out)
  replace HP := Lib.hid (HP.out.step bk)
  replace hB := Lib.hid (Nat.le_trans hB.out bk.size)
  replace HQ := Lib.hid (blk_below bk (blk_lt HQ.out) HQ.out)
  replace HR := Lib.hid (blk_below bk (blk_lt HR.out) HR.out)
  clear bk
  have H_g3 := q_g3
  generalize (World.setRow (World.alloc _ _) _ _) = W2 at *
  generalize W1.heap.size = g3 at *
  clear bn HN q_g3
  try simp only [Act.put]
  refine wp_region_fresh 13 18 [.val (.pointer (some ⟨B, 0, none⟩)) [(1, .pointer (some ⟨B, 0, none⟩))],
      .val (.agg (uc (limN 4 a))) [(5, .pointer (some ⟨B, 0, none⟩))],
      .val (.pointer (some ⟨B, 4, none⟩)) [(1, .pointer (some ⟨B, 0, none⟩))],
      .val (.agg (uc (limN 4 b))) [(7, .pointer (some ⟨B, 4, none⟩))],
      .val (.agg (uc (limN 4 1))) [(3, .pointer (some ⟨g3, 0, none⟩))],
      .val (.agg (uc (limN 4 y1))) [(8, .agg (uc (limN 4 b))), (9, .agg (uc (limN 4 1)))],
      .val (.pointer (some ⟨B, 8, none⟩)) [(1, .pointer (some ⟨B, 0, none⟩))],
      .val (.agg (uc (limN 4 c))) [(11, .pointer (some ⟨B, 8, none⟩))],
      .val (.agg (uc (limN 4 1))) [(3, .pointer (some ⟨g3, 0, none⟩))],
      .val (.agg (uc (limN 4 z1))) [(12, .agg (uc (limN 4 c))), (13, .agg (uc (limN 4 1)))],
      .val (.pointer (some ⟨B, 12, none⟩)) [(1, .pointer (some ⟨B, 0, none⟩))],
      .val (.agg (uc (limN 4 d))) [(15, .pointer (some ⟨B, 12, none⟩))],
      .val (.agg (uc (row4 a y1 z1 d))) [(6, .agg (uc (limN 4 a))), (10, .agg (uc (limN 4 y1))), (14, .agg (uc (limN 4 z1))), (16, .agg (uc (limN 4 d)))]] (by kernel_rfl) (by kernel_rfl) rfl ?_ ?_ ?_
  · simp only [List.take_succ_cons, List.take_zero, headObl, specObl, HeadSpec.val, HeadSpec.fresh, and_true]
    refine ⟨?_, ?_, ?_, ?_, ?_, ?_, ?_, ?_, ?_, ?_, ?_, ?_, ?_⟩
    · intro act w hb h
      have e0 := h (1, .pointer (some ⟨B, 0, none⟩)) (by simp)
      simp only [Array.getD_eq_getD_getElem?] at e0
      simp [go_sem, e0, sQuiet]
    · intro act w hb h
      have e0 := h (5, .pointer (some ⟨B, 0, none⟩)) (by simp)
      exact sQuiet_load_in4 (.tmp 5) rfl (B) 0 e0 57 _ _ (0, 0) (blk_below hb (blk_lt HQ.out) HQ.out) (limN_length _ _) (row4_0 _ _ _ _)
    · intro act w hb h
      have e0 := h (1, .pointer (some ⟨B, 0, none⟩)) (by simp)
      simp only [Array.getD_eq_getD_getElem?] at e0
      simp [go_sem, e0, sQuiet]
    · intro act w hb h
      have e0 := h (7, .pointer (some ⟨B, 4, none⟩)) (by simp)
      exact sQuiet_load_in4 (.tmp 7) rfl (B) 4 e0 57 _ _ (0, 0) (blk_below hb (blk_lt HQ.out) HQ.out) (limN_length _ _) (row4_1 _ _ _ _)
    · intro act w hb h
      have e0 := h (3, .pointer (some ⟨g3, 0, none⟩)) (by simp)
      exact sQuiet_load_row 26 (.tmp 3) rfl (g3) e0 26 _ (0, 0) _ (blk_below hb (blk_lt H_g3.out) H_g3.out) Tryd.underlying26 rfl (sizeF' _)
    · intro act w hb h
      have e0 := h (8, .agg (uc (limN 4 b))) (by simp)
      have e1 := h (9, .agg (uc (limN 4 1))) (by simp)
      simp only [Array.getD_eq_getD_getElem?] at e0 e1
      simp [go_sem, e0, e1, sQuiet]
      exact C_y1.out w (HP.out.step hb)
    · intro act w hb h
      have e0 := h (1, .pointer (some ⟨B, 0, none⟩)) (by simp)
      simp only [Array.getD_eq_getD_getElem?] at e0
      simp [go_sem, e0, sQuiet]
    · intro act w hb h
      have e0 := h (11, .pointer (some ⟨B, 8, none⟩)) (by simp)
      exact sQuiet_load_in4 (.tmp 11) rfl (B) 8 e0 57 _ _ (0, 0) (blk_below hb (blk_lt HQ.out) HQ.out) (limN_length _ _) (row4_2 _ _ _ _)
    · intro act w hb h
      have e0 := h (3, .pointer (some ⟨g3, 0, none⟩)) (by simp)
      exact sQuiet_load_row 26 (.tmp 3) rfl (g3) e0 26 _ (0, 0) _ (blk_below hb (blk_lt H_g3.out) H_g3.out) Tryd.underlying26 rfl (sizeF' _)
    · intro act w hb h
      have e0 := h (12, .agg (uc (limN 4 c))) (by simp)
      have e1 := h (13, .agg (uc (limN 4 1))) (by simp)
      simp only [Array.getD_eq_getD_getElem?] at e0 e1
      simp [go_sem, e0, e1, sQuiet]
      exact C_z1.out w (HP.out.step hb)
    · intro act w hb h
      have e0 := h (1, .pointer (some ⟨B, 0, none⟩)) (by simp)
      simp only [Array.getD_eq_getD_getElem?] at e0
      simp [go_sem, e0, sQuiet]
    · intro act w hb h
      have e0 := h (15, .pointer (some ⟨B, 12, none⟩)) (by simp)
      exact sQuiet_load_in4 (.tmp 15) rfl (B) 12 e0 57 _ _ (0, 0) (blk_below hb (blk_lt HQ.out) HQ.out) (limN_length _ _) (row4_3 _ _ _ _)
    · intro act w hb h
      have e0 := h (6, .agg (uc (limN 4 a))) (by simp)
      have e1 := h (10, .agg (uc (limN 4 y1))) (by simp)
      have e2 := h (14, .agg (uc (limN 4 z1))) (by simp)
      have e3 := h (16, .agg (uc (limN 4 d))) (by simp)
      exact sQuiet_build_point4 (.tmp 6) (.tmp 10) (.tmp 14) (.tmp 16) rfl _ _ _ _ e0 e1 e2 e3
  · simp [headReads, headPut, specV, HeadSpec.val, HeadSpec.fresh, Act.put]
  · simp only [List.take_succ_cons, List.take_zero, List.drop_succ_cons, List.drop_zero, headEnd, HeadSpec.val, HeadSpec.fresh, Act.put, List.setIfInBounds_toArray, List.set_cons_succ, List.set_cons_zero]
    intro v1 hv1 hgs
    have HN := Lib.hid (blk_below hv1 (blk_lt HR.out) HR.out)
    have HNN := Lib.hid (setRow_heap v1 (B + 1) _ (uc (row4 a y1 z1 d)) _ _ HN.out)
    have hb2 : Below B w (v1.setRow (B + 1) (uc (row4 a y1 z1 d))) := below_setRow (hb.trans (hv1.mono hB.out)) (by omega) _
    clear hgs hv1 hb
    go_wp2_with (with_reducible refine wpList_store_row rfl 28 _ _ rfl (B + 1) (uc (row4 a y1 z1 d)) rfl rfl 28 _ HN.out (sizePt _ (row4_length _ _ _ _)) (zrow4_size _ (row4_length _ _ _ _)) (uc_one _) ?_)
    exact bodyPost_ret (v := .agg (uc (row4 a y1 z1 d))) (results_cell_row (by rfl) _ _ (B + 1) 28 _ (0, 0) _ rfl HNN.out Tryd.underlying28 rfl (sizePt _ (row4_length _ _ _ _))) rfl ⟨rfl, by rw [HBB.out]; exact hb2⟩
end Go.Proofs.YtcpdehfmlmmgiaaDoor
