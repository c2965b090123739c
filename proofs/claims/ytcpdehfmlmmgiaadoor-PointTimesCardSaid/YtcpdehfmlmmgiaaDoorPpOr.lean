/- The program's choice between two numbers, and between two points' numbers. -/
import Derived.Test.YtcpdehfmlmmgiaaDoorPpRow
namespace Go.Proofs.YtcpdehfmlmmgiaaDoor
open Go.RowKit Go.Sort
set_option maxRecDepth 100000
set_option linter.unusedSimpArgs false
set_option linter.unusedVariables false

set_option maxHeartbeats 4000000 in
theorem or1_any (a b n t1 t2 r : Nat) (w : World) (l_a : a < pF) (l_b : b < pF) (l_n : n < pF) (hT : PrmQ w)
    (e_t1 : subF b a = t1) (e_t2 : mulF n t1 = t2) (e_r : addF a t2 = r) :
    Calls Tryd.prog 66 #[.agg (uc (limN 4 a)), .agg (uc (limN 4 b)), .agg (uc (limN 4 n))] w fun e w' => e = .returned (.agg (uc (limN 4 r))) ∧ Below w.heap.size w w' := by
  have l_t1 : t1 < pF := e_t1 ▸ subF_lt _ _
  have l_t2 : t2 < pF := e_t2 ▸ mulF_lt _ _
  have l_r : r < pF := e_r ▸ addF_lt _ _
  have C_t1 := Lib.hid (fun (W : World) (hW : PrmQ W) => subF_any b a W l_b l_a hW)
  rw [e_t1] at C_t1
  have C_t2 := Lib.hid (fun (W : World) (hW : PrmQ W) => mulF_any n t1 W l_n l_t1)
  rw [e_t2] at C_t2
  have C_r := Lib.hid (fun (W : World) (hW : PrmQ W) => addF_any a t2 W l_a l_t2)
  rw [e_r] at C_r
  clear e_t1 l_t1 e_t2 l_t2 e_r l_r l_a l_b l_n
  obtain ⟨hz, hi⟩ := zero_of_info infoF
  obtain ⟨hzn, hin⟩ := zero_of_info infoNs
  obtain ⟨hzp, hip⟩ := zero_of_info infoPt
  have hb := below_four w (.cells (uc (limN 4 a)) 26) (.cells (uc (limN 4 b)) 26) (.cells (uc (limN 4 n)) 26) (.cells zeros4 26)
  have HP := Lib.hid (hT.step hb)
  have HA := Lib.hid (blk_old (o := .cells zeros4 26) (blk_old (o := .cells (uc (limN 4 n)) 26) (blk_old (o := .cells (uc (limN 4 b)) 26) (blk_new w (.cells (uc (limN 4 a)) 26)))))
  have HD := Lib.hid (blk_old (o := .cells zeros4 26) (blk_old (o := .cells (uc (limN 4 n)) 26) (blk_new2 w (.cells (uc (limN 4 a)) 26) (.cells (uc (limN 4 b)) 26))))
  have HC := Lib.hid (blk_old (o := .cells zeros4 26) (blk_new3 w (.cells (uc (limN 4 a)) 26) (.cells (uc (limN 4 b)) 26) (.cells (uc (limN 4 n)) 26)))
  have HR := Lib.hid (blk_fourth w (.cells (uc (limN 4 a)) 26) (.cells (uc (limN 4 b)) 26) (.cells (uc (limN 4 n)) 26) (.cells zeros4 26))
  clear hi hin hip hT
  go_enter Tryd.func66, Tryd.ntmps66
  go_upto_region 1 with fail
  try clear hzn
  try clear hzp
  generalize ((((w.alloc _).alloc _).alloc _).alloc _) = W0 at *
  have hB := Lib.hid hb.size
  generalize hBB : w.heap.size = B at *
  have HBB := Lib.hid hBB
  clear hBB
  refine wp_region_fresh 7 14 [.val (.agg (uc (limN 4 a))) [(3, .pointer (some ⟨B, 0, none⟩))],
      .val (.agg (uc (limN 4 n))) [(5, .pointer (some ⟨B + 1 + 1, 0, none⟩))],
      .val (.agg (uc (limN 4 b))) [(4, .pointer (some ⟨B + 1, 0, none⟩))],
      .val (.agg (uc (limN 4 a))) [(3, .pointer (some ⟨B, 0, none⟩))],
      .val (.agg (uc (limN 4 t1))) [(9, .agg (uc (limN 4 b))), (10, .agg (uc (limN 4 a)))],
      .val (.agg (uc (limN 4 t2))) [(8, .agg (uc (limN 4 n))), (11, .agg (uc (limN 4 t1)))],
      .val (.agg (uc (limN 4 r))) [(7, .agg (uc (limN 4 a))), (12, .agg (uc (limN 4 t2)))]] (by kernel_rfl) (by kernel_rfl) rfl ?_ ?_ ?_
  · simp only [List.take_succ_cons, List.take_zero, headObl, specObl, HeadSpec.val, HeadSpec.fresh, and_true]
    refine ⟨?_, ?_, ?_, ?_, ?_, ?_, ?_⟩
    · intro act w hb h
      have e0 := h (3, .pointer (some ⟨B, 0, none⟩)) (by simp)
      exact sQuiet_load_row 26 (.tmp 3) rfl (B) e0 26 _ (0, 0) _ (blk_below hb (blk_lt HA.out) HA.out) Tryd.underlying26 rfl (sizeF' _)
    · intro act w hb h
      have e0 := h (5, .pointer (some ⟨B + 1 + 1, 0, none⟩)) (by simp)
      exact sQuiet_load_row 26 (.tmp 5) rfl (B + 1 + 1) e0 26 _ (0, 0) _ (blk_below hb (blk_lt HC.out) HC.out) Tryd.underlying26 rfl (sizeF' _)
    · intro act w hb h
      have e0 := h (4, .pointer (some ⟨B + 1, 0, none⟩)) (by simp)
      exact sQuiet_load_row 26 (.tmp 4) rfl (B + 1) e0 26 _ (0, 0) _ (blk_below hb (blk_lt HD.out) HD.out) Tryd.underlying26 rfl (sizeF' _)
    · intro act w hb h
      have e0 := h (3, .pointer (some ⟨B, 0, none⟩)) (by simp)
      exact sQuiet_load_row 26 (.tmp 3) rfl (B) e0 26 _ (0, 0) _ (blk_below hb (blk_lt HA.out) HA.out) Tryd.underlying26 rfl (sizeF' _)
    · intro act w hb h
      have e0 := h (9, .agg (uc (limN 4 b))) (by simp)
      have e1 := h (10, .agg (uc (limN 4 a))) (by simp)
      simp only [Array.getD_eq_getD_getElem?] at e0 e1
      simp [go_sem, e0, e1, sQuiet]
      exact C_t1.out w (HP.out.step hb)
    · intro act w hb h
      have e0 := h (8, .agg (uc (limN 4 n))) (by simp)
      have e1 := h (11, .agg (uc (limN 4 t1))) (by simp)
      simp only [Array.getD_eq_getD_getElem?] at e0 e1
      simp [go_sem, e0, e1, sQuiet]
      exact C_t2.out w (HP.out.step hb)
    · intro act w hb h
      have e0 := h (7, .agg (uc (limN 4 a))) (by simp)
      have e1 := h (12, .agg (uc (limN 4 t2))) (by simp)
      simp only [Array.getD_eq_getD_getElem?] at e0 e1
      simp [go_sem, e0, e1, sQuiet]
      exact C_r.out w (HP.out.step hb)
  · simp [headReads, headPut, specV, HeadSpec.val, HeadSpec.fresh, Act.put]
  · simp only [List.take_succ_cons, List.take_zero, List.drop_succ_cons, List.drop_zero, headEnd, HeadSpec.val, HeadSpec.fresh, Act.put, List.setIfInBounds_toArray, List.set_cons_succ, List.set_cons_zero]
    intro v1 hv1 hgs
    have HN := Lib.hid (blk_below hv1 (blk_lt HR.out) HR.out)
    have HNN := Lib.hid (setRow_heap v1 (B + 1 + 1 + 1) _ (uc (limN 4 r)) _ _ HN.out)
    have hb2 : Below B w (v1.setRow (B + 1 + 1 + 1) (uc (limN 4 r))) := below_setRow (hb.trans (hv1.mono hB.out)) (by omega) _
    clear hgs hv1 hb
    go_wp2_with (with_reducible refine wpList_store_row rfl 26 _ _ rfl (B + 1 + 1 + 1) (uc (limN 4 r)) rfl rfl 26 _ HN.out (sizeF' _) (zerosF_size _) (uc_one _) ?_)
    exact bodyPost_ret (v := .agg (uc (limN 4 r))) (results_cell_row (by rfl) _ _ (B + 1 + 1 + 1) 26 _ (0, 0) _ rfl HNN.out Tryd.underlying26 rfl (sizeF' _)) rfl ⟨rfl, by rw [HBB.out]; exact hb2⟩
/-- Which of two numbers. -/
def selF (n a b : Nat) : Nat := if n = 1 then b else a
theorem sel_eq (n a b : Nat) (hn : n = 0 ∨ n = 1) (ha : a < pF) (hb : b < pF) : addF a (mulF n (subF b a)) = selF n a b := by
  unfold selF
  rcases hn with rfl | rfl
  · rw [if_neg (by decide), mulF, Nat.zero_mul, Nat.zero_mod, addF, Nat.add_zero, Nat.mod_eq_of_lt ha]
  · rw [if_pos rfl, mulF, Nat.one_mul, Nat.mod_eq_of_lt (subF_lt _ _), addF_comm, add_sub b a hb ha]
theorem or_any (a b n r : Nat) (w : World) (l_a : a < pF) (l_b : b < pF) (hn : n = 0 ∨ n = 1) (hT : PrmQ w) (e : selF n a b = r) :
    Calls Tryd.prog 66 #[.agg (uc (limN 4 a)), .agg (uc (limN 4 b)), .agg (uc (limN 4 n))] w fun e w' => e = .returned (.agg (uc (limN 4 r))) ∧ Below w.heap.size w w' :=
  or1_any a b n _ _ r w l_a l_b (by rcases hn with rfl | rfl <;> decide) hT rfl rfl (by rw [sel_eq n a b hn l_a l_b, e])
set_option maxHeartbeats 4000000 in
theorem or4_any (a b c d aa bb cc dd n ra rb rc rd : Nat) (w : World) (l_a : a < pF) (l_aa : aa < pF) (l_b : b < pF) (l_bb : bb < pF) (l_c : c < pF) (l_cc : cc < pF) (l_d : d < pF) (l_dd : dd < pF) (hn : n = 0 ∨ n = 1) (hT : PrmQ w)
    (e_a : selF n a aa = ra) (e_b : selF n b bb = rb) (e_c : selF n c cc = rc) (e_d : selF n d dd = rd) :
    Calls Tryd.prog 49 #[.agg (uc (row4 a b c d)), .agg (uc (row4 aa bb cc dd)), .agg (uc (limN 4 n))] w fun e w' => e = .returned (.agg (uc (row4 ra rb rc rd))) ∧ Below w.heap.size w w' := by
  have C_ra := Lib.hid (fun (W : World) (hW : PrmQ W) => or_any a aa n ra W l_a l_aa hn hW e_a)
  have C_rb := Lib.hid (fun (W : World) (hW : PrmQ W) => or_any b bb n rb W l_b l_bb hn hW e_b)
  have C_rc := Lib.hid (fun (W : World) (hW : PrmQ W) => or_any c cc n rc W l_c l_cc hn hW e_c)
  have C_rd := Lib.hid (fun (W : World) (hW : PrmQ W) => or_any d dd n rd W l_d l_dd hn hW e_d)
  clear hn l_a l_aa e_a l_b l_bb e_b l_c l_cc e_c l_d l_dd e_d
  obtain ⟨hz, hi⟩ := zero_of_info infoF
  obtain ⟨hzn, hin⟩ := zero_of_info infoNs
  obtain ⟨hzp, hip⟩ := zero_of_info infoPt
  have hb := below_four w (.cells (uc (row4 a b c d)) 57) (.cells (uc (row4 aa bb cc dd)) 57) (.cells (uc (limN 4 n)) 26) (.cells zrow4 57)
  have HP := Lib.hid (hT.step hb)
  have HQ := Lib.hid (blk_old (o := .cells zrow4 57) (blk_old (o := .cells (uc (limN 4 n)) 26) (blk_old (o := .cells (uc (row4 aa bb cc dd)) 57) (blk_new w (.cells (uc (row4 a b c d)) 57)))))
  have HX := Lib.hid (blk_old (o := .cells zrow4 57) (blk_old (o := .cells (uc (limN 4 n)) 26) (blk_new2 w (.cells (uc (row4 a b c d)) 57) (.cells (uc (row4 aa bb cc dd)) 57))))
  have HC := Lib.hid (blk_old (o := .cells zrow4 57) (blk_new3 w (.cells (uc (row4 a b c d)) 57) (.cells (uc (row4 aa bb cc dd)) 57) (.cells (uc (limN 4 n)) 26)))
  have HR := Lib.hid (blk_fourth w (.cells (uc (row4 a b c d)) 57) (.cells (uc (row4 aa bb cc dd)) 57) (.cells (uc (limN 4 n)) 26) (.cells zrow4 57))
  clear hi hin hip hT
  go_enter Tryd.func49, Tryd.ntmps49
  go_upto_region 1 with fail
  try clear hzn
  try clear hzp
  generalize ((((w.alloc _).alloc _).alloc _).alloc _) = W0 at *
  have hB := Lib.hid hb.size
  generalize hBB : w.heap.size = B at *
  have HBB := Lib.hid hBB
  clear hBB
  refine wp_region_fresh 25 32 [.val (.pointer (some ⟨B, 0, none⟩)) [(3, .pointer (some ⟨B, 0, none⟩))],
      .val (.agg (uc (limN 4 a))) [(7, .pointer (some ⟨B, 0, none⟩))],
      .val (.pointer (some ⟨B + 1, 0, none⟩)) [(4, .pointer (some ⟨B + 1, 0, none⟩))],
      .val (.agg (uc (limN 4 aa))) [(9, .pointer (some ⟨B + 1, 0, none⟩))],
      .val (.agg (uc (limN 4 n))) [(5, .pointer (some ⟨B + 1 + 1, 0, none⟩))],
      .val (.agg (uc (limN 4 ra))) [(8, .agg (uc (limN 4 a))), (10, .agg (uc (limN 4 aa))), (11, .agg (uc (limN 4 n)))],
      .val (.pointer (some ⟨B, 4, none⟩)) [(3, .pointer (some ⟨B, 0, none⟩))],
      .val (.agg (uc (limN 4 b))) [(13, .pointer (some ⟨B, 4, none⟩))],
      .val (.pointer (some ⟨B + 1, 4, none⟩)) [(4, .pointer (some ⟨B + 1, 0, none⟩))],
      .val (.agg (uc (limN 4 bb))) [(15, .pointer (some ⟨B + 1, 4, none⟩))],
      .val (.agg (uc (limN 4 n))) [(5, .pointer (some ⟨B + 1 + 1, 0, none⟩))],
      .val (.agg (uc (limN 4 rb))) [(14, .agg (uc (limN 4 b))), (16, .agg (uc (limN 4 bb))), (17, .agg (uc (limN 4 n)))],
      .val (.pointer (some ⟨B, 8, none⟩)) [(3, .pointer (some ⟨B, 0, none⟩))],
      .val (.agg (uc (limN 4 c))) [(19, .pointer (some ⟨B, 8, none⟩))],
      .val (.pointer (some ⟨B + 1, 8, none⟩)) [(4, .pointer (some ⟨B + 1, 0, none⟩))],
      .val (.agg (uc (limN 4 cc))) [(21, .pointer (some ⟨B + 1, 8, none⟩))],
      .val (.agg (uc (limN 4 n))) [(5, .pointer (some ⟨B + 1 + 1, 0, none⟩))],
      .val (.agg (uc (limN 4 rc))) [(20, .agg (uc (limN 4 c))), (22, .agg (uc (limN 4 cc))), (23, .agg (uc (limN 4 n)))],
      .val (.pointer (some ⟨B, 12, none⟩)) [(3, .pointer (some ⟨B, 0, none⟩))],
      .val (.agg (uc (limN 4 d))) [(25, .pointer (some ⟨B, 12, none⟩))],
      .val (.pointer (some ⟨B + 1, 12, none⟩)) [(4, .pointer (some ⟨B + 1, 0, none⟩))],
      .val (.agg (uc (limN 4 dd))) [(27, .pointer (some ⟨B + 1, 12, none⟩))],
      .val (.agg (uc (limN 4 n))) [(5, .pointer (some ⟨B + 1 + 1, 0, none⟩))],
      .val (.agg (uc (limN 4 rd))) [(26, .agg (uc (limN 4 d))), (28, .agg (uc (limN 4 dd))), (29, .agg (uc (limN 4 n)))],
      .val (.agg (uc (row4 ra rb rc rd))) [(12, .agg (uc (limN 4 ra))), (18, .agg (uc (limN 4 rb))), (24, .agg (uc (limN 4 rc))), (30, .agg (uc (limN 4 rd)))]] (by kernel_rfl) (by kernel_rfl) rfl ?_ ?_ ?_
  · simp only [List.take_succ_cons, List.take_zero, headObl, specObl, HeadSpec.val, HeadSpec.fresh, and_true]
    refine ⟨?_, ?_, ?_, ?_, ?_, ?_, ?_, ?_, ?_, ?_, ?_, ?_, ?_, ?_, ?_, ?_, ?_, ?_, ?_, ?_, ?_, ?_, ?_, ?_, ?_⟩
    · intro act w hb h
      have e0 := h (3, .pointer (some ⟨B, 0, none⟩)) (by simp)
      simp only [Array.getD_eq_getD_getElem?] at e0
      simp [go_sem, e0, sQuiet]
    · intro act w hb h
      have e0 := h (7, .pointer (some ⟨B, 0, none⟩)) (by simp)
      exact sQuiet_load_in4 (.tmp 7) rfl (B) 0 e0 57 _ _ (0, 0) (blk_below hb (blk_lt HQ.out) HQ.out) (limN_length _ _) (row4_0 _ _ _ _)
    · intro act w hb h
      have e0 := h (4, .pointer (some ⟨B + 1, 0, none⟩)) (by simp)
      simp only [Array.getD_eq_getD_getElem?] at e0
      simp [go_sem, e0, sQuiet]
    · intro act w hb h
      have e0 := h (9, .pointer (some ⟨B + 1, 0, none⟩)) (by simp)
      exact sQuiet_load_in4 (.tmp 9) rfl (B + 1) 0 e0 57 _ _ (0, 0) (blk_below hb (blk_lt HX.out) HX.out) (limN_length _ _) (row4_0 _ _ _ _)
    · intro act w hb h
      have e0 := h (5, .pointer (some ⟨B + 1 + 1, 0, none⟩)) (by simp)
      exact sQuiet_load_row 26 (.tmp 5) rfl (B + 1 + 1) e0 26 _ (0, 0) _ (blk_below hb (blk_lt HC.out) HC.out) Tryd.underlying26 rfl (sizeF' _)
    · intro act w hb h
      have e0 := h (8, .agg (uc (limN 4 a))) (by simp)
      have e1 := h (10, .agg (uc (limN 4 aa))) (by simp)
      have e2 := h (11, .agg (uc (limN 4 n))) (by simp)
      simp only [Array.getD_eq_getD_getElem?] at e0 e1 e2
      simp [go_sem, e0, e1, e2, sQuiet]
      exact C_ra.out w (HP.out.step hb)
    · intro act w hb h
      have e0 := h (3, .pointer (some ⟨B, 0, none⟩)) (by simp)
      simp only [Array.getD_eq_getD_getElem?] at e0
      simp [go_sem, e0, sQuiet]
    · intro act w hb h
      have e0 := h (13, .pointer (some ⟨B, 4, none⟩)) (by simp)
      exact sQuiet_load_in4 (.tmp 13) rfl (B) 4 e0 57 _ _ (0, 0) (blk_below hb (blk_lt HQ.out) HQ.out) (limN_length _ _) (row4_1 _ _ _ _)
    · intro act w hb h
      have e0 := h (4, .pointer (some ⟨B + 1, 0, none⟩)) (by simp)
      simp only [Array.getD_eq_getD_getElem?] at e0
      simp [go_sem, e0, sQuiet]
    · intro act w hb h
      have e0 := h (15, .pointer (some ⟨B + 1, 4, none⟩)) (by simp)
      exact sQuiet_load_in4 (.tmp 15) rfl (B + 1) 4 e0 57 _ _ (0, 0) (blk_below hb (blk_lt HX.out) HX.out) (limN_length _ _) (row4_1 _ _ _ _)
    · intro act w hb h
      have e0 := h (5, .pointer (some ⟨B + 1 + 1, 0, none⟩)) (by simp)
      exact sQuiet_load_row 26 (.tmp 5) rfl (B + 1 + 1) e0 26 _ (0, 0) _ (blk_below hb (blk_lt HC.out) HC.out) Tryd.underlying26 rfl (sizeF' _)
    · intro act w hb h
      have e0 := h (14, .agg (uc (limN 4 b))) (by simp)
      have e1 := h (16, .agg (uc (limN 4 bb))) (by simp)
      have e2 := h (17, .agg (uc (limN 4 n))) (by simp)
      simp only [Array.getD_eq_getD_getElem?] at e0 e1 e2
      simp [go_sem, e0, e1, e2, sQuiet]
      exact C_rb.out w (HP.out.step hb)
    · intro act w hb h
      have e0 := h (3, .pointer (some ⟨B, 0, none⟩)) (by simp)
      simp only [Array.getD_eq_getD_getElem?] at e0
      simp [go_sem, e0, sQuiet]
    · intro act w hb h
      have e0 := h (19, .pointer (some ⟨B, 8, none⟩)) (by simp)
      exact sQuiet_load_in4 (.tmp 19) rfl (B) 8 e0 57 _ _ (0, 0) (blk_below hb (blk_lt HQ.out) HQ.out) (limN_length _ _) (row4_2 _ _ _ _)
    · intro act w hb h
      have e0 := h (4, .pointer (some ⟨B + 1, 0, none⟩)) (by simp)
      simp only [Array.getD_eq_getD_getElem?] at e0
      simp [go_sem, e0, sQuiet]
    · intro act w hb h
      have e0 := h (21, .pointer (some ⟨B + 1, 8, none⟩)) (by simp)
      exact sQuiet_load_in4 (.tmp 21) rfl (B + 1) 8 e0 57 _ _ (0, 0) (blk_below hb (blk_lt HX.out) HX.out) (limN_length _ _) (row4_2 _ _ _ _)
    · intro act w hb h
      have e0 := h (5, .pointer (some ⟨B + 1 + 1, 0, none⟩)) (by simp)
      exact sQuiet_load_row 26 (.tmp 5) rfl (B + 1 + 1) e0 26 _ (0, 0) _ (blk_below hb (blk_lt HC.out) HC.out) Tryd.underlying26 rfl (sizeF' _)
    · intro act w hb h
      have e0 := h (20, .agg (uc (limN 4 c))) (by simp)
      have e1 := h (22, .agg (uc (limN 4 cc))) (by simp)
      have e2 := h (23, .agg (uc (limN 4 n))) (by simp)
      simp only [Array.getD_eq_getD_getElem?] at e0 e1 e2
      simp [go_sem, e0, e1, e2, sQuiet]
      exact C_rc.out w (HP.out.step hb)
    · intro act w hb h
      have e0 := h (3, .pointer (some ⟨B, 0, none⟩)) (by simp)
      simp only [Array.getD_eq_getD_getElem?] at e0
      simp [go_sem, e0, sQuiet]
    · intro act w hb h
      have e0 := h (25, .pointer (some ⟨B, 12, none⟩)) (by simp)
      exact sQuiet_load_in4 (.tmp 25) rfl (B) 12 e0 57 _ _ (0, 0) (blk_below hb (blk_lt HQ.out) HQ.out) (limN_length _ _) (row4_3 _ _ _ _)
    · intro act w hb h
      have e0 := h (4, .pointer (some ⟨B + 1, 0, none⟩)) (by simp)
      simp only [Array.getD_eq_getD_getElem?] at e0
      simp [go_sem, e0, sQuiet]
    · intro act w hb h
      have e0 := h (27, .pointer (some ⟨B + 1, 12, none⟩)) (by simp)
      exact sQuiet_load_in4 (.tmp 27) rfl (B + 1) 12 e0 57 _ _ (0, 0) (blk_below hb (blk_lt HX.out) HX.out) (limN_length _ _) (row4_3 _ _ _ _)
    · intro act w hb h
      have e0 := h (5, .pointer (some ⟨B + 1 + 1, 0, none⟩)) (by simp)
      exact sQuiet_load_row 26 (.tmp 5) rfl (B + 1 + 1) e0 26 _ (0, 0) _ (blk_below hb (blk_lt HC.out) HC.out) Tryd.underlying26 rfl (sizeF' _)
    · intro act w hb h
      have e0 := h (26, .agg (uc (limN 4 d))) (by simp)
      have e1 := h (28, .agg (uc (limN 4 dd))) (by simp)
      have e2 := h (29, .agg (uc (limN 4 n))) (by simp)
      simp only [Array.getD_eq_getD_getElem?] at e0 e1 e2
      simp [go_sem, e0, e1, e2, sQuiet]
      exact C_rd.out w (HP.out.step hb)
    · intro act w hb h
      have e0 := h (12, .agg (uc (limN 4 ra))) (by simp)
      have e1 := h (18, .agg (uc (limN 4 rb))) (by simp)
      have e2 := h (24, .agg (uc (limN 4 rc))) (by simp)
      have e3 := h (30, .agg (uc (limN 4 rd))) (by simp)
      exact sQuiet_build_ns (.tmp 12) (.tmp 18) (.tmp 24) (.tmp 30) rfl _ _ _ _ e0 e1 e2 e3
  · simp [headReads, headPut, specV, HeadSpec.val, HeadSpec.fresh, Act.put]
  · simp only [List.take_succ_cons, List.take_zero, List.drop_succ_cons, List.drop_zero, headEnd, HeadSpec.val, HeadSpec.fresh, Act.put, List.setIfInBounds_toArray, List.set_cons_succ, List.set_cons_zero]
    intro v1 hv1 hgs
    have HN := Lib.hid (blk_below hv1 (blk_lt HR.out) HR.out)
    have HNN := Lib.hid (setRow_heap v1 (B + 1 + 1 + 1) _ (uc (row4 ra rb rc rd)) _ _ HN.out)
    have hb2 : Below B w (v1.setRow (B + 1 + 1 + 1) (uc (row4 ra rb rc rd))) := below_setRow (hb.trans (hv1.mono hB.out)) (by omega) _
    clear hgs hv1 hb
    go_wp2_with (with_reducible refine wpList_store_row rfl 57 _ _ rfl (B + 1 + 1 + 1) (uc (row4 ra rb rc rd)) rfl rfl 57 _ HN.out (sizeNs _ (row4_length _ _ _ _)) (zrow4_size _ (row4_length _ _ _ _)) (uc_one _) ?_)
    exact bodyPost_ret (v := .agg (uc (row4 ra rb rc rd))) (results_cell_row (by rfl) _ _ (B + 1 + 1 + 1) 57 _ (0, 0) _ rfl HNN.out Tryd.underlying57 rfl (sizeNs _ (row4_length _ _ _ _))) rfl ⟨rfl, by rw [HBB.out]; exact hb2⟩
end Go.Proofs.YtcpdehfmlmmgiaaDoor
