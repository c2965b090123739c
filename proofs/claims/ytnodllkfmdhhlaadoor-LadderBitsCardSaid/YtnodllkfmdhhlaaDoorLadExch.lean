/- The program's exchange of a rung's two pairs. -/
import Derived.Test.YtnodllkfmdhhlaaDoorLadRung
namespace Go.Proofs.YtnodllkfmdhhlaaDoor
open Go.RowKit Go.Sort
set_option maxRecDepth 100000
set_option linter.unusedSimpArgs false
set_option linter.unusedVariables false

set_option maxHeartbeats 4000000 in
theorem exch_any (a b c d n t ac u bd ra rb rc rd : Nat) (w : World) (l_a : a < pF) (l_b : b < pF) (l_c : c < pF) (l_d : d < pF) (l_n : n < pF) (hT : PrmQ w)
    (e_t : subF c a = t) (e_ac : mulF n t = ac) (e_u : subF d b = u) (e_bd : mulF n u = bd) (e_ra : addF a ac = ra) (e_rb : addF b bd = rb) (e_rc : subF c ac = rc) (e_rd : subF d bd = rd) :
    Calls Tryd.prog 26 #[.agg (uc (rl a b c d)), .agg (uc (limN 4 n))] w fun e w' => e = .returned (.agg (uc (rl ra rb rc rd))) ∧ Below w.heap.size w w' := by
  have l_t : t < pF := e_t ▸ subF_lt _ _
  have l_ac : ac < pF := e_ac ▸ mulF_lt _ _
  have l_u : u < pF := e_u ▸ subF_lt _ _
  have l_bd : bd < pF := e_bd ▸ mulF_lt _ _
  have l_ra : ra < pF := e_ra ▸ addF_lt _ _
  have l_rb : rb < pF := e_rb ▸ addF_lt _ _
  have l_rc : rc < pF := e_rc ▸ subF_lt _ _
  have l_rd : rd < pF := e_rd ▸ subF_lt _ _
  have C_t := Lib.hid (fun (W : World) (hW : PrmQ W) => subF_any c a W l_c l_a hW)
  rw [e_t] at C_t
  have C_ac := Lib.hid (fun (W : World) (hW : PrmQ W) => mulF_any n t W l_n l_t)
  rw [e_ac] at C_ac
  have C_u := Lib.hid (fun (W : World) (hW : PrmQ W) => subF_any d b W l_d l_b hW)
  rw [e_u] at C_u
  have C_bd := Lib.hid (fun (W : World) (hW : PrmQ W) => mulF_any n u W l_n l_u)
  rw [e_bd] at C_bd
  have C_ra := Lib.hid (fun (W : World) (hW : PrmQ W) => addF_any a ac W l_a l_ac)
  rw [e_ra] at C_ra
  have C_rb := Lib.hid (fun (W : World) (hW : PrmQ W) => addF_any b bd W l_b l_bd)
  rw [e_rb] at C_rb
  have C_rc := Lib.hid (fun (W : World) (hW : PrmQ W) => subF_any c ac W l_c l_ac hW)
  rw [e_rc] at C_rc
  have C_rd := Lib.hid (fun (W : World) (hW : PrmQ W) => subF_any d bd W l_d l_bd hW)
  rw [e_rd] at C_rd
  have I_t := Lib.hid (sizeF' t); have Z_t := Lib.hid (zerosF_size t); have O_t := Lib.hid (uc_one (limN 4 t))
  have I_ac := Lib.hid (sizeF' ac); have Z_ac := Lib.hid (zerosF_size ac); have O_ac := Lib.hid (uc_one (limN 4 ac))
  have I_u := Lib.hid (sizeF' u); have Z_u := Lib.hid (zerosF_size u); have O_u := Lib.hid (uc_one (limN 4 u))
  have I_bd := Lib.hid (sizeF' bd); have Z_bd := Lib.hid (zerosF_size bd); have O_bd := Lib.hid (uc_one (limN 4 bd))
  have I_ra := Lib.hid (sizeF' ra); have Z_ra := Lib.hid (zerosF_size ra); have O_ra := Lib.hid (uc_one (limN 4 ra))
  have I_rb := Lib.hid (sizeF' rb); have Z_rb := Lib.hid (zerosF_size rb); have O_rb := Lib.hid (uc_one (limN 4 rb))
  have I_rc := Lib.hid (sizeF' rc); have Z_rc := Lib.hid (zerosF_size rc); have O_rc := Lib.hid (uc_one (limN 4 rc))
  have I_rd := Lib.hid (sizeF' rd); have Z_rd := Lib.hid (zerosF_size rd); have O_rd := Lib.hid (uc_one (limN 4 rd))
  have I_a := Lib.hid (sizeF' a)
  have I_b := Lib.hid (sizeF' b)
  have I_c := Lib.hid (sizeF' c)
  have I_d := Lib.hid (sizeF' d)
  have I_n := Lib.hid (sizeF' n)
  clear e_t l_t e_ac l_ac e_u l_u e_bd l_bd e_ra l_ra e_rb l_rb e_rc l_rc e_rd l_rd l_a l_b l_c l_d l_n
  obtain ⟨hz, hi⟩ := zero_of_info infoF
  obtain ⟨hzr, hir⟩ := zero_of_info infoR
  have hTl := hT.lt
  have hb := below_new3 w (.cells (uc (rl a b c d)) 53) (.cells (uc (limN 4 n)) 36) (.cells zeros16 53)
  have HP := Lib.hid (hT.step hb)
  have HQ := Lib.hid (blk_old (o := .cells zeros16 53) (blk_old (o := .cells (uc (limN 4 n)) 36) (blk_new w (.cells (uc (rl a b c d)) 53))))
  have HX := Lib.hid (blk_old (o := .cells zeros16 53) (blk_new2 w (.cells (uc (rl a b c d)) 53) (.cells (uc (limN 4 n)) 36)))
  have HR := Lib.hid (blk_new3 w (.cells (uc (rl a b c d)) 53) (.cells (uc (limN 4 n)) 36) (.cells zeros16 53))
  clear hi hir hT hTl
  go_enter Tryd.func26, Tryd.ntmps26
  go_upto_region 1 with fail
  clear hzr
  generalize (((w.alloc _).alloc _).alloc _) = W0 at *
  have hB := Lib.hid hb.size
  generalize hBB : w.heap.size = B at *
  have HBB := Lib.hid hBB
  clear hBB
  refine wp_region_fresh 16 38 [.val (.agg (uc (limN 4 n))) [(3, .pointer (some ⟨B + 1, 0, none⟩))], .val (.pointer (some ⟨B, 8, none⟩)) [(2, .pointer (some ⟨B, 0, none⟩))], .val (.agg (uc (limN 4 c))) [(8, .pointer (some ⟨B, 8, none⟩))], .val (.pointer (some ⟨B, 0, none⟩)) [(2, .pointer (some ⟨B, 0, none⟩))], .val (.agg (uc (limN 4 a))) [(10, .pointer (some ⟨B, 0, none⟩))], .val (.agg (uc (limN 4 t))) [(9, .agg (uc (limN 4 c))), (11, .agg (uc (limN 4 a)))], .val (.agg (uc (limN 4 ac))) [(7, .agg (uc (limN 4 n))), (12, .agg (uc (limN 4 t)))], .val (.agg (uc (limN 4 n))) [(3, .pointer (some ⟨B + 1, 0, none⟩))], .val (.pointer (some ⟨B, 12, none⟩)) [(2, .pointer (some ⟨B, 0, none⟩))], .val (.agg (uc (limN 4 d))) [(15, .pointer (some ⟨B, 12, none⟩))], .val (.pointer (some ⟨B, 4, none⟩)) [(2, .pointer (some ⟨B, 0, none⟩))], .val (.agg (uc (limN 4 b))) [(17, .pointer (some ⟨B, 4, none⟩))], .val (.agg (uc (limN 4 u))) [(16, .agg (uc (limN 4 d))), (18, .agg (uc (limN 4 b)))], .val (.agg (uc (limN 4 bd))) [(14, .agg (uc (limN 4 n))), (19, .agg (uc (limN 4 u)))], .fresh (.cells zeros4 36), .fresh (.cells zeros4 36)] (by kernel_rfl) (by kernel_rfl) rfl ?_ ?_ ?_
  · simp only [List.take_succ_cons, List.take_zero, headObl, specObl, HeadSpec.val, HeadSpec.fresh, and_true]
    refine ⟨?_, ?_, ?_, ?_, ?_, ?_, ?_, ?_, ?_, ?_, ?_, ?_, ?_, ?_, ?_, ?_⟩
    · intro act w hb h
      have e0 := h (3, .pointer (some ⟨B + 1, 0, none⟩)) (by simp)
      exact sQuiet_load_row 36 (.tmp 3) rfl (B + 1) e0 36 _ (0, 0) _ (blk_below hb (blk_lt HX.out) HX.out) Tryd.underlying36 rfl I_n.out
    · intro act w hb h
      have e0 := h (2, .pointer (some ⟨B, 0, none⟩)) (by simp)
      simp only [Array.getD_eq_getD_getElem?] at e0
      simp [go_sem, e0, sQuiet]
    · intro act w hb h
      have e0 := h (8, .pointer (some ⟨B, 8, none⟩)) (by simp)
      exact sQuiet_load_num (.tmp 8) rfl (B) 8 e0 53 _ _ (0, 0) (blk_below hb (blk_lt HQ.out) HQ.out) (limN_length _ _) (rl_2 _ _ _ _)
    · intro act w hb h
      have e0 := h (2, .pointer (some ⟨B, 0, none⟩)) (by simp)
      simp only [Array.getD_eq_getD_getElem?] at e0
      simp [go_sem, e0, sQuiet]
    · intro act w hb h
      have e0 := h (10, .pointer (some ⟨B, 0, none⟩)) (by simp)
      exact sQuiet_load_num (.tmp 10) rfl (B) 0 e0 53 _ _ (0, 0) (blk_below hb (blk_lt HQ.out) HQ.out) (limN_length _ _) (rl_0 _ _ _ _)
    · intro act w hb h
      have e0 := h (9, .agg (uc (limN 4 c))) (by simp)
      have e1 := h (11, .agg (uc (limN 4 a))) (by simp)
      simp only [Array.getD_eq_getD_getElem?] at e0 e1
      simp [go_sem, e0, e1, sQuiet]
      exact C_t.out w (HP.out.step hb)
    · intro act w hb h
      have e0 := h (7, .agg (uc (limN 4 n))) (by simp)
      have e1 := h (12, .agg (uc (limN 4 t))) (by simp)
      simp only [Array.getD_eq_getD_getElem?] at e0 e1
      simp [go_sem, e0, e1, sQuiet]
      exact C_ac.out w (HP.out.step hb)
    · intro act w hb h
      have e0 := h (3, .pointer (some ⟨B + 1, 0, none⟩)) (by simp)
      exact sQuiet_load_row 36 (.tmp 3) rfl (B + 1) e0 36 _ (0, 0) _ (blk_below hb (blk_lt HX.out) HX.out) Tryd.underlying36 rfl I_n.out
    · intro act w hb h
      have e0 := h (2, .pointer (some ⟨B, 0, none⟩)) (by simp)
      simp only [Array.getD_eq_getD_getElem?] at e0
      simp [go_sem, e0, sQuiet]
    · intro act w hb h
      have e0 := h (15, .pointer (some ⟨B, 12, none⟩)) (by simp)
      exact sQuiet_load_num (.tmp 15) rfl (B) 12 e0 53 _ _ (0, 0) (blk_below hb (blk_lt HQ.out) HQ.out) (limN_length _ _) (rl_3 _ _ _ _)
    · intro act w hb h
      have e0 := h (2, .pointer (some ⟨B, 0, none⟩)) (by simp)
      simp only [Array.getD_eq_getD_getElem?] at e0
      simp [go_sem, e0, sQuiet]
    · intro act w hb h
      have e0 := h (17, .pointer (some ⟨B, 4, none⟩)) (by simp)
      exact sQuiet_load_num (.tmp 17) rfl (B) 4 e0 53 _ _ (0, 0) (blk_below hb (blk_lt HQ.out) HQ.out) (limN_length _ _) (rl_1 _ _ _ _)
    · intro act w hb h
      have e0 := h (16, .agg (uc (limN 4 d))) (by simp)
      have e1 := h (18, .agg (uc (limN 4 b))) (by simp)
      simp only [Array.getD_eq_getD_getElem?] at e0 e1
      simp [go_sem, e0, e1, sQuiet]
      exact C_u.out w (HP.out.step hb)
    · intro act w hb h
      have e0 := h (14, .agg (uc (limN 4 n))) (by simp)
      have e1 := h (19, .agg (uc (limN 4 u))) (by simp)
      simp only [Array.getD_eq_getD_getElem?] at e0 e1
      simp [go_sem, e0, e1, sQuiet]
      exact C_bd.out w (HP.out.step hb)
    · intro act w hb
      simp [go_sem, hz]
    · intro act w hb
      simp [go_sem, hz]
  · simp [headReads, headPut, specV, HeadSpec.val, HeadSpec.fresh, Act.put]
  · simp only [List.take_succ_cons, List.take_zero, List.drop_succ_cons, List.drop_zero, headEnd, HeadSpec.val, HeadSpec.fresh, Act.put, List.setIfInBounds_toArray, List.set_cons_succ, List.set_cons_zero]
    intro g5 hg5 _ g6 hg6 hne v1 hv1 hgs
    have hne' : g5 ≠ g6 := hne (g5, .cells zeros4 36) (by simp)
    have N_g5 := Lib.hid (show v1.heap[g5]? = some (.cells zeros4 36) from hgs (g5, .cells zeros4 36) (by simp))
    have N_g6 := Lib.hid (show v1.heap[g6]? = some (.cells zeros4 36) from hgs (g6, .cells zeros4 36) (by simp))
    have N2 := Lib.hid (show (v1.setRow g5 (uc (limN 4 ac))).heap[g6]? = some (.cells zeros4 36) from by rw [setRow_other _ _ _ _ (Ne.symm hne')]; exact N_g6.out)
    have k_g6 := Lib.hid (setRow_heap (v1.setRow g5 (uc (limN 4 ac))) g6 _ (uc (limN 4 bd)) _ _ N2.out)
    have k_g5 := Lib.hid (show ((v1.setRow g5 (uc (limN 4 ac))).setRow g6 (uc (limN 4 bd))).heap[g5]? = some (.cells (uc (limN 4 ac)) 36) from by rw [setRow_other _ _ _ _ hne']; exact setRow_heap v1 g5 _ (uc (limN 4 ac)) _ _ N_g5.out)
    have hk : Below W0.heap.size W0 ((v1.setRow g5 (uc (limN 4 ac))).setRow g6 (uc (limN 4 bd))) := below_setRow (below_setRow hv1 hg5 _) hg6 _
    have hb1 : Below B w ((v1.setRow g5 (uc (limN 4 ac))).setRow g6 (uc (limN 4 bd))) := hb.trans (hk.mono hB.out)
    have hP1 := Lib.hid (HP.out.step hk)
    have kHQ := Lib.hid (blk_below hk (blk_lt HQ.out) HQ.out)
    have kHX := Lib.hid (blk_below hk (blk_lt HX.out) HX.out)
    have kHR := Lib.hid (blk_below hk (blk_lt HR.out) HR.out)
    have hB1 := Lib.hid (Nat.le_trans hB.out hk.size)
    have b_g5 := Lib.hid (Nat.le_trans hB.out hg5)
    have b_g6 := Lib.hid (Nat.le_trans hB.out hg6)
    clear HQ HX HR hv1 hgs hb HP hB hk hne hne' hg5 hg6
    go_wp2_with (first | (with_reducible refine wpList_store_row rfl 36 _ _ rfl g5 (uc (limN 4 ac)) rfl rfl 36 _ N_g5.out I_ac.out Z_ac.out O_ac.out ?_) | (with_reducible refine wpList_store_row rfl 36 _ _ rfl g6 (uc (limN 4 bd)) rfl rfl 36 _ N2.out I_bd.out Z_bd.out O_bd.out ?_))
    generalize (World.setRow (World.setRow _ _ _) _ _) = W1 at *
    clear N_g5 N_g6 N2
    have HQ := kHQ
    have HX := kHX
    have HR := kHR
    have H_g5 := k_g5
    have H_g6 := k_g6
    have hb := hb1; have HP := hP1; have hB := hB1
    clear hb1 hP1 hB1 kHQ kHX kHR k_g5 k_g6
    try simp only [Act.put]
    refine wp_region_fresh 17 38 [.val (.pointer (some ⟨B, 0, none⟩)) [(2, .pointer (some ⟨B, 0, none⟩))], .val (.agg (uc (limN 4 a))) [(21, .pointer (some ⟨B, 0, none⟩))], .val (.agg (uc (limN 4 ac))) [(5, .pointer (some ⟨g5, 0, none⟩))], .val (.agg (uc (limN 4 ra))) [(22, .agg (uc (limN 4 a))), (23, .agg (uc (limN 4 ac)))], .val (.pointer (some ⟨B, 4, none⟩)) [(2, .pointer (some ⟨B, 0, none⟩))], .val (.agg (uc (limN 4 b))) [(25, .pointer (some ⟨B, 4, none⟩))], .val (.agg (uc (limN 4 bd))) [(6, .pointer (some ⟨g6, 0, none⟩))], .val (.agg (uc (limN 4 rb))) [(26, .agg (uc (limN 4 b))), (27, .agg (uc (limN 4 bd)))], .val (.pointer (some ⟨B, 8, none⟩)) [(2, .pointer (some ⟨B, 0, none⟩))], .val (.agg (uc (limN 4 c))) [(29, .pointer (some ⟨B, 8, none⟩))], .val (.agg (uc (limN 4 ac))) [(5, .pointer (some ⟨g5, 0, none⟩))], .val (.agg (uc (limN 4 rc))) [(30, .agg (uc (limN 4 c))), (31, .agg (uc (limN 4 ac)))], .val (.pointer (some ⟨B, 12, none⟩)) [(2, .pointer (some ⟨B, 0, none⟩))], .val (.agg (uc (limN 4 d))) [(33, .pointer (some ⟨B, 12, none⟩))], .val (.agg (uc (limN 4 bd))) [(6, .pointer (some ⟨g6, 0, none⟩))], .val (.agg (uc (limN 4 rd))) [(34, .agg (uc (limN 4 d))), (35, .agg (uc (limN 4 bd)))], .val (.agg (uc (rl ra rb rc rd))) [(24, .agg (uc (limN 4 ra))), (28, .agg (uc (limN 4 rb))), (32, .agg (uc (limN 4 rc))), (36, .agg (uc (limN 4 rd)))]] (by kernel_rfl) (by kernel_rfl) rfl ?_ ?_ ?_
    · simp only [List.take_succ_cons, List.take_zero, headObl, specObl, HeadSpec.val, HeadSpec.fresh, and_true]
      refine ⟨?_, ?_, ?_, ?_, ?_, ?_, ?_, ?_, ?_, ?_, ?_, ?_, ?_, ?_, ?_, ?_, ?_⟩
      · intro act w hb h
        have e0 := h (2, .pointer (some ⟨B, 0, none⟩)) (by simp)
        simp only [Array.getD_eq_getD_getElem?] at e0
        simp [go_sem, e0, sQuiet]
      · intro act w hb h
        have e0 := h (21, .pointer (some ⟨B, 0, none⟩)) (by simp)
        exact sQuiet_load_num (.tmp 21) rfl (B) 0 e0 53 _ _ (0, 0) (blk_below hb (blk_lt HQ.out) HQ.out) (limN_length _ _) (rl_0 _ _ _ _)
      · intro act w hb h
        have e0 := h (5, .pointer (some ⟨g5, 0, none⟩)) (by simp)
        exact sQuiet_load_row 36 (.tmp 5) rfl (g5) e0 36 _ (0, 0) _ (blk_below hb (blk_lt H_g5.out) H_g5.out) Tryd.underlying36 rfl I_ac.out
      · intro act w hb h
        have e0 := h (22, .agg (uc (limN 4 a))) (by simp)
        have e1 := h (23, .agg (uc (limN 4 ac))) (by simp)
        simp only [Array.getD_eq_getD_getElem?] at e0 e1
        simp [go_sem, e0, e1, sQuiet]
        exact C_ra.out w (HP.out.step hb)
      · intro act w hb h
        have e0 := h (2, .pointer (some ⟨B, 0, none⟩)) (by simp)
        simp only [Array.getD_eq_getD_getElem?] at e0
        simp [go_sem, e0, sQuiet]
      · intro act w hb h
        have e0 := h (25, .pointer (some ⟨B, 4, none⟩)) (by simp)
        exact sQuiet_load_num (.tmp 25) rfl (B) 4 e0 53 _ _ (0, 0) (blk_below hb (blk_lt HQ.out) HQ.out) (limN_length _ _) (rl_1 _ _ _ _)
      · intro act w hb h
        have e0 := h (6, .pointer (some ⟨g6, 0, none⟩)) (by simp)
        exact sQuiet_load_row 36 (.tmp 6) rfl (g6) e0 36 _ (0, 0) _ (blk_below hb (blk_lt H_g6.out) H_g6.out) Tryd.underlying36 rfl I_bd.out
      · intro act w hb h
        have e0 := h (26, .agg (uc (limN 4 b))) (by simp)
        have e1 := h (27, .agg (uc (limN 4 bd))) (by simp)
        simp only [Array.getD_eq_getD_getElem?] at e0 e1
        simp [go_sem, e0, e1, sQuiet]
        exact C_rb.out w (HP.out.step hb)
      · intro act w hb h
        have e0 := h (2, .pointer (some ⟨B, 0, none⟩)) (by simp)
        simp only [Array.getD_eq_getD_getElem?] at e0
        simp [go_sem, e0, sQuiet]
      · intro act w hb h
        have e0 := h (29, .pointer (some ⟨B, 8, none⟩)) (by simp)
        exact sQuiet_load_num (.tmp 29) rfl (B) 8 e0 53 _ _ (0, 0) (blk_below hb (blk_lt HQ.out) HQ.out) (limN_length _ _) (rl_2 _ _ _ _)
      · intro act w hb h
        have e0 := h (5, .pointer (some ⟨g5, 0, none⟩)) (by simp)
        exact sQuiet_load_row 36 (.tmp 5) rfl (g5) e0 36 _ (0, 0) _ (blk_below hb (blk_lt H_g5.out) H_g5.out) Tryd.underlying36 rfl I_ac.out
      · intro act w hb h
        have e0 := h (30, .agg (uc (limN 4 c))) (by simp)
        have e1 := h (31, .agg (uc (limN 4 ac))) (by simp)
        simp only [Array.getD_eq_getD_getElem?] at e0 e1
        simp [go_sem, e0, e1, sQuiet]
        exact C_rc.out w (HP.out.step hb)
      · intro act w hb h
        have e0 := h (2, .pointer (some ⟨B, 0, none⟩)) (by simp)
        simp only [Array.getD_eq_getD_getElem?] at e0
        simp [go_sem, e0, sQuiet]
      · intro act w hb h
        have e0 := h (33, .pointer (some ⟨B, 12, none⟩)) (by simp)
        exact sQuiet_load_num (.tmp 33) rfl (B) 12 e0 53 _ _ (0, 0) (blk_below hb (blk_lt HQ.out) HQ.out) (limN_length _ _) (rl_3 _ _ _ _)
      · intro act w hb h
        have e0 := h (6, .pointer (some ⟨g6, 0, none⟩)) (by simp)
        exact sQuiet_load_row 36 (.tmp 6) rfl (g6) e0 36 _ (0, 0) _ (blk_below hb (blk_lt H_g6.out) H_g6.out) Tryd.underlying36 rfl I_bd.out
      · intro act w hb h
        have e0 := h (34, .agg (uc (limN 4 d))) (by simp)
        have e1 := h (35, .agg (uc (limN 4 bd))) (by simp)
        simp only [Array.getD_eq_getD_getElem?] at e0 e1
        simp [go_sem, e0, e1, sQuiet]
        exact C_rd.out w (HP.out.step hb)
      · intro act w hb h
        have e0 := h (24, .agg (uc (limN 4 ra))) (by simp)
        have e1 := h (28, .agg (uc (limN 4 rb))) (by simp)
        have e2 := h (32, .agg (uc (limN 4 rc))) (by simp)
        have e3 := h (36, .agg (uc (limN 4 rd))) (by simp)
        exact sQuiet_build_rung (.tmp 24) (.tmp 28) (.tmp 32) (.tmp 36) rfl _ _ _ _ e0 e1 e2 e3
    · simp [headReads, headPut, specV, HeadSpec.val, HeadSpec.fresh, Act.put]
    · simp only [List.take_succ_cons, List.take_zero, List.drop_succ_cons, List.drop_zero, headEnd, HeadSpec.val, HeadSpec.fresh, Act.put, List.setIfInBounds_toArray, List.set_cons_succ, List.set_cons_zero]
      intro v1 hv1 hgs
      have HN := Lib.hid (blk_below hv1 (blk_lt HR.out) HR.out)
      have HNN := Lib.hid (setRow_heap v1 (B + 1 + 1) _ (uc (rl ra rb rc rd)) _ _ HN.out)
      have hb2 : Below B w (v1.setRow (B + 1 + 1) (uc (rl ra rb rc rd))) := below_setRow (hb.trans (hv1.mono hB.out)) (by omega) _
      clear hgs hv1 hb
      go_wp2_with (with_reducible refine wpList_store_row rfl 53 _ _ rfl (B + 1 + 1) (uc (rl ra rb rc rd)) rfl rfl 53 _ HN.out (sizeR _ _ _ _) (zerosR_size _ _ _ _) (uc_one _) ?_)
      exact bodyPost_ret (v := .agg (uc (rl ra rb rc rd))) (results_cell_row (by rfl) _ _ (B + 1 + 1) 53 _ (0, 0) _ rfl HNN.out Tryd.underlying53 rfl (sizeR _ _ _ _)) rfl ⟨rfl, by rw [HBB.out]; exact hb2⟩
end Go.Proofs.YtnodllkfmdhhlaaDoor
