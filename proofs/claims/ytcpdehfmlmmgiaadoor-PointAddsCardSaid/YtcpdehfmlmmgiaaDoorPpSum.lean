/- The program's d, and the sum of two points' numbers. -/
import Derived.Test.YtcpdehfmlmmgiaaDoorPpRow
namespace Go.Proofs.YtcpdehfmlmmgiaaDoor
open Go.RowKit Go.Sort
set_option maxRecDepth 100000
set_option linter.unusedSimpArgs false
set_option linter.unusedVariables false

def facT : ByteArray := ⟨#[163, 120, 89, 19, 202, 77, 235, 117, 171, 216, 65, 65, 77, 10, 112, 0, 152, 232, 121, 119, 121, 64, 199, 140, 115, 254, 111, 43, 238, 108, 3, 82]⟩
theorem facT_val : leV facT.data.toList 32 % pF = facF := by rw [fac_val]; decide +kernel
set_option maxHeartbeats 2000000 in
theorem coef_any (w : World) (hT : PrmQ w) :
    Calls Tryd.prog 51 #[] w fun e w' => e = .returned (.agg (uc (limN 4 facF))) ∧ Below w.heap.size w w' := by
  have CO := Lib.hid (fun W => of_any facT W rfl)
  rw [facT_val] at CO
  generalize hfd : facF = d at *
  have HFD := Lib.hid hfd
  clear hfd
  unfold facT at CO
  obtain ⟨hz, hi⟩ := zero_of_info infoF
  obtain ⟨hzn, hin⟩ := zero_of_info infoNs
  obtain ⟨hzp, hip⟩ := zero_of_info infoPt
  have hb := below_new w (.cells zeros4 26)
  have HP := Lib.hid (hT.step hb)
  have HR := Lib.hid (blk_new w (.cells zeros4 26))
  clear hi hin hip hT
  go_enter Tryd.func51, Tryd.ntmps51
  go_wp2_with fail
  try clear hzn
  try clear hzp
  generalize (w.alloc _) = W0 at *
  have hB := Lib.hid hb.size
  generalize hBB : w.heap.size = B at *
  have HBB := Lib.hid hBB
  clear hBB
  refine (CO.out W0).mono ?_
  rintro e W1 ⟨rfl, bk⟩
  replace hb := hb.trans (bk.mono hB.out)
  replace HP := Lib.hid (HP.out.step bk)
  replace hB := Lib.hid (Nat.le_trans hB.out bk.size)
  replace HR := Lib.hid (blk_below bk (blk_lt HR.out) HR.out)
  clear bk
  have HN := Lib.hid (blk_new W1 (.cells zeros4 26))
  have hr := blk_lt HR.out
  have q1 := Lib.hid (setRow_heap _ W1.heap.size _ (uc (limN 4 d)) _ _ HN.out)
  have HR2 : Hid (((W1.alloc (.cells zeros4 26)).setRow W1.heap.size (uc (limN 4 d))).heap[B]? = some (.cells zeros4 26)) := Lib.hid (by rw [setRow_other _ _ _ _ (by omega)]; exact blk_old HR.out)
  have hb4 : Below B w ((W1.alloc (.cells zeros4 26)).setRow W1.heap.size (uc (limN 4 d))) := below_setRow (hb.alloc (by omega) _) (by omega) _
  clear CO HR hb
  go_wp2_with (first
    | (with_reducible refine wpList_store_row rfl 26 _ _ rfl W1.heap.size (uc (limN 4 d)) rfl rfl 26 _ HN.out (sizeF' _) (zerosF_size _) (uc_one _) ?_)
    | (with_reducible refine wpList_load_row rfl 26 _ rfl (W1.heap.size) rfl 26 _ (0, 0) _ q1.out Tryd.underlying26 rfl (sizeF' _) ?_)
    | (with_reducible refine wpList_store_row rfl 26 _ _ rfl B (uc (limN 4 d)) rfl rfl 26 _ HR2.out (sizeF' _) (zerosF_size _) (uc_one _) ?_))
  exact bodyPost_ret (v := .agg (uc (limN 4 d))) (results_cell_row (by rfl) _ _ B 26 _ (0, 0) _ rfl (setRow_heap _ _ _ _ _ _ HR2.out) Tryd.underlying26 rfl (sizeF' _)) rfl ⟨rfl, by rw [HBB.out]; exact below_setRow hb4 (Nat.le_refl _) _⟩
set_option maxHeartbeats 8000000 in
theorem sumL_any (a b c d aa bb cc dd fd s1 s2 na p1 p2 nb k c1 nc m1 nm ne nf ng nh nx ny nz nt : Nat) (w : World) (l_a : a < pF) (l_b : b < pF) (l_c : c < pF) (l_d : d < pF) (l_aa : aa < pF) (l_bb : bb < pF) (l_cc : cc < pF) (l_dd : dd < pF) (hfd : facF = fd) (hT : PrmQ w)
    (e_s1 : subF b a = s1) (e_s2 : subF bb aa = s2) (e_na : mulF s1 s2 = na) (e_p1 : addF b a = p1) (e_p2 : addF bb aa = p2) (e_nb : mulF p1 p2 = nb) (e_k : addF fd fd = k) (e_c1 : mulF d k = c1) (e_nc : mulF c1 dd = nc) (e_m1 : addF c c = m1) (e_nm : mulF m1 cc = nm) (e_ne : subF nb na = ne) (e_nf : subF nm nc = nf) (e_ng : addF nm nc = ng) (e_nh : addF nb na = nh) (e_nx : mulF ne nf = nx) (e_ny : mulF ng nh = ny) (e_nz : mulF nf ng = nz) (e_nt : mulF ne nh = nt) :
    Calls Tryd.prog 46 #[.agg (uc (row4 a b c d)), .agg (uc (row4 aa bb cc dd))] w fun e w' => e = .returned (.agg (uc (row4 nx ny nz nt))) ∧ Below w.heap.size w w' := by
  have C_fd := Lib.hid (fun (W : World) (hW : PrmQ W) => coef_any W hW)
  have l_fd : fd < pF := hfd ▸ facF_lt
  rw [hfd] at C_fd
  have l_s1 : s1 < pF := e_s1 ▸ subF_lt _ _
  have l_s2 : s2 < pF := e_s2 ▸ subF_lt _ _
  have l_na : na < pF := e_na ▸ mulF_lt _ _
  have l_p1 : p1 < pF := e_p1 ▸ addF_lt _ _
  have l_p2 : p2 < pF := e_p2 ▸ addF_lt _ _
  have l_nb : nb < pF := e_nb ▸ mulF_lt _ _
  have l_k : k < pF := e_k ▸ addF_lt _ _
  have l_c1 : c1 < pF := e_c1 ▸ mulF_lt _ _
  have l_nc : nc < pF := e_nc ▸ mulF_lt _ _
  have l_m1 : m1 < pF := e_m1 ▸ addF_lt _ _
  have l_nm : nm < pF := e_nm ▸ mulF_lt _ _
  have l_ne : ne < pF := e_ne ▸ subF_lt _ _
  have l_nf : nf < pF := e_nf ▸ subF_lt _ _
  have l_ng : ng < pF := e_ng ▸ addF_lt _ _
  have l_nh : nh < pF := e_nh ▸ addF_lt _ _
  have l_nx : nx < pF := e_nx ▸ mulF_lt _ _
  have l_ny : ny < pF := e_ny ▸ mulF_lt _ _
  have l_nz : nz < pF := e_nz ▸ mulF_lt _ _
  have l_nt : nt < pF := e_nt ▸ mulF_lt _ _
  have C_s1 := Lib.hid (fun (W : World) (hW : PrmQ W) => subF_any b a W l_b l_a hW)
  rw [e_s1] at C_s1
  have C_s2 := Lib.hid (fun (W : World) (hW : PrmQ W) => subF_any bb aa W l_bb l_aa hW)
  rw [e_s2] at C_s2
  have C_na := Lib.hid (fun (W : World) (hW : PrmQ W) => mulF_any s1 s2 W l_s1 l_s2)
  rw [e_na] at C_na
  have C_p1 := Lib.hid (fun (W : World) (hW : PrmQ W) => addF_any b a W l_b l_a)
  rw [e_p1] at C_p1
  have C_p2 := Lib.hid (fun (W : World) (hW : PrmQ W) => addF_any bb aa W l_bb l_aa)
  rw [e_p2] at C_p2
  have C_nb := Lib.hid (fun (W : World) (hW : PrmQ W) => mulF_any p1 p2 W l_p1 l_p2)
  rw [e_nb] at C_nb
  have C_k := Lib.hid (fun (W : World) (hW : PrmQ W) => addF_any fd fd W l_fd l_fd)
  rw [e_k] at C_k
  have C_c1 := Lib.hid (fun (W : World) (hW : PrmQ W) => mulF_any d k W l_d l_k)
  rw [e_c1] at C_c1
  have C_nc := Lib.hid (fun (W : World) (hW : PrmQ W) => mulF_any c1 dd W l_c1 l_dd)
  rw [e_nc] at C_nc
  have C_m1 := Lib.hid (fun (W : World) (hW : PrmQ W) => addF_any c c W l_c l_c)
  rw [e_m1] at C_m1
  have C_nm := Lib.hid (fun (W : World) (hW : PrmQ W) => mulF_any m1 cc W l_m1 l_cc)
  rw [e_nm] at C_nm
  have C_ne := Lib.hid (fun (W : World) (hW : PrmQ W) => subF_any nb na W l_nb l_na hW)
  rw [e_ne] at C_ne
  have C_nf := Lib.hid (fun (W : World) (hW : PrmQ W) => subF_any nm nc W l_nm l_nc hW)
  rw [e_nf] at C_nf
  have C_ng := Lib.hid (fun (W : World) (hW : PrmQ W) => addF_any nm nc W l_nm l_nc)
  rw [e_ng] at C_ng
  have C_nh := Lib.hid (fun (W : World) (hW : PrmQ W) => addF_any nb na W l_nb l_na)
  rw [e_nh] at C_nh
  have C_nx := Lib.hid (fun (W : World) (hW : PrmQ W) => mulF_any ne nf W l_ne l_nf)
  rw [e_nx] at C_nx
  have C_ny := Lib.hid (fun (W : World) (hW : PrmQ W) => mulF_any ng nh W l_ng l_nh)
  rw [e_ny] at C_ny
  have C_nz := Lib.hid (fun (W : World) (hW : PrmQ W) => mulF_any nf ng W l_nf l_ng)
  rw [e_nz] at C_nz
  have C_nt := Lib.hid (fun (W : World) (hW : PrmQ W) => mulF_any ne nh W l_ne l_nh)
  rw [e_nt] at C_nt
  clear e_s1 l_s1 e_s2 l_s2 e_na l_na e_p1 l_p1 e_p2 l_p2 e_nb l_nb e_k l_k e_c1 l_c1 e_nc l_nc e_m1 l_m1 e_nm l_nm e_ne l_ne e_nf l_nf e_ng l_ng e_nh l_nh e_nx l_nx e_ny l_ny e_nz l_nz e_nt l_nt l_a l_b l_c l_d l_aa l_bb l_cc l_dd l_fd
  clear hfd
  obtain ⟨hz, hi⟩ := zero_of_info infoF
  obtain ⟨hzn, hin⟩ := zero_of_info infoNs
  obtain ⟨hzp, hip⟩ := zero_of_info infoPt
  have hb := below_new3 w (.cells (uc (row4 a b c d)) 57) (.cells (uc (row4 aa bb cc dd)) 57) (.cells zrow4 57)
  have HP := Lib.hid (hT.step hb)
  have HQ := Lib.hid (blk_old (o := .cells zrow4 57) (blk_old (o := .cells (uc (row4 aa bb cc dd)) 57) (blk_new w (.cells (uc (row4 a b c d)) 57))))
  have HX := Lib.hid (blk_old (o := .cells zrow4 57) (blk_new2 w (.cells (uc (row4 a b c d)) 57) (.cells (uc (row4 aa bb cc dd)) 57)))
  have HR := Lib.hid (blk_new3 w (.cells (uc (row4 a b c d)) 57) (.cells (uc (row4 aa bb cc dd)) 57) (.cells zrow4 57))
  clear hi hin hip hT
  go_enter Tryd.func46, Tryd.ntmps46
  go_upto_region 1 with fail
  try clear hzn
  try clear hzp
  generalize (((w.alloc _).alloc _).alloc _) = W0 at *
  have hB := Lib.hid hb.size
  generalize hBB : w.heap.size = B at *
  have HBB := Lib.hid hBB
  clear hBB
  refine wp_region_fresh 12 81 [.val (.pointer (some ⟨B, 4, none⟩)) [(2, .pointer (some ⟨B, 0, none⟩))],
      .val (.agg (uc (limN 4 b))) [(15, .pointer (some ⟨B, 4, none⟩))],
      .val (.pointer (some ⟨B, 0, none⟩)) [(2, .pointer (some ⟨B, 0, none⟩))],
      .val (.agg (uc (limN 4 a))) [(17, .pointer (some ⟨B, 0, none⟩))],
      .val (.agg (uc (limN 4 s1))) [(16, .agg (uc (limN 4 b))), (18, .agg (uc (limN 4 a)))],
      .val (.pointer (some ⟨B + 1, 4, none⟩)) [(3, .pointer (some ⟨B + 1, 0, none⟩))],
      .val (.agg (uc (limN 4 bb))) [(20, .pointer (some ⟨B + 1, 4, none⟩))],
      .val (.pointer (some ⟨B + 1, 0, none⟩)) [(3, .pointer (some ⟨B + 1, 0, none⟩))],
      .val (.agg (uc (limN 4 aa))) [(22, .pointer (some ⟨B + 1, 0, none⟩))],
      .val (.agg (uc (limN 4 s2))) [(21, .agg (uc (limN 4 bb))), (23, .agg (uc (limN 4 aa)))],
      .val (.agg (uc (limN 4 na))) [(19, .agg (uc (limN 4 s1))), (24, .agg (uc (limN 4 s2)))],
      .fresh (.cells zeros4 26)] (by kernel_rfl) (by kernel_rfl) rfl ?_ ?_ ?_
  · simp only [List.take_succ_cons, List.take_zero, headObl, specObl, HeadSpec.val, HeadSpec.fresh, and_true]
    refine ⟨?_, ?_, ?_, ?_, ?_, ?_, ?_, ?_, ?_, ?_, ?_, ?_⟩
    · intro act w hb h
      have e0 := h (2, .pointer (some ⟨B, 0, none⟩)) (by simp)
      simp only [Array.getD_eq_getD_getElem?] at e0
      simp [go_sem, e0, sQuiet]
    · intro act w hb h
      have e0 := h (15, .pointer (some ⟨B, 4, none⟩)) (by simp)
      exact sQuiet_load_in4 (.tmp 15) rfl (B) 4 e0 57 _ _ (0, 0) (blk_below hb (blk_lt HQ.out) HQ.out) (limN_length _ _) (row4_1 _ _ _ _)
    · intro act w hb h
      have e0 := h (2, .pointer (some ⟨B, 0, none⟩)) (by simp)
      simp only [Array.getD_eq_getD_getElem?] at e0
      simp [go_sem, e0, sQuiet]
    · intro act w hb h
      have e0 := h (17, .pointer (some ⟨B, 0, none⟩)) (by simp)
      exact sQuiet_load_in4 (.tmp 17) rfl (B) 0 e0 57 _ _ (0, 0) (blk_below hb (blk_lt HQ.out) HQ.out) (limN_length _ _) (row4_0 _ _ _ _)
    · intro act w hb h
      have e0 := h (16, .agg (uc (limN 4 b))) (by simp)
      have e1 := h (18, .agg (uc (limN 4 a))) (by simp)
      simp only [Array.getD_eq_getD_getElem?] at e0 e1
      simp [go_sem, e0, e1, sQuiet]
      exact C_s1.out w (HP.out.step hb)
    · intro act w hb h
      have e0 := h (3, .pointer (some ⟨B + 1, 0, none⟩)) (by simp)
      simp only [Array.getD_eq_getD_getElem?] at e0
      simp [go_sem, e0, sQuiet]
    · intro act w hb h
      have e0 := h (20, .pointer (some ⟨B + 1, 4, none⟩)) (by simp)
      exact sQuiet_load_in4 (.tmp 20) rfl (B + 1) 4 e0 57 _ _ (0, 0) (blk_below hb (blk_lt HX.out) HX.out) (limN_length _ _) (row4_1 _ _ _ _)
    · intro act w hb h
      have e0 := h (3, .pointer (some ⟨B + 1, 0, none⟩)) (by simp)
      simp only [Array.getD_eq_getD_getElem?] at e0
      simp [go_sem, e0, sQuiet]
    · intro act w hb h
      have e0 := h (22, .pointer (some ⟨B + 1, 0, none⟩)) (by simp)
      exact sQuiet_load_in4 (.tmp 22) rfl (B + 1) 0 e0 57 _ _ (0, 0) (blk_below hb (blk_lt HX.out) HX.out) (limN_length _ _) (row4_0 _ _ _ _)
    · intro act w hb h
      have e0 := h (21, .agg (uc (limN 4 bb))) (by simp)
      have e1 := h (23, .agg (uc (limN 4 aa))) (by simp)
      simp only [Array.getD_eq_getD_getElem?] at e0 e1
      simp [go_sem, e0, e1, sQuiet]
      exact C_s2.out w (HP.out.step hb)
    · intro act w hb h
      have e0 := h (19, .agg (uc (limN 4 s1))) (by simp)
      have e1 := h (24, .agg (uc (limN 4 s2))) (by simp)
      simp only [Array.getD_eq_getD_getElem?] at e0 e1
      simp [go_sem, e0, e1, sQuiet]
      exact C_na.out w (HP.out.step hb)
    · intro act w hb
      simp [go_sem, hz]
  · simp [headReads, headPut, specV, HeadSpec.val, HeadSpec.fresh, Act.put]
  · simp only [List.take_succ_cons, List.take_zero, List.drop_succ_cons, List.drop_zero, headEnd, HeadSpec.val, HeadSpec.fresh, Act.put, List.setIfInBounds_toArray, List.set_cons_succ, List.set_cons_zero]
    intro g5 hg5 _ v1 hv1 hgs
    have N_g5 := Lib.hid (show v1.heap[g5]? = some (.cells zeros4 26) from hgs (g5, .cells zeros4 26) (by simp))
    have hk : Below W0.heap.size W0 (v1.setRow g5 (uc (limN 4 na))) := below_setRow hv1 hg5 (uc (limN 4 na))
    have k_g5 := Lib.hid (show (v1.setRow g5 (uc (limN 4 na))).heap[g5]? = some (.cells (uc (limN 4 na)) 26) from by exact setRow_heap _ g5 _ (uc (limN 4 na)) _ _ N_g5.out)
    have hb1 := hb.trans (hk.mono hB.out)
    have hP1 := Lib.hid (HP.out.step hk)
    have kHQ := Lib.hid (blk_below hk (blk_lt HQ.out) HQ.out)
    have kHX := Lib.hid (blk_below hk (blk_lt HX.out) HX.out)
    have kHR := Lib.hid (blk_below hk (blk_lt HR.out) HR.out)
    have hB1 := Lib.hid (Nat.le_trans hB.out hk.size)
    have b_g5 := Lib.hid (Nat.le_trans hB.out hg5)
    clear HQ HX HR hv1 hgs hb HP hB hk hg5  
    go_wp2_with (first | (with_reducible refine wpList_store_row rfl 26 _ _ rfl g5 (uc (limN 4 na)) rfl rfl 26 _ N_g5.out (sizeF' _) (zerosF_size _) (uc_one _) ?_))
    generalize (World.setRow _ _ _) = W1 at *
    clear N_g5
    have HQ := kHQ
    have HX := kHX
    have HR := kHR
    have H_g5 := k_g5
    have hb := hb1; have HP := hP1; have hB := hB1
    clear hb1 hP1 hB1 kHQ kHX kHR k_g5
    try simp only [Act.put]
    refine wp_region_fresh 12 81 [.val (.pointer (some ⟨B, 4, none⟩)) [(2, .pointer (some ⟨B, 0, none⟩))],
      .val (.agg (uc (limN 4 b))) [(26, .pointer (some ⟨B, 4, none⟩))],
      .val (.pointer (some ⟨B, 0, none⟩)) [(2, .pointer (some ⟨B, 0, none⟩))],
      .val (.agg (uc (limN 4 a))) [(28, .pointer (some ⟨B, 0, none⟩))],
      .val (.agg (uc (limN 4 p1))) [(27, .agg (uc (limN 4 b))), (29, .agg (uc (limN 4 a)))],
      .val (.pointer (some ⟨B + 1, 4, none⟩)) [(3, .pointer (some ⟨B + 1, 0, none⟩))],
      .val (.agg (uc (limN 4 bb))) [(31, .pointer (some ⟨B + 1, 4, none⟩))],
      .val (.pointer (some ⟨B + 1, 0, none⟩)) [(3, .pointer (some ⟨B + 1, 0, none⟩))],
      .val (.agg (uc (limN 4 aa))) [(33, .pointer (some ⟨B + 1, 0, none⟩))],
      .val (.agg (uc (limN 4 p2))) [(32, .agg (uc (limN 4 bb))), (34, .agg (uc (limN 4 aa)))],
      .val (.agg (uc (limN 4 nb))) [(30, .agg (uc (limN 4 p1))), (35, .agg (uc (limN 4 p2)))],
      .fresh (.cells zeros4 26)] (by kernel_rfl) (by kernel_rfl) rfl ?_ ?_ ?_
    · simp only [List.take_succ_cons, List.take_zero, headObl, specObl, HeadSpec.val, HeadSpec.fresh, and_true]
      refine ⟨?_, ?_, ?_, ?_, ?_, ?_, ?_, ?_, ?_, ?_, ?_, ?_⟩
      · intro act w hb h
        have e0 := h (2, .pointer (some ⟨B, 0, none⟩)) (by simp)
        simp only [Array.getD_eq_getD_getElem?] at e0
        simp [go_sem, e0, sQuiet]
      · intro act w hb h
        have e0 := h (26, .pointer (some ⟨B, 4, none⟩)) (by simp)
        exact sQuiet_load_in4 (.tmp 26) rfl (B) 4 e0 57 _ _ (0, 0) (blk_below hb (blk_lt HQ.out) HQ.out) (limN_length _ _) (row4_1 _ _ _ _)
      · intro act w hb h
        have e0 := h (2, .pointer (some ⟨B, 0, none⟩)) (by simp)
        simp only [Array.getD_eq_getD_getElem?] at e0
        simp [go_sem, e0, sQuiet]
      · intro act w hb h
        have e0 := h (28, .pointer (some ⟨B, 0, none⟩)) (by simp)
        exact sQuiet_load_in4 (.tmp 28) rfl (B) 0 e0 57 _ _ (0, 0) (blk_below hb (blk_lt HQ.out) HQ.out) (limN_length _ _) (row4_0 _ _ _ _)
      · intro act w hb h
        have e0 := h (27, .agg (uc (limN 4 b))) (by simp)
        have e1 := h (29, .agg (uc (limN 4 a))) (by simp)
        simp only [Array.getD_eq_getD_getElem?] at e0 e1
        simp [go_sem, e0, e1, sQuiet]
        exact C_p1.out w (HP.out.step hb)
      · intro act w hb h
        have e0 := h (3, .pointer (some ⟨B + 1, 0, none⟩)) (by simp)
        simp only [Array.getD_eq_getD_getElem?] at e0
        simp [go_sem, e0, sQuiet]
      · intro act w hb h
        have e0 := h (31, .pointer (some ⟨B + 1, 4, none⟩)) (by simp)
        exact sQuiet_load_in4 (.tmp 31) rfl (B + 1) 4 e0 57 _ _ (0, 0) (blk_below hb (blk_lt HX.out) HX.out) (limN_length _ _) (row4_1 _ _ _ _)
      · intro act w hb h
        have e0 := h (3, .pointer (some ⟨B + 1, 0, none⟩)) (by simp)
        simp only [Array.getD_eq_getD_getElem?] at e0
        simp [go_sem, e0, sQuiet]
      · intro act w hb h
        have e0 := h (33, .pointer (some ⟨B + 1, 0, none⟩)) (by simp)
        exact sQuiet_load_in4 (.tmp 33) rfl (B + 1) 0 e0 57 _ _ (0, 0) (blk_below hb (blk_lt HX.out) HX.out) (limN_length _ _) (row4_0 _ _ _ _)
      · intro act w hb h
        have e0 := h (32, .agg (uc (limN 4 bb))) (by simp)
        have e1 := h (34, .agg (uc (limN 4 aa))) (by simp)
        simp only [Array.getD_eq_getD_getElem?] at e0 e1
        simp [go_sem, e0, e1, sQuiet]
        exact C_p2.out w (HP.out.step hb)
      · intro act w hb h
        have e0 := h (30, .agg (uc (limN 4 p1))) (by simp)
        have e1 := h (35, .agg (uc (limN 4 p2))) (by simp)
        simp only [Array.getD_eq_getD_getElem?] at e0 e1
        simp [go_sem, e0, e1, sQuiet]
        exact C_nb.out w (HP.out.step hb)
      · intro act w hb
        simp [go_sem, hz]
    · simp [headReads, headPut, specV, HeadSpec.val, HeadSpec.fresh, Act.put]
    · simp only [List.take_succ_cons, List.take_zero, List.drop_succ_cons, List.drop_zero, headEnd, HeadSpec.val, HeadSpec.fresh, Act.put, List.setIfInBounds_toArray, List.set_cons_succ, List.set_cons_zero]
      intro g6 hg6 _ v1 hv1 hgs
      have N_g6 := Lib.hid (show v1.heap[g6]? = some (.cells zeros4 26) from hgs (g6, .cells zeros4 26) (by simp))
      have hk : Below W1.heap.size W1 (v1.setRow g6 (uc (limN 4 nb))) := below_setRow hv1 hg6 (uc (limN 4 nb))
      have k_g6 := Lib.hid (show (v1.setRow g6 (uc (limN 4 nb))).heap[g6]? = some (.cells (uc (limN 4 nb)) 26) from by exact setRow_heap _ g6 _ (uc (limN 4 nb)) _ _ N_g6.out)
      have hb1 := hb.trans (hk.mono hB.out)
      have hP1 := Lib.hid (HP.out.step hk)
      have kHQ := Lib.hid (blk_below hk (blk_lt HQ.out) HQ.out)
      have kHX := Lib.hid (blk_below hk (blk_lt HX.out) HX.out)
      have kHR := Lib.hid (blk_below hk (blk_lt HR.out) HR.out)
      have kH_g5 := Lib.hid (blk_below hk (blk_lt H_g5.out) H_g5.out)
      have hB1 := Lib.hid (Nat.le_trans hB.out hk.size)
      have b_g6 := Lib.hid (Nat.le_trans hB.out hg6)
      clear HQ HX HR H_g5 hv1 hgs hb HP hB hk hg6  
      go_wp2_with (first | (with_reducible refine wpList_store_row rfl 26 _ _ rfl g6 (uc (limN 4 nb)) rfl rfl 26 _ N_g6.out (sizeF' _) (zerosF_size _) (uc_one _) ?_))
      generalize (World.setRow _ _ _) = W2 at *
      clear N_g6
      have HQ := kHQ
      have HX := kHX
      have HR := kHR
      have H_g5 := kH_g5
      have H_g6 := k_g6
      have hb := hb1; have HP := hP1; have hB := hB1
      clear hb1 hP1 hB1 kHQ kHX kHR kH_g5 k_g6
      try simp only [Act.put]
      refine (C_fd.out W2 HP.out).mono ?_
      rintro e W3 ⟨rfl, bk⟩
      replace hb := hb.trans (bk.mono hB.out)
      replace HP := Lib.hid (HP.out.step bk)
      replace hB := Lib.hid (Nat.le_trans hB.out bk.size)
      replace HQ := Lib.hid (blk_below bk (blk_lt HQ.out) HQ.out)
      replace HX := Lib.hid (blk_below bk (blk_lt HX.out) HX.out)
      replace HR := Lib.hid (blk_below bk (blk_lt HR.out) HR.out)
      replace H_g5 := Lib.hid (blk_below bk (blk_lt H_g5.out) H_g5.out)
      replace H_g6 := Lib.hid (blk_below bk (blk_lt H_g6.out) H_g6.out)
      clear bk
      have HN := Lib.hid (blk_new W3 (.cells zeros4 26))
      have bn := below_new W3 (.cells zeros4 26)
      have q_g7 := Lib.hid (setRow_heap _ W3.heap.size _ (uc (limN 4 fd)) _ _ HN.out)
      go_wp2_with (first | (with_reducible refine wpList_store_row rfl 26 _ _ rfl W3.heap.size (uc (limN 4 fd)) rfl rfl 26 _ HN.out (sizeF' _) (zerosF_size _) (uc_one _) ?_) | (with_reducible refine wpList_load_row rfl 26 _ rfl (W3.heap.size) rfl 26 _ (0, 0) _ q_g7.out Tryd.underlying26 rfl (sizeF' _) ?_))
      have bk := below_setRow bn (Nat.le_refl _) (uc (limN 4 fd))
      have b_g7 := Lib.hid hB.out
      replace hb := hb.trans (bk.mono hB.out)
      replace HP := Lib.hid (HP.out.step bk)
      replace hB := Lib.hid (Nat.le_trans hB.out bk.size)
      replace HQ := Lib.hid (blk_below bk (blk_lt HQ.out) HQ.out)
      replace HX := Lib.hid (blk_below bk (blk_lt HX.out) HX.out)
      replace HR := Lib.hid (blk_below bk (blk_lt HR.out) HR.out)
      replace H_g5 := Lib.hid (blk_below bk (blk_lt H_g5.out) H_g5.out)
      replace H_g6 := Lib.hid (blk_below bk (blk_lt H_g6.out) H_g6.out)
      clear bk
      have H_g7 := q_g7
      generalize (World.setRow (World.alloc _ _) _ _) = W4 at *
      generalize W3.heap.size = g7 at *
      clear bn HN q_g7
      try simp only [Act.put]
      refine (C_k.out W4 HP.out).mono ?_
      rintro e W5 ⟨rfl, bk⟩
      replace hb := hb.trans (bk.mono hB.out)
      replace HP := Lib.hid (HP.out.step bk)
      replace hB := Lib.hid (Nat.le_trans hB.out bk.size)
      replace HQ := Lib.hid (blk_below bk (blk_lt HQ.out) HQ.out)
      replace HX := Lib.hid (blk_below bk (blk_lt HX.out) HX.out)
      replace HR := Lib.hid (blk_below bk (blk_lt HR.out) HR.out)
      replace H_g5 := Lib.hid (blk_below bk (blk_lt H_g5.out) H_g5.out)
      replace H_g6 := Lib.hid (blk_below bk (blk_lt H_g6.out) H_g6.out)
      replace H_g7 := Lib.hid (blk_below bk (blk_lt H_g7.out) H_g7.out)
      clear bk
      have HN := Lib.hid (blk_new W5 (.cells zeros4 26))
      have bn := below_new W5 (.cells zeros4 26)
      have q_g8 := Lib.hid (setRow_heap _ W5.heap.size _ (uc (limN 4 k)) _ _ HN.out)
      go_wp2_with (first | (with_reducible refine wpList_store_row rfl 26 _ _ rfl W5.heap.size (uc (limN 4 k)) rfl rfl 26 _ HN.out (sizeF' _) (zerosF_size _) (uc_one _) ?_))
      have bk := below_setRow bn (Nat.le_refl _) (uc (limN 4 k))
      have b_g8 := Lib.hid hB.out
      replace hb := hb.trans (bk.mono hB.out)
      replace HP := Lib.hid (HP.out.step bk)
      replace hB := Lib.hid (Nat.le_trans hB.out bk.size)
      replace HQ := Lib.hid (blk_below bk (blk_lt HQ.out) HQ.out)
      replace HX := Lib.hid (blk_below bk (blk_lt HX.out) HX.out)
      replace HR := Lib.hid (blk_below bk (blk_lt HR.out) HR.out)
      replace H_g5 := Lib.hid (blk_below bk (blk_lt H_g5.out) H_g5.out)
      replace H_g6 := Lib.hid (blk_below bk (blk_lt H_g6.out) H_g6.out)
      replace H_g7 := Lib.hid (blk_below bk (blk_lt H_g7.out) H_g7.out)
      clear bk
      have H_g8 := q_g8
      generalize (World.setRow (World.alloc _ _) _ _) = W6 at *
      generalize W5.heap.size = g8 at *
      clear bn HN q_g8
      try simp only [Act.put]
      refine wp_region_fresh 8 81 [.val (.pointer (some ⟨B, 12, none⟩)) [(2, .pointer (some ⟨B, 0, none⟩))],
      .val (.agg (uc (limN 4 d))) [(41, .pointer (some ⟨B, 12, none⟩))],
      .val (.agg (uc (limN 4 k))) [(8, .pointer (some ⟨g8, 0, none⟩))],
      .val (.agg (uc (limN 4 c1))) [(42, .agg (uc (limN 4 d))), (43, .agg (uc (limN 4 k)))],
      .val (.pointer (some ⟨B + 1, 12, none⟩)) [(3, .pointer (some ⟨B + 1, 0, none⟩))],
      .val (.agg (uc (limN 4 dd))) [(45, .pointer (some ⟨B + 1, 12, none⟩))],
      .val (.agg (uc (limN 4 nc))) [(44, .agg (uc (limN 4 c1))), (46, .agg (uc (limN 4 dd)))],
      .fresh (.cells zeros4 26)] (by kernel_rfl) (by kernel_rfl) rfl ?_ ?_ ?_
      · simp only [List.take_succ_cons, List.take_zero, headObl, specObl, HeadSpec.val, HeadSpec.fresh, and_true]
        refine ⟨?_, ?_, ?_, ?_, ?_, ?_, ?_, ?_⟩
        · intro act w hb h
          have e0 := h (2, .pointer (some ⟨B, 0, none⟩)) (by simp)
          simp only [Array.getD_eq_getD_getElem?] at e0
          simp [go_sem, e0, sQuiet]
        · intro act w hb h
          have e0 := h (41, .pointer (some ⟨B, 12, none⟩)) (by simp)
          exact sQuiet_load_in4 (.tmp 41) rfl (B) 12 e0 57 _ _ (0, 0) (blk_below hb (blk_lt HQ.out) HQ.out) (limN_length _ _) (row4_3 _ _ _ _)
        · intro act w hb h
          have e0 := h (8, .pointer (some ⟨g8, 0, none⟩)) (by simp)
          exact sQuiet_load_row 26 (.tmp 8) rfl (g8) e0 26 _ (0, 0) _ (blk_below hb (blk_lt H_g8.out) H_g8.out) Tryd.underlying26 rfl (sizeF' _)
        · intro act w hb h
          have e0 := h (42, .agg (uc (limN 4 d))) (by simp)
          have e1 := h (43, .agg (uc (limN 4 k))) (by simp)
          simp only [Array.getD_eq_getD_getElem?] at e0 e1
          simp [go_sem, e0, e1, sQuiet]
          exact C_c1.out w (HP.out.step hb)
        · intro act w hb h
          have e0 := h (3, .pointer (some ⟨B + 1, 0, none⟩)) (by simp)
          simp only [Array.getD_eq_getD_getElem?] at e0
          simp [go_sem, e0, sQuiet]
        · intro act w hb h
          have e0 := h (45, .pointer (some ⟨B + 1, 12, none⟩)) (by simp)
          exact sQuiet_load_in4 (.tmp 45) rfl (B + 1) 12 e0 57 _ _ (0, 0) (blk_below hb (blk_lt HX.out) HX.out) (limN_length _ _) (row4_3 _ _ _ _)
        · intro act w hb h
          have e0 := h (44, .agg (uc (limN 4 c1))) (by simp)
          have e1 := h (46, .agg (uc (limN 4 dd))) (by simp)
          simp only [Array.getD_eq_getD_getElem?] at e0 e1
          simp [go_sem, e0, e1, sQuiet]
          exact C_nc.out w (HP.out.step hb)
        · intro act w hb
          simp [go_sem, hz]
      · simp [headReads, headPut, specV, HeadSpec.val, HeadSpec.fresh, Act.put]
      · simp only [List.take_succ_cons, List.take_zero, List.drop_succ_cons, List.drop_zero, headEnd, HeadSpec.val, HeadSpec.fresh, Act.put, List.setIfInBounds_toArray, List.set_cons_succ, List.set_cons_zero]
        intro g9 hg9 _ v1 hv1 hgs
        have N_g9 := Lib.hid (show v1.heap[g9]? = some (.cells zeros4 26) from hgs (g9, .cells zeros4 26) (by simp))
        have hk : Below W6.heap.size W6 (v1.setRow g9 (uc (limN 4 nc))) := below_setRow hv1 hg9 (uc (limN 4 nc))
        have k_g9 := Lib.hid (show (v1.setRow g9 (uc (limN 4 nc))).heap[g9]? = some (.cells (uc (limN 4 nc)) 26) from by exact setRow_heap _ g9 _ (uc (limN 4 nc)) _ _ N_g9.out)
        have hb1 := hb.trans (hk.mono hB.out)
        have hP1 := Lib.hid (HP.out.step hk)
        have kHQ := Lib.hid (blk_below hk (blk_lt HQ.out) HQ.out)
        have kHX := Lib.hid (blk_below hk (blk_lt HX.out) HX.out)
        have kHR := Lib.hid (blk_below hk (blk_lt HR.out) HR.out)
        have kH_g5 := Lib.hid (blk_below hk (blk_lt H_g5.out) H_g5.out)
        have kH_g6 := Lib.hid (blk_below hk (blk_lt H_g6.out) H_g6.out)
        have kH_g7 := Lib.hid (blk_below hk (blk_lt H_g7.out) H_g7.out)
        have kH_g8 := Lib.hid (blk_below hk (blk_lt H_g8.out) H_g8.out)
        have hB1 := Lib.hid (Nat.le_trans hB.out hk.size)
        have b_g9 := Lib.hid (Nat.le_trans hB.out hg9)
        clear HQ HX HR H_g5 H_g6 H_g7 H_g8 hv1 hgs hb HP hB hk hg9  
        go_wp2_with (first | (with_reducible refine wpList_store_row rfl 26 _ _ rfl g9 (uc (limN 4 nc)) rfl rfl 26 _ N_g9.out (sizeF' _) (zerosF_size _) (uc_one _) ?_))
        generalize (World.setRow _ _ _) = W7 at *
        clear N_g9
        have HQ := kHQ
        have HX := kHX
        have HR := kHR
        have H_g5 := kH_g5
        have H_g6 := kH_g6
        have H_g7 := kH_g7
        have H_g8 := kH_g8
        have H_g9 := k_g9
        have hb := hb1; have HP := hP1; have hB := hB1
        clear hb1 hP1 hB1 kHQ kHX kHR kH_g5 kH_g6 kH_g7 kH_g8 k_g9
        try simp only [Act.put]
        refine wp_region_fresh 9 81 [.val (.pointer (some ⟨B, 8, none⟩)) [(2, .pointer (some ⟨B, 0, none⟩))],
      .val (.agg (uc (limN 4 c))) [(48, .pointer (some ⟨B, 8, none⟩))],
      .val (.pointer (some ⟨B, 8, none⟩)) [(2, .pointer (some ⟨B, 0, none⟩))],
      .val (.agg (uc (limN 4 c))) [(50, .pointer (some ⟨B, 8, none⟩))],
      .val (.agg (uc (limN 4 m1))) [(49, .agg (uc (limN 4 c))), (51, .agg (uc (limN 4 c)))],
      .val (.pointer (some ⟨B + 1, 8, none⟩)) [(3, .pointer (some ⟨B + 1, 0, none⟩))],
      .val (.agg (uc (limN 4 cc))) [(53, .pointer (some ⟨B + 1, 8, none⟩))],
      .val (.agg (uc (limN 4 nm))) [(52, .agg (uc (limN 4 m1))), (54, .agg (uc (limN 4 cc)))],
      .fresh (.cells zeros4 26)] (by kernel_rfl) (by kernel_rfl) rfl ?_ ?_ ?_
        · simp only [List.take_succ_cons, List.take_zero, headObl, specObl, HeadSpec.val, HeadSpec.fresh, and_true]
          refine ⟨?_, ?_, ?_, ?_, ?_, ?_, ?_, ?_, ?_⟩
          · intro act w hb h
            have e0 := h (2, .pointer (some ⟨B, 0, none⟩)) (by simp)
            simp only [Array.getD_eq_getD_getElem?] at e0
            simp [go_sem, e0, sQuiet]
          · intro act w hb h
            have e0 := h (48, .pointer (some ⟨B, 8, none⟩)) (by simp)
            exact sQuiet_load_in4 (.tmp 48) rfl (B) 8 e0 57 _ _ (0, 0) (blk_below hb (blk_lt HQ.out) HQ.out) (limN_length _ _) (row4_2 _ _ _ _)
          · intro act w hb h
            have e0 := h (2, .pointer (some ⟨B, 0, none⟩)) (by simp)
            simp only [Array.getD_eq_getD_getElem?] at e0
            simp [go_sem, e0, sQuiet]
          · intro act w hb h
            have e0 := h (50, .pointer (some ⟨B, 8, none⟩)) (by simp)
            exact sQuiet_load_in4 (.tmp 50) rfl (B) 8 e0 57 _ _ (0, 0) (blk_below hb (blk_lt HQ.out) HQ.out) (limN_length _ _) (row4_2 _ _ _ _)
          · intro act w hb h
            have e0 := h (49, .agg (uc (limN 4 c))) (by simp)
            have e1 := h (51, .agg (uc (limN 4 c))) (by simp)
            simp only [Array.getD_eq_getD_getElem?] at e0 e1
            simp [go_sem, e0, e1, sQuiet]
            exact C_m1.out w (HP.out.step hb)
          · intro act w hb h
            have e0 := h (3, .pointer (some ⟨B + 1, 0, none⟩)) (by simp)
            simp only [Array.getD_eq_getD_getElem?] at e0
            simp [go_sem, e0, sQuiet]
          · intro act w hb h
            have e0 := h (53, .pointer (some ⟨B + 1, 8, none⟩)) (by simp)
            exact sQuiet_load_in4 (.tmp 53) rfl (B + 1) 8 e0 57 _ _ (0, 0) (blk_below hb (blk_lt HX.out) HX.out) (limN_length _ _) (row4_2 _ _ _ _)
          · intro act w hb h
            have e0 := h (52, .agg (uc (limN 4 m1))) (by simp)
            have e1 := h (54, .agg (uc (limN 4 cc))) (by simp)
            simp only [Array.getD_eq_getD_getElem?] at e0 e1
            simp [go_sem, e0, e1, sQuiet]
            exact C_nm.out w (HP.out.step hb)
          · intro act w hb
            simp [go_sem, hz]
        · simp [headReads, headPut, specV, HeadSpec.val, HeadSpec.fresh, Act.put]
        · simp only [List.take_succ_cons, List.take_zero, List.drop_succ_cons, List.drop_zero, headEnd, HeadSpec.val, HeadSpec.fresh, Act.put, List.setIfInBounds_toArray, List.set_cons_succ, List.set_cons_zero]
          intro g10 hg10 _ v1 hv1 hgs
          have N_g10 := Lib.hid (show v1.heap[g10]? = some (.cells zeros4 26) from hgs (g10, .cells zeros4 26) (by simp))
          have hk : Below W7.heap.size W7 (v1.setRow g10 (uc (limN 4 nm))) := below_setRow hv1 hg10 (uc (limN 4 nm))
          have k_g10 := Lib.hid (show (v1.setRow g10 (uc (limN 4 nm))).heap[g10]? = some (.cells (uc (limN 4 nm)) 26) from by exact setRow_heap _ g10 _ (uc (limN 4 nm)) _ _ N_g10.out)
          have hb1 := hb.trans (hk.mono hB.out)
          have hP1 := Lib.hid (HP.out.step hk)
          have kHQ := Lib.hid (blk_below hk (blk_lt HQ.out) HQ.out)
          have kHX := Lib.hid (blk_below hk (blk_lt HX.out) HX.out)
          have kHR := Lib.hid (blk_below hk (blk_lt HR.out) HR.out)
          have kH_g5 := Lib.hid (blk_below hk (blk_lt H_g5.out) H_g5.out)
          have kH_g6 := Lib.hid (blk_below hk (blk_lt H_g6.out) H_g6.out)
          have kH_g7 := Lib.hid (blk_below hk (blk_lt H_g7.out) H_g7.out)
          have kH_g8 := Lib.hid (blk_below hk (blk_lt H_g8.out) H_g8.out)
          have kH_g9 := Lib.hid (blk_below hk (blk_lt H_g9.out) H_g9.out)
          have hB1 := Lib.hid (Nat.le_trans hB.out hk.size)
          have b_g10 := Lib.hid (Nat.le_trans hB.out hg10)
          clear HQ HX HR H_g5 H_g6 H_g7 H_g8 H_g9 hv1 hgs hb HP hB hk hg10  
          go_wp2_with (first | (with_reducible refine wpList_store_row rfl 26 _ _ rfl g10 (uc (limN 4 nm)) rfl rfl 26 _ N_g10.out (sizeF' _) (zerosF_size _) (uc_one _) ?_))
          generalize (World.setRow _ _ _) = W8 at *
          clear N_g10
          have HQ := kHQ
          have HX := kHX
          have HR := kHR
          have H_g5 := kH_g5
          have H_g6 := kH_g6
          have H_g7 := kH_g7
          have H_g8 := kH_g8
          have H_g9 := kH_g9
          have H_g10 := k_g10
          have hb := hb1; have HP := hP1; have hB := hB1
          clear hb1 hP1 hB1 kHQ kHX kHR kH_g5 kH_g6 kH_g7 kH_g8 kH_g9 k_g10
          try simp only [Act.put]
          refine wp_region_fresh 16 81 [.val (.agg (uc (limN 4 nb))) [(6, .pointer (some ⟨g6, 0, none⟩))],
      .val (.agg (uc (limN 4 na))) [(5, .pointer (some ⟨g5, 0, none⟩))],
      .val (.agg (uc (limN 4 ne))) [(56, .agg (uc (limN 4 nb))), (57, .agg (uc (limN 4 na)))],
      .val (.agg (uc (limN 4 nm))) [(10, .pointer (some ⟨g10, 0, none⟩))],
      .val (.agg (uc (limN 4 nc))) [(9, .pointer (some ⟨g9, 0, none⟩))],
      .val (.agg (uc (limN 4 nf))) [(59, .agg (uc (limN 4 nm))), (60, .agg (uc (limN 4 nc)))],
      .val (.agg (uc (limN 4 nm))) [(10, .pointer (some ⟨g10, 0, none⟩))],
      .val (.agg (uc (limN 4 nc))) [(9, .pointer (some ⟨g9, 0, none⟩))],
      .val (.agg (uc (limN 4 ng))) [(62, .agg (uc (limN 4 nm))), (63, .agg (uc (limN 4 nc)))],
      .val (.agg (uc (limN 4 nb))) [(6, .pointer (some ⟨g6, 0, none⟩))],
      .val (.agg (uc (limN 4 na))) [(5, .pointer (some ⟨g5, 0, none⟩))],
      .val (.agg (uc (limN 4 nh))) [(65, .agg (uc (limN 4 nb))), (66, .agg (uc (limN 4 na)))],
      .fresh (.cells zeros4 26),
      .fresh (.cells zeros4 26),
      .fresh (.cells zeros4 26),
      .fresh (.cells zeros4 26)] (by kernel_rfl) (by kernel_rfl) rfl ?_ ?_ ?_
          · simp only [List.take_succ_cons, List.take_zero, headObl, specObl, HeadSpec.val, HeadSpec.fresh, and_true]
            refine ⟨?_, ?_, ?_, ?_, ?_, ?_, ?_, ?_, ?_, ?_, ?_, ?_, ?_, ?_, ?_, ?_⟩
            · intro act w hb h
              have e0 := h (6, .pointer (some ⟨g6, 0, none⟩)) (by simp)
              exact sQuiet_load_row 26 (.tmp 6) rfl (g6) e0 26 _ (0, 0) _ (blk_below hb (blk_lt H_g6.out) H_g6.out) Tryd.underlying26 rfl (sizeF' _)
            · intro act w hb h
              have e0 := h (5, .pointer (some ⟨g5, 0, none⟩)) (by simp)
              exact sQuiet_load_row 26 (.tmp 5) rfl (g5) e0 26 _ (0, 0) _ (blk_below hb (blk_lt H_g5.out) H_g5.out) Tryd.underlying26 rfl (sizeF' _)
            · intro act w hb h
              have e0 := h (56, .agg (uc (limN 4 nb))) (by simp)
              have e1 := h (57, .agg (uc (limN 4 na))) (by simp)
              simp only [Array.getD_eq_getD_getElem?] at e0 e1
              simp [go_sem, e0, e1, sQuiet]
              exact C_ne.out w (HP.out.step hb)
            · intro act w hb h
              have e0 := h (10, .pointer (some ⟨g10, 0, none⟩)) (by simp)
              exact sQuiet_load_row 26 (.tmp 10) rfl (g10) e0 26 _ (0, 0) _ (blk_below hb (blk_lt H_g10.out) H_g10.out) Tryd.underlying26 rfl (sizeF' _)
            · intro act w hb h
              have e0 := h (9, .pointer (some ⟨g9, 0, none⟩)) (by simp)
              exact sQuiet_load_row 26 (.tmp 9) rfl (g9) e0 26 _ (0, 0) _ (blk_below hb (blk_lt H_g9.out) H_g9.out) Tryd.underlying26 rfl (sizeF' _)
            · intro act w hb h
              have e0 := h (59, .agg (uc (limN 4 nm))) (by simp)
              have e1 := h (60, .agg (uc (limN 4 nc))) (by simp)
              simp only [Array.getD_eq_getD_getElem?] at e0 e1
              simp [go_sem, e0, e1, sQuiet]
              exact C_nf.out w (HP.out.step hb)
            · intro act w hb h
              have e0 := h (10, .pointer (some ⟨g10, 0, none⟩)) (by simp)
              exact sQuiet_load_row 26 (.tmp 10) rfl (g10) e0 26 _ (0, 0) _ (blk_below hb (blk_lt H_g10.out) H_g10.out) Tryd.underlying26 rfl (sizeF' _)
            · intro act w hb h
              have e0 := h (9, .pointer (some ⟨g9, 0, none⟩)) (by simp)
              exact sQuiet_load_row 26 (.tmp 9) rfl (g9) e0 26 _ (0, 0) _ (blk_below hb (blk_lt H_g9.out) H_g9.out) Tryd.underlying26 rfl (sizeF' _)
            · intro act w hb h
              have e0 := h (62, .agg (uc (limN 4 nm))) (by simp)
              have e1 := h (63, .agg (uc (limN 4 nc))) (by simp)
              simp only [Array.getD_eq_getD_getElem?] at e0 e1
              simp [go_sem, e0, e1, sQuiet]
              exact C_ng.out w (HP.out.step hb)
            · intro act w hb h
              have e0 := h (6, .pointer (some ⟨g6, 0, none⟩)) (by simp)
              exact sQuiet_load_row 26 (.tmp 6) rfl (g6) e0 26 _ (0, 0) _ (blk_below hb (blk_lt H_g6.out) H_g6.out) Tryd.underlying26 rfl (sizeF' _)
            · intro act w hb h
              have e0 := h (5, .pointer (some ⟨g5, 0, none⟩)) (by simp)
              exact sQuiet_load_row 26 (.tmp 5) rfl (g5) e0 26 _ (0, 0) _ (blk_below hb (blk_lt H_g5.out) H_g5.out) Tryd.underlying26 rfl (sizeF' _)
            · intro act w hb h
              have e0 := h (65, .agg (uc (limN 4 nb))) (by simp)
              have e1 := h (66, .agg (uc (limN 4 na))) (by simp)
              simp only [Array.getD_eq_getD_getElem?] at e0 e1
              simp [go_sem, e0, e1, sQuiet]
              exact C_nh.out w (HP.out.step hb)
            · intro act w hb
              simp [go_sem, hz]
            · intro act w hb
              simp [go_sem, hz]
            · intro act w hb
              simp [go_sem, hz]
            · intro act w hb
              simp [go_sem, hz]
          · simp [headReads, headPut, specV, HeadSpec.val, HeadSpec.fresh, Act.put]
          · simp only [List.take_succ_cons, List.take_zero, List.drop_succ_cons, List.drop_zero, headEnd, HeadSpec.val, HeadSpec.fresh, Act.put, List.setIfInBounds_toArray, List.set_cons_succ, List.set_cons_zero]
            intro g11 hg11 _ g12 hg12 ng12 g13 hg13 ng13 g14 hg14 ng14 v1 hv1 hgs
            have ne_g11_g12 : g11 ≠ g12 := ng12 (g11, .cells zeros4 26) (by simp)
            have ne_g11_g13 : g11 ≠ g13 := ng13 (g11, .cells zeros4 26) (by simp)
            have ne_g12_g13 : g12 ≠ g13 := ng13 (g12, .cells zeros4 26) (by simp)
            have ne_g11_g14 : g11 ≠ g14 := ng14 (g11, .cells zeros4 26) (by simp)
            have ne_g12_g14 : g12 ≠ g14 := ng14 (g12, .cells zeros4 26) (by simp)
            have ne_g13_g14 : g13 ≠ g14 := ng14 (g13, .cells zeros4 26) (by simp)
            have N_g11 := Lib.hid (show v1.heap[g11]? = some (.cells zeros4 26) from hgs (g11, .cells zeros4 26) (by simp))
            have N_g12 := Lib.hid (show v1.heap[g12]? = some (.cells zeros4 26) from hgs (g12, .cells zeros4 26) (by simp))
            have N_g13 := Lib.hid (show v1.heap[g13]? = some (.cells zeros4 26) from hgs (g13, .cells zeros4 26) (by simp))
            have N_g14 := Lib.hid (show v1.heap[g14]? = some (.cells zeros4 26) from hgs (g14, .cells zeros4 26) (by simp))
            have M_g12 := Lib.hid (show (v1.setRow g11 (uc (limN 4 ne))).heap[g12]? = some (.cells zeros4 26) from by rw [setRow_other _ _ _ _ (Ne.symm ne_g11_g12)]; exact N_g12.out)
            have M_g13 := Lib.hid (show ((v1.setRow g11 (uc (limN 4 ne))).setRow g12 (uc (limN 4 nf))).heap[g13]? = some (.cells zeros4 26) from by rw [setRow_other _ _ _ _ (Ne.symm ne_g12_g13), setRow_other _ _ _ _ (Ne.symm ne_g11_g13)]; exact N_g13.out)
            have M_g14 := Lib.hid (show (((v1.setRow g11 (uc (limN 4 ne))).setRow g12 (uc (limN 4 nf))).setRow g13 (uc (limN 4 ng))).heap[g14]? = some (.cells zeros4 26) from by rw [setRow_other _ _ _ _ (Ne.symm ne_g13_g14), setRow_other _ _ _ _ (Ne.symm ne_g12_g14), setRow_other _ _ _ _ (Ne.symm ne_g11_g14)]; exact N_g14.out)
            have hk : Below W8.heap.size W8 ((((v1.setRow g11 (uc (limN 4 ne))).setRow g12 (uc (limN 4 nf))).setRow g13 (uc (limN 4 ng))).setRow g14 (uc (limN 4 nh))) := below_setRow (below_setRow (below_setRow (below_setRow hv1 hg11 (uc (limN 4 ne))) hg12 (uc (limN 4 nf))) hg13 (uc (limN 4 ng))) hg14 (uc (limN 4 nh))
            have k_g11 := Lib.hid (show ((((v1.setRow g11 (uc (limN 4 ne))).setRow g12 (uc (limN 4 nf))).setRow g13 (uc (limN 4 ng))).setRow g14 (uc (limN 4 nh))).heap[g11]? = some (.cells (uc (limN 4 ne)) 26) from by rw [setRow_other _ _ _ _ ne_g11_g14]; rw [setRow_other _ _ _ _ ne_g11_g13]; rw [setRow_other _ _ _ _ ne_g11_g12]; exact setRow_heap _ g11 _ (uc (limN 4 ne)) _ _ N_g11.out)
            have k_g12 := Lib.hid (show ((((v1.setRow g11 (uc (limN 4 ne))).setRow g12 (uc (limN 4 nf))).setRow g13 (uc (limN 4 ng))).setRow g14 (uc (limN 4 nh))).heap[g12]? = some (.cells (uc (limN 4 nf)) 26) from by rw [setRow_other _ _ _ _ ne_g12_g14]; rw [setRow_other _ _ _ _ ne_g12_g13]; exact setRow_heap _ g12 _ (uc (limN 4 nf)) _ _ M_g12.out)
            have k_g13 := Lib.hid (show ((((v1.setRow g11 (uc (limN 4 ne))).setRow g12 (uc (limN 4 nf))).setRow g13 (uc (limN 4 ng))).setRow g14 (uc (limN 4 nh))).heap[g13]? = some (.cells (uc (limN 4 ng)) 26) from by rw [setRow_other _ _ _ _ ne_g13_g14]; exact setRow_heap _ g13 _ (uc (limN 4 ng)) _ _ M_g13.out)
            have k_g14 := Lib.hid (show ((((v1.setRow g11 (uc (limN 4 ne))).setRow g12 (uc (limN 4 nf))).setRow g13 (uc (limN 4 ng))).setRow g14 (uc (limN 4 nh))).heap[g14]? = some (.cells (uc (limN 4 nh)) 26) from by exact setRow_heap _ g14 _ (uc (limN 4 nh)) _ _ M_g14.out)
            have hb1 := hb.trans (hk.mono hB.out)
            have hP1 := Lib.hid (HP.out.step hk)
            have kHQ := Lib.hid (blk_below hk (blk_lt HQ.out) HQ.out)
            have kHX := Lib.hid (blk_below hk (blk_lt HX.out) HX.out)
            have kHR := Lib.hid (blk_below hk (blk_lt HR.out) HR.out)
            have kH_g5 := Lib.hid (blk_below hk (blk_lt H_g5.out) H_g5.out)
            have kH_g6 := Lib.hid (blk_below hk (blk_lt H_g6.out) H_g6.out)
            have kH_g7 := Lib.hid (blk_below hk (blk_lt H_g7.out) H_g7.out)
            have kH_g8 := Lib.hid (blk_below hk (blk_lt H_g8.out) H_g8.out)
            have kH_g9 := Lib.hid (blk_below hk (blk_lt H_g9.out) H_g9.out)
            have kH_g10 := Lib.hid (blk_below hk (blk_lt H_g10.out) H_g10.out)
            have hB1 := Lib.hid (Nat.le_trans hB.out hk.size)
            have b_g11 := Lib.hid (Nat.le_trans hB.out hg11)
            have b_g12 := Lib.hid (Nat.le_trans hB.out hg12)
            have b_g13 := Lib.hid (Nat.le_trans hB.out hg13)
            have b_g14 := Lib.hid (Nat.le_trans hB.out hg14)
            clear HQ HX HR H_g5 H_g6 H_g7 H_g8 H_g9 H_g10 hv1 hgs hb HP hB hk hg11 hg12 hg13 hg14 ne_g11_g12 ne_g11_g13 ne_g12_g13 ne_g11_g14 ne_g12_g14 ne_g13_g14 ng12 ng13 ng14
            go_wp2_with (first | (with_reducible refine wpList_store_row rfl 26 _ _ rfl g11 (uc (limN 4 ne)) rfl rfl 26 _ N_g11.out (sizeF' _) (zerosF_size _) (uc_one _) ?_) | (with_reducible refine wpList_store_row rfl 26 _ _ rfl g12 (uc (limN 4 nf)) rfl rfl 26 _ M_g12.out (sizeF' _) (zerosF_size _) (uc_one _) ?_) | (with_reducible refine wpList_store_row rfl 26 _ _ rfl g13 (uc (limN 4 ng)) rfl rfl 26 _ M_g13.out (sizeF' _) (zerosF_size _) (uc_one _) ?_) | (with_reducible refine wpList_store_row rfl 26 _ _ rfl g14 (uc (limN 4 nh)) rfl rfl 26 _ M_g14.out (sizeF' _) (zerosF_size _) (uc_one _) ?_))
            generalize (World.setRow (World.setRow (World.setRow (World.setRow _ _ _) _ _) _ _) _ _) = W9 at *
            clear N_g11 N_g12 N_g13 N_g14 M_g12 M_g13 M_g14
            have HQ := kHQ
            have HX := kHX
            have HR := kHR
            have H_g5 := kH_g5
            have H_g6 := kH_g6
            have H_g7 := kH_g7
            have H_g8 := kH_g8
            have H_g9 := kH_g9
            have H_g10 := kH_g10
            have H_g11 := k_g11
            have H_g12 := k_g12
            have H_g13 := k_g13
            have H_g14 := k_g14
            have hb := hb1; have HP := hP1; have hB := hB1
            clear hb1 hP1 hB1 kHQ kHX kHR kH_g5 kH_g6 kH_g7 kH_g8 kH_g9 kH_g10 k_g11 k_g12 k_g13 k_g14
            try simp only [Act.put]
            refine wp_region_fresh 13 81 [.val (.agg (uc (limN 4 ne))) [(11, .pointer (some ⟨g11, 0, none⟩))],
      .val (.agg (uc (limN 4 nf))) [(12, .pointer (some ⟨g12, 0, none⟩))],
      .val (.agg (uc (limN 4 nx))) [(68, .agg (uc (limN 4 ne))), (69, .agg (uc (limN 4 nf)))],
      .val (.agg (uc (limN 4 ng))) [(13, .pointer (some ⟨g13, 0, none⟩))],
      .val (.agg (uc (limN 4 nh))) [(14, .pointer (some ⟨g14, 0, none⟩))],
      .val (.agg (uc (limN 4 ny))) [(71, .agg (uc (limN 4 ng))), (72, .agg (uc (limN 4 nh)))],
      .val (.agg (uc (limN 4 nf))) [(12, .pointer (some ⟨g12, 0, none⟩))],
      .val (.agg (uc (limN 4 ng))) [(13, .pointer (some ⟨g13, 0, none⟩))],
      .val (.agg (uc (limN 4 nz))) [(74, .agg (uc (limN 4 nf))), (75, .agg (uc (limN 4 ng)))],
      .val (.agg (uc (limN 4 ne))) [(11, .pointer (some ⟨g11, 0, none⟩))],
      .val (.agg (uc (limN 4 nh))) [(14, .pointer (some ⟨g14, 0, none⟩))],
      .val (.agg (uc (limN 4 nt))) [(77, .agg (uc (limN 4 ne))), (78, .agg (uc (limN 4 nh)))],
      .val (.agg (uc (row4 nx ny nz nt))) [(70, .agg (uc (limN 4 nx))), (73, .agg (uc (limN 4 ny))), (76, .agg (uc (limN 4 nz))), (79, .agg (uc (limN 4 nt)))]] (by kernel_rfl) (by kernel_rfl) rfl ?_ ?_ ?_
            · simp only [List.take_succ_cons, List.take_zero, headObl, specObl, HeadSpec.val, HeadSpec.fresh, and_true]
              refine ⟨?_, ?_, ?_, ?_, ?_, ?_, ?_, ?_, ?_, ?_, ?_, ?_, ?_⟩
              · intro act w hb h
                have e0 := h (11, .pointer (some ⟨g11, 0, none⟩)) (by simp)
                exact sQuiet_load_row 26 (.tmp 11) rfl (g11) e0 26 _ (0, 0) _ (blk_below hb (blk_lt H_g11.out) H_g11.out) Tryd.underlying26 rfl (sizeF' _)
              · intro act w hb h
                have e0 := h (12, .pointer (some ⟨g12, 0, none⟩)) (by simp)
                exact sQuiet_load_row 26 (.tmp 12) rfl (g12) e0 26 _ (0, 0) _ (blk_below hb (blk_lt H_g12.out) H_g12.out) Tryd.underlying26 rfl (sizeF' _)
              · intro act w hb h
                have e0 := h (68, .agg (uc (limN 4 ne))) (by simp)
                have e1 := h (69, .agg (uc (limN 4 nf))) (by simp)
                simp only [Array.getD_eq_getD_getElem?] at e0 e1
                simp [go_sem, e0, e1, sQuiet]
                exact C_nx.out w (HP.out.step hb)
              · intro act w hb h
                have e0 := h (13, .pointer (some ⟨g13, 0, none⟩)) (by simp)
                exact sQuiet_load_row 26 (.tmp 13) rfl (g13) e0 26 _ (0, 0) _ (blk_below hb (blk_lt H_g13.out) H_g13.out) Tryd.underlying26 rfl (sizeF' _)
              · intro act w hb h
                have e0 := h (14, .pointer (some ⟨g14, 0, none⟩)) (by simp)
                exact sQuiet_load_row 26 (.tmp 14) rfl (g14) e0 26 _ (0, 0) _ (blk_below hb (blk_lt H_g14.out) H_g14.out) Tryd.underlying26 rfl (sizeF' _)
              · intro act w hb h
                have e0 := h (71, .agg (uc (limN 4 ng))) (by simp)
                have e1 := h (72, .agg (uc (limN 4 nh))) (by simp)
                simp only [Array.getD_eq_getD_getElem?] at e0 e1
                simp [go_sem, e0, e1, sQuiet]
                exact C_ny.out w (HP.out.step hb)
              · intro act w hb h
                have e0 := h (12, .pointer (some ⟨g12, 0, none⟩)) (by simp)
                exact sQuiet_load_row 26 (.tmp 12) rfl (g12) e0 26 _ (0, 0) _ (blk_below hb (blk_lt H_g12.out) H_g12.out) Tryd.underlying26 rfl (sizeF' _)
              · intro act w hb h
                have e0 := h (13, .pointer (some ⟨g13, 0, none⟩)) (by simp)
                exact sQuiet_load_row 26 (.tmp 13) rfl (g13) e0 26 _ (0, 0) _ (blk_below hb (blk_lt H_g13.out) H_g13.out) Tryd.underlying26 rfl (sizeF' _)
              · intro act w hb h
                have e0 := h (74, .agg (uc (limN 4 nf))) (by simp)
                have e1 := h (75, .agg (uc (limN 4 ng))) (by simp)
                simp only [Array.getD_eq_getD_getElem?] at e0 e1
                simp [go_sem, e0, e1, sQuiet]
                exact C_nz.out w (HP.out.step hb)
              · intro act w hb h
                have e0 := h (11, .pointer (some ⟨g11, 0, none⟩)) (by simp)
                exact sQuiet_load_row 26 (.tmp 11) rfl (g11) e0 26 _ (0, 0) _ (blk_below hb (blk_lt H_g11.out) H_g11.out) Tryd.underlying26 rfl (sizeF' _)
              · intro act w hb h
                have e0 := h (14, .pointer (some ⟨g14, 0, none⟩)) (by simp)
                exact sQuiet_load_row 26 (.tmp 14) rfl (g14) e0 26 _ (0, 0) _ (blk_below hb (blk_lt H_g14.out) H_g14.out) Tryd.underlying26 rfl (sizeF' _)
              · intro act w hb h
                have e0 := h (77, .agg (uc (limN 4 ne))) (by simp)
                have e1 := h (78, .agg (uc (limN 4 nh))) (by simp)
                simp only [Array.getD_eq_getD_getElem?] at e0 e1
                simp [go_sem, e0, e1, sQuiet]
                exact C_nt.out w (HP.out.step hb)
              · intro act w hb h
                have e0 := h (70, .agg (uc (limN 4 nx))) (by simp)
                have e1 := h (73, .agg (uc (limN 4 ny))) (by simp)
                have e2 := h (76, .agg (uc (limN 4 nz))) (by simp)
                have e3 := h (79, .agg (uc (limN 4 nt))) (by simp)
                exact sQuiet_build_ns (.tmp 70) (.tmp 73) (.tmp 76) (.tmp 79) rfl _ _ _ _ e0 e1 e2 e3
            · simp [headReads, headPut, specV, HeadSpec.val, HeadSpec.fresh, Act.put]
            · simp only [List.take_succ_cons, List.take_zero, List.drop_succ_cons, List.drop_zero, headEnd, HeadSpec.val, HeadSpec.fresh, Act.put, List.setIfInBounds_toArray, List.set_cons_succ, List.set_cons_zero]
              intro v1 hv1 hgs
              have HN := Lib.hid (blk_below hv1 (blk_lt HR.out) HR.out)
              have HNN := Lib.hid (setRow_heap v1 (B + 1 + 1) _ (uc (row4 nx ny nz nt)) _ _ HN.out)
              have hb2 : Below B w (v1.setRow (B + 1 + 1) (uc (row4 nx ny nz nt))) := below_setRow (hb.trans (hv1.mono hB.out)) (by omega) _
              clear hgs hv1 hb
              go_wp2_with (with_reducible refine wpList_store_row rfl 57 _ _ rfl (B + 1 + 1) (uc (row4 nx ny nz nt)) rfl rfl 57 _ HN.out (sizeNs _ (row4_length _ _ _ _)) (zrow4_size _ (row4_length _ _ _ _)) (uc_one _) ?_)
              exact bodyPost_ret (v := .agg (uc (row4 nx ny nz nt))) (results_cell_row (by rfl) _ _ (B + 1 + 1) 57 _ (0, 0) _ rfl HNN.out Tryd.underlying57 rfl (sizeNs _ (row4_length _ _ _ _))) rfl ⟨rfl, by rw [HBB.out]; exact hb2⟩
end Go.Proofs.YtcpdehfmlmmgiaaDoor
