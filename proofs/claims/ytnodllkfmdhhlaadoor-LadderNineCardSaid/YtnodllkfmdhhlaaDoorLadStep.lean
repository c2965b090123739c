/- The program's step of a rung. -/
import Derived.Test.YtnodllkfmdhhlaaDoorLadRung
namespace Go.Proofs.YtnodllkfmdhhlaaDoor
open Go.RowKit Go.Sort
set_option maxRecDepth 100000
set_option linter.unusedSimpArgs false
set_option linter.unusedVariables false

set_option maxHeartbeats 8000000 in
theorem stepL_any (a b c d u m n o q r t1 s t2 t x y a2 z1 z2 b2 c2 yy d2 : Nat) (w : World) (l_a : a < pF) (l_b : b < pF) (l_c : c < pF) (l_d : d < pF) (l_u : u < pF) (hT : PrmQ w)
    (e_m : addF a b = m) (e_n : subF a b = n) (e_o : mulF m m = o) (e_q : mulF n n = q) (e_r : subF o q = r) (e_t1 : subF c d = t1) (e_s : mulF t1 m = s) (e_t2 : addF c d = t2) (e_t : mulF t2 n = t) (e_x : addF t s = x) (e_y : subF t s = y) (e_a2 : mulF o q = a2) (e_z1 : mulF 121665 r = z1) (e_z2 : addF o z1 = z2) (e_b2 : mulF r z2 = b2) (e_c2 : mulF x x = c2) (e_yy : mulF y y = yy) (e_d2 : mulF u yy = d2) :
    Calls Tryd.prog 27 #[.agg (uc (rl a b c d)), .agg (uc (limN 4 u))] w fun e w' => e = .returned (.agg (uc (rl a2 b2 c2 d2))) ∧ Below w.heap.size w w' := by
  have l_m : m < pF := e_m ▸ addF_lt _ _
  have l_n : n < pF := e_n ▸ subF_lt _ _
  have l_o : o < pF := e_o ▸ mulF_lt _ _
  have l_q : q < pF := e_q ▸ mulF_lt _ _
  have l_r : r < pF := e_r ▸ subF_lt _ _
  have l_t1 : t1 < pF := e_t1 ▸ subF_lt _ _
  have l_s : s < pF := e_s ▸ mulF_lt _ _
  have l_t2 : t2 < pF := e_t2 ▸ addF_lt _ _
  have l_t : t < pF := e_t ▸ mulF_lt _ _
  have l_x : x < pF := e_x ▸ addF_lt _ _
  have l_y : y < pF := e_y ▸ subF_lt _ _
  have l_a2 : a2 < pF := e_a2 ▸ mulF_lt _ _
  have l_z1 : z1 < pF := e_z1 ▸ mulF_lt _ _
  have l_z2 : z2 < pF := e_z2 ▸ addF_lt _ _
  have l_b2 : b2 < pF := e_b2 ▸ mulF_lt _ _
  have l_c2 : c2 < pF := e_c2 ▸ mulF_lt _ _
  have l_yy : yy < pF := e_yy ▸ mulF_lt _ _
  have l_d2 : d2 < pF := e_d2 ▸ mulF_lt _ _
  have C_m := Lib.hid (fun (W : World) (hW : PrmQ W) => addF_any a b W l_a l_b)
  rw [e_m] at C_m
  have C_n := Lib.hid (fun (W : World) (hW : PrmQ W) => subF_any a b W l_a l_b hW)
  rw [e_n] at C_n
  have C_o := Lib.hid (fun (W : World) (hW : PrmQ W) => mulF_any m m W l_m l_m)
  rw [e_o] at C_o
  have C_q := Lib.hid (fun (W : World) (hW : PrmQ W) => mulF_any n n W l_n l_n)
  rw [e_q] at C_q
  have C_r := Lib.hid (fun (W : World) (hW : PrmQ W) => subF_any o q W l_o l_q hW)
  rw [e_r] at C_r
  have C_t1 := Lib.hid (fun (W : World) (hW : PrmQ W) => subF_any c d W l_c l_d hW)
  rw [e_t1] at C_t1
  have C_s := Lib.hid (fun (W : World) (hW : PrmQ W) => mulF_any t1 m W l_t1 l_m)
  rw [e_s] at C_s
  have C_t2 := Lib.hid (fun (W : World) (hW : PrmQ W) => addF_any c d W l_c l_d)
  rw [e_t2] at C_t2
  have C_t := Lib.hid (fun (W : World) (hW : PrmQ W) => mulF_any t2 n W l_t2 l_n)
  rw [e_t] at C_t
  have C_x := Lib.hid (fun (W : World) (hW : PrmQ W) => addF_any t s W l_t l_s)
  rw [e_x] at C_x
  have C_y := Lib.hid (fun (W : World) (hW : PrmQ W) => subF_any t s W l_t l_s hW)
  rw [e_y] at C_y
  have C_a2 := Lib.hid (fun (W : World) (hW : PrmQ W) => mulF_any o q W l_o l_q)
  rw [e_a2] at C_a2
  have C_z1 := Lib.hid (fun (W : World) (hW : PrmQ W) => mulF_any 121665 r W (by decide) l_r)
  rw [e_z1] at C_z1
  have C_z2 := Lib.hid (fun (W : World) (hW : PrmQ W) => addF_any o z1 W l_o l_z1)
  rw [e_z2] at C_z2
  have C_b2 := Lib.hid (fun (W : World) (hW : PrmQ W) => mulF_any r z2 W l_r l_z2)
  rw [e_b2] at C_b2
  have C_c2 := Lib.hid (fun (W : World) (hW : PrmQ W) => mulF_any x x W l_x l_x)
  rw [e_c2] at C_c2
  have C_yy := Lib.hid (fun (W : World) (hW : PrmQ W) => mulF_any y y W l_y l_y)
  rw [e_yy] at C_yy
  have C_d2 := Lib.hid (fun (W : World) (hW : PrmQ W) => mulF_any u yy W l_u l_yy)
  rw [e_d2] at C_d2
  have I_m := Lib.hid (sizeF' m); have Z_m := Lib.hid (zerosF_size m); have O_m := Lib.hid (uc_one (limN 4 m))
  have I_n := Lib.hid (sizeF' n); have Z_n := Lib.hid (zerosF_size n); have O_n := Lib.hid (uc_one (limN 4 n))
  have I_o := Lib.hid (sizeF' o); have Z_o := Lib.hid (zerosF_size o); have O_o := Lib.hid (uc_one (limN 4 o))
  have I_q := Lib.hid (sizeF' q); have Z_q := Lib.hid (zerosF_size q); have O_q := Lib.hid (uc_one (limN 4 q))
  have I_r := Lib.hid (sizeF' r); have Z_r := Lib.hid (zerosF_size r); have O_r := Lib.hid (uc_one (limN 4 r))
  have I_t1 := Lib.hid (sizeF' t1); have Z_t1 := Lib.hid (zerosF_size t1); have O_t1 := Lib.hid (uc_one (limN 4 t1))
  have I_s := Lib.hid (sizeF' s); have Z_s := Lib.hid (zerosF_size s); have O_s := Lib.hid (uc_one (limN 4 s))
  have I_t2 := Lib.hid (sizeF' t2); have Z_t2 := Lib.hid (zerosF_size t2); have O_t2 := Lib.hid (uc_one (limN 4 t2))
  have I_t := Lib.hid (sizeF' t); have Z_t := Lib.hid (zerosF_size t); have O_t := Lib.hid (uc_one (limN 4 t))
  have I_x := Lib.hid (sizeF' x); have Z_x := Lib.hid (zerosF_size x); have O_x := Lib.hid (uc_one (limN 4 x))
  have I_y := Lib.hid (sizeF' y); have Z_y := Lib.hid (zerosF_size y); have O_y := Lib.hid (uc_one (limN 4 y))
  have I_a2 := Lib.hid (sizeF' a2); have Z_a2 := Lib.hid (zerosF_size a2); have O_a2 := Lib.hid (uc_one (limN 4 a2))
  have I_z1 := Lib.hid (sizeF' z1); have Z_z1 := Lib.hid (zerosF_size z1); have O_z1 := Lib.hid (uc_one (limN 4 z1))
  have I_z2 := Lib.hid (sizeF' z2); have Z_z2 := Lib.hid (zerosF_size z2); have O_z2 := Lib.hid (uc_one (limN 4 z2))
  have I_b2 := Lib.hid (sizeF' b2); have Z_b2 := Lib.hid (zerosF_size b2); have O_b2 := Lib.hid (uc_one (limN 4 b2))
  have I_c2 := Lib.hid (sizeF' c2); have Z_c2 := Lib.hid (zerosF_size c2); have O_c2 := Lib.hid (uc_one (limN 4 c2))
  have I_yy := Lib.hid (sizeF' yy); have Z_yy := Lib.hid (zerosF_size yy); have O_yy := Lib.hid (uc_one (limN 4 yy))
  have I_d2 := Lib.hid (sizeF' d2); have Z_d2 := Lib.hid (zerosF_size d2); have O_d2 := Lib.hid (uc_one (limN 4 d2))
  have I_a := Lib.hid (sizeF' a)
  have I_b := Lib.hid (sizeF' b)
  have I_c := Lib.hid (sizeF' c)
  have I_d := Lib.hid (sizeF' d)
  have I_u := Lib.hid (sizeF' u)
  clear e_m l_m e_n l_n e_o l_o e_q l_q e_r l_r e_t1 l_t1 e_s l_s e_t2 l_t2 e_t l_t e_x l_x e_y l_y e_a2 l_a2 e_z1 l_z1 e_z2 l_z2 e_b2 l_b2 e_c2 l_c2 e_yy l_yy e_d2 l_d2 l_a l_b l_c l_d l_u
  have C_k : Hid (∀ W : World, Calls Tryd.prog 24 #[.int .i64 121665] W fun e w' => e = .returned (.agg (uc (limN 4 121665))) ∧ Below W.heap.size W w') := Lib.hid (fun W => smallPos_any 121665 W (by decide))
  obtain ⟨hz, hi⟩ := zero_of_info infoF
  obtain ⟨hzr, hir⟩ := zero_of_info infoR
  have hTl := hT.lt
  have hb := below_new3 w (.cells (uc (rl a b c d)) 53) (.cells (uc (limN 4 u)) 36) (.cells zeros16 53)
  have HP := Lib.hid (hT.step hb)
  have HQ := Lib.hid (blk_old (o := .cells zeros16 53) (blk_old (o := .cells (uc (limN 4 u)) 36) (blk_new w (.cells (uc (rl a b c d)) 53))))
  have HX := Lib.hid (blk_old (o := .cells zeros16 53) (blk_new2 w (.cells (uc (rl a b c d)) 53) (.cells (uc (limN 4 u)) 36)))
  have HR := Lib.hid (blk_new3 w (.cells (uc (rl a b c d)) 53) (.cells (uc (limN 4 u)) 36) (.cells zeros16 53))
  clear hi hir hT hTl
  go_enter Tryd.func27, Tryd.ntmps27
  go_upto_region 1 with fail
  clear hzr
  generalize (((w.alloc _).alloc _).alloc _) = W0 at *
  have hB := Lib.hid hb.size
  generalize hBB : w.heap.size = B at *
  have HBB := Lib.hid hBB
  clear hBB
  refine wp_region_fresh 12 72 [.val (.pointer (some ⟨B, 0, none⟩)) [(2, .pointer (some ⟨B, 0, none⟩))], .val (.agg (uc (limN 4 a))) [(14, .pointer (some ⟨B, 0, none⟩))], .val (.pointer (some ⟨B, 4, none⟩)) [(2, .pointer (some ⟨B, 0, none⟩))], .val (.agg (uc (limN 4 b))) [(16, .pointer (some ⟨B, 4, none⟩))], .val (.agg (uc (limN 4 m))) [(15, .agg (uc (limN 4 a))), (17, .agg (uc (limN 4 b)))], .val (.pointer (some ⟨B, 0, none⟩)) [(2, .pointer (some ⟨B, 0, none⟩))], .val (.agg (uc (limN 4 a))) [(19, .pointer (some ⟨B, 0, none⟩))], .val (.pointer (some ⟨B, 4, none⟩)) [(2, .pointer (some ⟨B, 0, none⟩))], .val (.agg (uc (limN 4 b))) [(21, .pointer (some ⟨B, 4, none⟩))], .val (.agg (uc (limN 4 n))) [(20, .agg (uc (limN 4 a))), (22, .agg (uc (limN 4 b)))], .fresh (.cells zeros4 36), .fresh (.cells zeros4 36)] (by kernel_rfl) (by kernel_rfl) rfl ?_ ?_ ?_
  · simp only [List.take_succ_cons, List.take_zero, headObl, specObl, HeadSpec.val, HeadSpec.fresh, and_true]
    refine ⟨?_, ?_, ?_, ?_, ?_, ?_, ?_, ?_, ?_, ?_, ?_, ?_⟩
    · intro act w hb h
      have e0 := h (2, .pointer (some ⟨B, 0, none⟩)) (by simp)
      simp only [Array.getD_eq_getD_getElem?] at e0
      simp [go_sem, e0, sQuiet]
    · intro act w hb h
      have e0 := h (14, .pointer (some ⟨B, 0, none⟩)) (by simp)
      exact sQuiet_load_num (.tmp 14) rfl (B) 0 e0 53 _ _ (0, 0) (blk_below hb (blk_lt HQ.out) HQ.out) (limN_length _ _) (rl_0 _ _ _ _)
    · intro act w hb h
      have e0 := h (2, .pointer (some ⟨B, 0, none⟩)) (by simp)
      simp only [Array.getD_eq_getD_getElem?] at e0
      simp [go_sem, e0, sQuiet]
    · intro act w hb h
      have e0 := h (16, .pointer (some ⟨B, 4, none⟩)) (by simp)
      exact sQuiet_load_num (.tmp 16) rfl (B) 4 e0 53 _ _ (0, 0) (blk_below hb (blk_lt HQ.out) HQ.out) (limN_length _ _) (rl_1 _ _ _ _)
    · intro act w hb h
      have e0 := h (15, .agg (uc (limN 4 a))) (by simp)
      have e1 := h (17, .agg (uc (limN 4 b))) (by simp)
      simp only [Array.getD_eq_getD_getElem?] at e0 e1
      simp [go_sem, e0, e1, sQuiet]
      exact C_m.out w (HP.out.step hb)
    · intro act w hb h
      have e0 := h (2, .pointer (some ⟨B, 0, none⟩)) (by simp)
      simp only [Array.getD_eq_getD_getElem?] at e0
      simp [go_sem, e0, sQuiet]
    · intro act w hb h
      have e0 := h (19, .pointer (some ⟨B, 0, none⟩)) (by simp)
      exact sQuiet_load_num (.tmp 19) rfl (B) 0 e0 53 _ _ (0, 0) (blk_below hb (blk_lt HQ.out) HQ.out) (limN_length _ _) (rl_0 _ _ _ _)
    · intro act w hb h
      have e0 := h (2, .pointer (some ⟨B, 0, none⟩)) (by simp)
      simp only [Array.getD_eq_getD_getElem?] at e0
      simp [go_sem, e0, sQuiet]
    · intro act w hb h
      have e0 := h (21, .pointer (some ⟨B, 4, none⟩)) (by simp)
      exact sQuiet_load_num (.tmp 21) rfl (B) 4 e0 53 _ _ (0, 0) (blk_below hb (blk_lt HQ.out) HQ.out) (limN_length _ _) (rl_1 _ _ _ _)
    · intro act w hb h
      have e0 := h (20, .agg (uc (limN 4 a))) (by simp)
      have e1 := h (22, .agg (uc (limN 4 b))) (by simp)
      simp only [Array.getD_eq_getD_getElem?] at e0 e1
      simp [go_sem, e0, e1, sQuiet]
      exact C_n.out w (HP.out.step hb)
    · intro act w hb
      simp [go_sem, hz]
    · intro act w hb
      simp [go_sem, hz]
  · simp [headReads, headPut, specV, HeadSpec.val, HeadSpec.fresh, Act.put]
  · simp only [List.take_succ_cons, List.take_zero, List.drop_succ_cons, List.drop_zero, headEnd, HeadSpec.val, HeadSpec.fresh, Act.put, List.setIfInBounds_toArray, List.set_cons_succ, List.set_cons_zero]
    intro g5 hg5 _ g6 hg6 hne v1 hv1 hgs
    have hne' : g5 ≠ g6 := hne (g5, .cells zeros4 36) (by simp)
    have N_g5 := Lib.hid (show v1.heap[g5]? = some (.cells zeros4 36) from hgs (g5, .cells zeros4 36) (by simp))
    have N_g6 := Lib.hid (show v1.heap[g6]? = some (.cells zeros4 36) from hgs (g6, .cells zeros4 36) (by simp))
    have N2 := Lib.hid (show (v1.setRow g5 (uc (limN 4 m))).heap[g6]? = some (.cells zeros4 36) from by rw [setRow_other _ _ _ _ (Ne.symm hne')]; exact N_g6.out)
    have k_g6 := Lib.hid (setRow_heap (v1.setRow g5 (uc (limN 4 m))) g6 _ (uc (limN 4 n)) _ _ N2.out)
    have k_g5 := Lib.hid (show ((v1.setRow g5 (uc (limN 4 m))).setRow g6 (uc (limN 4 n))).heap[g5]? = some (.cells (uc (limN 4 m)) 36) from by rw [setRow_other _ _ _ _ hne']; exact setRow_heap v1 g5 _ (uc (limN 4 m)) _ _ N_g5.out)
    have hk : Below W0.heap.size W0 ((v1.setRow g5 (uc (limN 4 m))).setRow g6 (uc (limN 4 n))) := below_setRow (below_setRow hv1 hg5 _) hg6 _
    have hb1 : Below B w ((v1.setRow g5 (uc (limN 4 m))).setRow g6 (uc (limN 4 n))) := hb.trans (hk.mono hB.out)
    have hP1 := Lib.hid (HP.out.step hk)
    have kHQ := Lib.hid (blk_below hk (blk_lt HQ.out) HQ.out)
    have kHX := Lib.hid (blk_below hk (blk_lt HX.out) HX.out)
    have kHR := Lib.hid (blk_below hk (blk_lt HR.out) HR.out)
    have hB1 := Lib.hid (Nat.le_trans hB.out hk.size)
    have b_g5 := Lib.hid (Nat.le_trans hB.out hg5)
    have b_g6 := Lib.hid (Nat.le_trans hB.out hg6)
    clear HQ HX HR hv1 hgs hb HP hB hk hne hne' hg5 hg6
    go_wp2_with (first | (with_reducible refine wpList_store_row rfl 36 _ _ rfl g5 (uc (limN 4 m)) rfl rfl 36 _ N_g5.out I_m.out Z_m.out O_m.out ?_) | (with_reducible refine wpList_store_row rfl 36 _ _ rfl g6 (uc (limN 4 n)) rfl rfl 36 _ N2.out I_n.out Z_n.out O_n.out ?_))
    generalize (World.setRow (World.setRow _ _ _) _ _) = W1 at *
    clear N_g5 N_g6 N2
    have HQ := kHQ
    have HX := kHX
    have HR := kHR
    have H_g5 := k_g5
    have H_g6 := k_g6
    have hb := hb1; have HP := hP1; have hB := hB1
    clear hb1 hP1 hB1 kHQ kHX kHR k_g5 k_g6
    try simp only [Act.put]
    refine wp_region_fresh 8 72 [.val (.agg (uc (limN 4 m))) [(5, .pointer (some ⟨g5, 0, none⟩))], .val (.agg (uc (limN 4 m))) [(5, .pointer (some ⟨g5, 0, none⟩))], .val (.agg (uc (limN 4 o))) [(24, .agg (uc (limN 4 m))), (25, .agg (uc (limN 4 m)))], .val (.agg (uc (limN 4 n))) [(6, .pointer (some ⟨g6, 0, none⟩))], .val (.agg (uc (limN 4 n))) [(6, .pointer (some ⟨g6, 0, none⟩))], .val (.agg (uc (limN 4 q))) [(27, .agg (uc (limN 4 n))), (28, .agg (uc (limN 4 n)))], .fresh (.cells zeros4 36), .fresh (.cells zeros4 36)] (by kernel_rfl) (by kernel_rfl) rfl ?_ ?_ ?_
    · simp only [List.take_succ_cons, List.take_zero, headObl, specObl, HeadSpec.val, HeadSpec.fresh, and_true]
      refine ⟨?_, ?_, ?_, ?_, ?_, ?_, ?_, ?_⟩
      · intro act w hb h
        have e0 := h (5, .pointer (some ⟨g5, 0, none⟩)) (by simp)
        exact sQuiet_load_row 36 (.tmp 5) rfl (g5) e0 36 _ (0, 0) _ (blk_below hb (blk_lt H_g5.out) H_g5.out) Tryd.underlying36 rfl I_m.out
      · intro act w hb h
        have e0 := h (5, .pointer (some ⟨g5, 0, none⟩)) (by simp)
        exact sQuiet_load_row 36 (.tmp 5) rfl (g5) e0 36 _ (0, 0) _ (blk_below hb (blk_lt H_g5.out) H_g5.out) Tryd.underlying36 rfl I_m.out
      · intro act w hb h
        have e0 := h (24, .agg (uc (limN 4 m))) (by simp)
        have e1 := h (25, .agg (uc (limN 4 m))) (by simp)
        simp only [Array.getD_eq_getD_getElem?] at e0 e1
        simp [go_sem, e0, e1, sQuiet]
        exact C_o.out w (HP.out.step hb)
      · intro act w hb h
        have e0 := h (6, .pointer (some ⟨g6, 0, none⟩)) (by simp)
        exact sQuiet_load_row 36 (.tmp 6) rfl (g6) e0 36 _ (0, 0) _ (blk_below hb (blk_lt H_g6.out) H_g6.out) Tryd.underlying36 rfl I_n.out
      · intro act w hb h
        have e0 := h (6, .pointer (some ⟨g6, 0, none⟩)) (by simp)
        exact sQuiet_load_row 36 (.tmp 6) rfl (g6) e0 36 _ (0, 0) _ (blk_below hb (blk_lt H_g6.out) H_g6.out) Tryd.underlying36 rfl I_n.out
      · intro act w hb h
        have e0 := h (27, .agg (uc (limN 4 n))) (by simp)
        have e1 := h (28, .agg (uc (limN 4 n))) (by simp)
        simp only [Array.getD_eq_getD_getElem?] at e0 e1
        simp [go_sem, e0, e1, sQuiet]
        exact C_q.out w (HP.out.step hb)
      · intro act w hb
        simp [go_sem, hz]
      · intro act w hb
        simp [go_sem, hz]
    · simp [headReads, headPut, specV, HeadSpec.val, HeadSpec.fresh, Act.put]
    · simp only [List.take_succ_cons, List.take_zero, List.drop_succ_cons, List.drop_zero, headEnd, HeadSpec.val, HeadSpec.fresh, Act.put, List.setIfInBounds_toArray, List.set_cons_succ, List.set_cons_zero]
      intro g7 hg7 _ g8 hg8 hne v1 hv1 hgs
      have hne' : g7 ≠ g8 := hne (g7, .cells zeros4 36) (by simp)
      have N_g7 := Lib.hid (show v1.heap[g7]? = some (.cells zeros4 36) from hgs (g7, .cells zeros4 36) (by simp))
      have N_g8 := Lib.hid (show v1.heap[g8]? = some (.cells zeros4 36) from hgs (g8, .cells zeros4 36) (by simp))
      have N2 := Lib.hid (show (v1.setRow g7 (uc (limN 4 o))).heap[g8]? = some (.cells zeros4 36) from by rw [setRow_other _ _ _ _ (Ne.symm hne')]; exact N_g8.out)
      have k_g8 := Lib.hid (setRow_heap (v1.setRow g7 (uc (limN 4 o))) g8 _ (uc (limN 4 q)) _ _ N2.out)
      have k_g7 := Lib.hid (show ((v1.setRow g7 (uc (limN 4 o))).setRow g8 (uc (limN 4 q))).heap[g7]? = some (.cells (uc (limN 4 o)) 36) from by rw [setRow_other _ _ _ _ hne']; exact setRow_heap v1 g7 _ (uc (limN 4 o)) _ _ N_g7.out)
      have hk : Below W1.heap.size W1 ((v1.setRow g7 (uc (limN 4 o))).setRow g8 (uc (limN 4 q))) := below_setRow (below_setRow hv1 hg7 _) hg8 _
      have hb1 : Below B w ((v1.setRow g7 (uc (limN 4 o))).setRow g8 (uc (limN 4 q))) := hb.trans (hk.mono hB.out)
      have hP1 := Lib.hid (HP.out.step hk)
      have kHQ := Lib.hid (blk_below hk (blk_lt HQ.out) HQ.out)
      have kHX := Lib.hid (blk_below hk (blk_lt HX.out) HX.out)
      have kHR := Lib.hid (blk_below hk (blk_lt HR.out) HR.out)
      have kH_g5 := Lib.hid (blk_below hk (blk_lt H_g5.out) H_g5.out)
      have kH_g6 := Lib.hid (blk_below hk (blk_lt H_g6.out) H_g6.out)
      have hB1 := Lib.hid (Nat.le_trans hB.out hk.size)
      have b_g7 := Lib.hid (Nat.le_trans hB.out hg7)
      have b_g8 := Lib.hid (Nat.le_trans hB.out hg8)
      clear HQ HX HR H_g5 H_g6 hv1 hgs hb HP hB hk hne hne' hg7 hg8
      go_wp2_with (first | (with_reducible refine wpList_store_row rfl 36 _ _ rfl g7 (uc (limN 4 o)) rfl rfl 36 _ N_g7.out I_o.out Z_o.out O_o.out ?_) | (with_reducible refine wpList_store_row rfl 36 _ _ rfl g8 (uc (limN 4 q)) rfl rfl 36 _ N2.out I_q.out Z_q.out O_q.out ?_) | (with_reducible refine wpList_load_row rfl 36 _ rfl g7 rfl 36 _ (0, 0) _ k_g7.out Tryd.underlying36 rfl I_o.out ?_) | (with_reducible refine wpList_load_row rfl 36 _ rfl g8 rfl 36 _ (0, 0) _ k_g8.out Tryd.underlying36 rfl I_q.out ?_))
      generalize (World.setRow (World.setRow _ _ _) _ _) = W2 at *
      clear N_g7 N_g8 N2
      have HQ := kHQ
      have HX := kHX
      have HR := kHR
      have H_g5 := kH_g5
      have H_g6 := kH_g6
      have H_g7 := k_g7
      have H_g8 := k_g8
      have hb := hb1; have HP := hP1; have hB := hB1
      clear hb1 hP1 hB1 kHQ kHX kHR k_g7 k_g8 kH_g5 kH_g6
      try simp only [Act.put]
      refine (C_r.out W2 HP.out).mono ?_
      rintro e W3 ⟨rfl, bk⟩
      replace hb := hb.trans (bk.mono hB.out)
      replace HP := Lib.hid (HP.out.step bk)
      replace hB := Lib.hid (Nat.le_trans hB.out bk.size)
      replace HQ := Lib.hid (blk_below bk (blk_lt HQ.out) HQ.out)
      replace HX := Lib.hid (blk_below bk (blk_lt HX.out) HX.out)
      replace HR := Lib.hid (blk_below bk (blk_lt HR.out) HR.out)
      replace H_g5 := Lib.hid (blk_below bk (blk_lt H_g5.out) H_g5.out)
      replace H_g6 := Lib.hid (blk_below bk (blk_lt H_g6.out) H_g6.out)
      replace H_g7 := Lib.hid (blk_below bk (blk_lt H_g7.out) H_g7.out)
      replace H_g8 := Lib.hid (blk_below bk (blk_lt H_g8.out) H_g8.out)
      clear bk
      have HN := Lib.hid (blk_new W3 (.cells zeros4 36))
      have bn := below_new W3 (.cells zeros4 36)
      have q_g9 := Lib.hid (setRow_heap _ W3.heap.size _ (uc (limN 4 r)) _ _ HN.out)
      go_wp2_with (first | (with_reducible refine wpList_store_row rfl 36 _ _ rfl W3.heap.size (uc (limN 4 r)) rfl rfl 36 _ HN.out I_r.out Z_r.out O_r.out ?_))
      have bk := below_setRow bn (Nat.le_refl _) (uc (limN 4 r))
      replace hb := hb.trans (bk.mono hB.out)
      replace HP := Lib.hid (HP.out.step bk)
      replace hB := Lib.hid (Nat.le_trans hB.out bk.size)
      replace HQ := Lib.hid (blk_below bk (blk_lt HQ.out) HQ.out)
      replace HX := Lib.hid (blk_below bk (blk_lt HX.out) HX.out)
      replace HR := Lib.hid (blk_below bk (blk_lt HR.out) HR.out)
      replace H_g5 := Lib.hid (blk_below bk (blk_lt H_g5.out) H_g5.out)
      replace H_g6 := Lib.hid (blk_below bk (blk_lt H_g6.out) H_g6.out)
      replace H_g7 := Lib.hid (blk_below bk (blk_lt H_g7.out) H_g7.out)
      replace H_g8 := Lib.hid (blk_below bk (blk_lt H_g8.out) H_g8.out)
      clear bk
      have H_g9 := q_g9
      generalize (World.setRow (World.alloc _ _) _ _) = W4 at *
      generalize W3.heap.size = g9 at *
      clear bn HN q_g9
      try simp only [Act.put]
      refine wp_region_fresh 16 72 [.val (.pointer (some ⟨B, 8, none⟩)) [(2, .pointer (some ⟨B, 0, none⟩))], .val (.agg (uc (limN 4 c))) [(33, .pointer (some ⟨B, 8, none⟩))], .val (.pointer (some ⟨B, 12, none⟩)) [(2, .pointer (some ⟨B, 0, none⟩))], .val (.agg (uc (limN 4 d))) [(35, .pointer (some ⟨B, 12, none⟩))], .val (.agg (uc (limN 4 t1))) [(34, .agg (uc (limN 4 c))), (36, .agg (uc (limN 4 d)))], .val (.agg (uc (limN 4 m))) [(5, .pointer (some ⟨g5, 0, none⟩))], .val (.agg (uc (limN 4 s))) [(37, .agg (uc (limN 4 t1))), (38, .agg (uc (limN 4 m)))], .val (.pointer (some ⟨B, 8, none⟩)) [(2, .pointer (some ⟨B, 0, none⟩))], .val (.agg (uc (limN 4 c))) [(40, .pointer (some ⟨B, 8, none⟩))], .val (.pointer (some ⟨B, 12, none⟩)) [(2, .pointer (some ⟨B, 0, none⟩))], .val (.agg (uc (limN 4 d))) [(42, .pointer (some ⟨B, 12, none⟩))], .val (.agg (uc (limN 4 t2))) [(41, .agg (uc (limN 4 c))), (43, .agg (uc (limN 4 d)))], .val (.agg (uc (limN 4 n))) [(6, .pointer (some ⟨g6, 0, none⟩))], .val (.agg (uc (limN 4 t))) [(44, .agg (uc (limN 4 t2))), (45, .agg (uc (limN 4 n)))], .fresh (.cells zeros4 36), .fresh (.cells zeros4 36)] (by kernel_rfl) (by kernel_rfl) rfl ?_ ?_ ?_
      · simp only [List.take_succ_cons, List.take_zero, headObl, specObl, HeadSpec.val, HeadSpec.fresh, and_true]
        refine ⟨?_, ?_, ?_, ?_, ?_, ?_, ?_, ?_, ?_, ?_, ?_, ?_, ?_, ?_, ?_, ?_⟩
        · intro act w hb h
          have e0 := h (2, .pointer (some ⟨B, 0, none⟩)) (by simp)
          simp only [Array.getD_eq_getD_getElem?] at e0
          simp [go_sem, e0, sQuiet]
        · intro act w hb h
          have e0 := h (33, .pointer (some ⟨B, 8, none⟩)) (by simp)
          exact sQuiet_load_num (.tmp 33) rfl (B) 8 e0 53 _ _ (0, 0) (blk_below hb (blk_lt HQ.out) HQ.out) (limN_length _ _) (rl_2 _ _ _ _)
        · intro act w hb h
          have e0 := h (2, .pointer (some ⟨B, 0, none⟩)) (by simp)
          simp only [Array.getD_eq_getD_getElem?] at e0
          simp [go_sem, e0, sQuiet]
        · intro act w hb h
          have e0 := h (35, .pointer (some ⟨B, 12, none⟩)) (by simp)
          exact sQuiet_load_num (.tmp 35) rfl (B) 12 e0 53 _ _ (0, 0) (blk_below hb (blk_lt HQ.out) HQ.out) (limN_length _ _) (rl_3 _ _ _ _)
        · intro act w hb h
          have e0 := h (34, .agg (uc (limN 4 c))) (by simp)
          have e1 := h (36, .agg (uc (limN 4 d))) (by simp)
          simp only [Array.getD_eq_getD_getElem?] at e0 e1
          simp [go_sem, e0, e1, sQuiet]
          exact C_t1.out w (HP.out.step hb)
        · intro act w hb h
          have e0 := h (5, .pointer (some ⟨g5, 0, none⟩)) (by simp)
          exact sQuiet_load_row 36 (.tmp 5) rfl (g5) e0 36 _ (0, 0) _ (blk_below hb (blk_lt H_g5.out) H_g5.out) Tryd.underlying36 rfl I_m.out
        · intro act w hb h
          have e0 := h (37, .agg (uc (limN 4 t1))) (by simp)
          have e1 := h (38, .agg (uc (limN 4 m))) (by simp)
          simp only [Array.getD_eq_getD_getElem?] at e0 e1
          simp [go_sem, e0, e1, sQuiet]
          exact C_s.out w (HP.out.step hb)
        · intro act w hb h
          have e0 := h (2, .pointer (some ⟨B, 0, none⟩)) (by simp)
          simp only [Array.getD_eq_getD_getElem?] at e0
          simp [go_sem, e0, sQuiet]
        · intro act w hb h
          have e0 := h (40, .pointer (some ⟨B, 8, none⟩)) (by simp)
          exact sQuiet_load_num (.tmp 40) rfl (B) 8 e0 53 _ _ (0, 0) (blk_below hb (blk_lt HQ.out) HQ.out) (limN_length _ _) (rl_2 _ _ _ _)
        · intro act w hb h
          have e0 := h (2, .pointer (some ⟨B, 0, none⟩)) (by simp)
          simp only [Array.getD_eq_getD_getElem?] at e0
          simp [go_sem, e0, sQuiet]
        · intro act w hb h
          have e0 := h (42, .pointer (some ⟨B, 12, none⟩)) (by simp)
          exact sQuiet_load_num (.tmp 42) rfl (B) 12 e0 53 _ _ (0, 0) (blk_below hb (blk_lt HQ.out) HQ.out) (limN_length _ _) (rl_3 _ _ _ _)
        · intro act w hb h
          have e0 := h (41, .agg (uc (limN 4 c))) (by simp)
          have e1 := h (43, .agg (uc (limN 4 d))) (by simp)
          simp only [Array.getD_eq_getD_getElem?] at e0 e1
          simp [go_sem, e0, e1, sQuiet]
          exact C_t2.out w (HP.out.step hb)
        · intro act w hb h
          have e0 := h (6, .pointer (some ⟨g6, 0, none⟩)) (by simp)
          exact sQuiet_load_row 36 (.tmp 6) rfl (g6) e0 36 _ (0, 0) _ (blk_below hb (blk_lt H_g6.out) H_g6.out) Tryd.underlying36 rfl I_n.out
        · intro act w hb h
          have e0 := h (44, .agg (uc (limN 4 t2))) (by simp)
          have e1 := h (45, .agg (uc (limN 4 n))) (by simp)
          simp only [Array.getD_eq_getD_getElem?] at e0 e1
          simp [go_sem, e0, e1, sQuiet]
          exact C_t.out w (HP.out.step hb)
        · intro act w hb
          simp [go_sem, hz]
        · intro act w hb
          simp [go_sem, hz]
      · simp [headReads, headPut, specV, HeadSpec.val, HeadSpec.fresh, Act.put]
      · simp only [List.take_succ_cons, List.take_zero, List.drop_succ_cons, List.drop_zero, headEnd, HeadSpec.val, HeadSpec.fresh, Act.put, List.setIfInBounds_toArray, List.set_cons_succ, List.set_cons_zero]
        intro g10 hg10 _ g11 hg11 hne v1 hv1 hgs
        have hne' : g10 ≠ g11 := hne (g10, .cells zeros4 36) (by simp)
        have N_g10 := Lib.hid (show v1.heap[g10]? = some (.cells zeros4 36) from hgs (g10, .cells zeros4 36) (by simp))
        have N_g11 := Lib.hid (show v1.heap[g11]? = some (.cells zeros4 36) from hgs (g11, .cells zeros4 36) (by simp))
        have N2 := Lib.hid (show (v1.setRow g10 (uc (limN 4 s))).heap[g11]? = some (.cells zeros4 36) from by rw [setRow_other _ _ _ _ (Ne.symm hne')]; exact N_g11.out)
        have k_g11 := Lib.hid (setRow_heap (v1.setRow g10 (uc (limN 4 s))) g11 _ (uc (limN 4 t)) _ _ N2.out)
        have k_g10 := Lib.hid (show ((v1.setRow g10 (uc (limN 4 s))).setRow g11 (uc (limN 4 t))).heap[g10]? = some (.cells (uc (limN 4 s)) 36) from by rw [setRow_other _ _ _ _ hne']; exact setRow_heap v1 g10 _ (uc (limN 4 s)) _ _ N_g10.out)
        have hk : Below W4.heap.size W4 ((v1.setRow g10 (uc (limN 4 s))).setRow g11 (uc (limN 4 t))) := below_setRow (below_setRow hv1 hg10 _) hg11 _
        have hb1 : Below B w ((v1.setRow g10 (uc (limN 4 s))).setRow g11 (uc (limN 4 t))) := hb.trans (hk.mono hB.out)
        have hP1 := Lib.hid (HP.out.step hk)
        have kHQ := Lib.hid (blk_below hk (blk_lt HQ.out) HQ.out)
        have kHX := Lib.hid (blk_below hk (blk_lt HX.out) HX.out)
        have kHR := Lib.hid (blk_below hk (blk_lt HR.out) HR.out)
        have kH_g5 := Lib.hid (blk_below hk (blk_lt H_g5.out) H_g5.out)
        have kH_g6 := Lib.hid (blk_below hk (blk_lt H_g6.out) H_g6.out)
        have kH_g7 := Lib.hid (blk_below hk (blk_lt H_g7.out) H_g7.out)
        have kH_g8 := Lib.hid (blk_below hk (blk_lt H_g8.out) H_g8.out)
        have kH_g9 := Lib.hid (blk_below hk (blk_lt H_g9.out) H_g9.out)
        have hB1 := Lib.hid (Nat.le_trans hB.out hk.size)
        have b_g10 := Lib.hid (Nat.le_trans hB.out hg10)
        have b_g11 := Lib.hid (Nat.le_trans hB.out hg11)
        clear HQ HX HR H_g5 H_g6 H_g7 H_g8 H_g9 hv1 hgs hb HP hB hk hne hne' hg10 hg11
        go_wp2_with (first | (with_reducible refine wpList_store_row rfl 36 _ _ rfl g10 (uc (limN 4 s)) rfl rfl 36 _ N_g10.out I_s.out Z_s.out O_s.out ?_) | (with_reducible refine wpList_store_row rfl 36 _ _ rfl g11 (uc (limN 4 t)) rfl rfl 36 _ N2.out I_t.out Z_t.out O_t.out ?_))
        generalize (World.setRow (World.setRow _ _ _) _ _) = W5 at *
        clear N_g10 N_g11 N2
        have HQ := kHQ
        have HX := kHX
        have HR := kHR
        have H_g5 := kH_g5
        have H_g6 := kH_g6
        have H_g7 := kH_g7
        have H_g8 := kH_g8
        have H_g9 := kH_g9
        have H_g10 := k_g10
        have H_g11 := k_g11
        have hb := hb1; have HP := hP1; have hB := hB1
        clear hb1 hP1 hB1 kHQ kHX kHR k_g10 k_g11 kH_g5 kH_g6 kH_g7 kH_g8 kH_g9
        try simp only [Act.put]
        refine wp_region_fresh 8 72 [.val (.agg (uc (limN 4 t))) [(11, .pointer (some ⟨g11, 0, none⟩))], .val (.agg (uc (limN 4 s))) [(10, .pointer (some ⟨g10, 0, none⟩))], .val (.agg (uc (limN 4 x))) [(47, .agg (uc (limN 4 t))), (48, .agg (uc (limN 4 s)))], .val (.agg (uc (limN 4 t))) [(11, .pointer (some ⟨g11, 0, none⟩))], .val (.agg (uc (limN 4 s))) [(10, .pointer (some ⟨g10, 0, none⟩))], .val (.agg (uc (limN 4 y))) [(50, .agg (uc (limN 4 t))), (51, .agg (uc (limN 4 s)))], .fresh (.cells zeros4 36), .fresh (.cells zeros4 36)] (by kernel_rfl) (by kernel_rfl) rfl ?_ ?_ ?_
        · simp only [List.take_succ_cons, List.take_zero, headObl, specObl, HeadSpec.val, HeadSpec.fresh, and_true]
          refine ⟨?_, ?_, ?_, ?_, ?_, ?_, ?_, ?_⟩
          · intro act w hb h
            have e0 := h (11, .pointer (some ⟨g11, 0, none⟩)) (by simp)
            exact sQuiet_load_row 36 (.tmp 11) rfl (g11) e0 36 _ (0, 0) _ (blk_below hb (blk_lt H_g11.out) H_g11.out) Tryd.underlying36 rfl I_t.out
          · intro act w hb h
            have e0 := h (10, .pointer (some ⟨g10, 0, none⟩)) (by simp)
            exact sQuiet_load_row 36 (.tmp 10) rfl (g10) e0 36 _ (0, 0) _ (blk_below hb (blk_lt H_g10.out) H_g10.out) Tryd.underlying36 rfl I_s.out
          · intro act w hb h
            have e0 := h (47, .agg (uc (limN 4 t))) (by simp)
            have e1 := h (48, .agg (uc (limN 4 s))) (by simp)
            simp only [Array.getD_eq_getD_getElem?] at e0 e1
            simp [go_sem, e0, e1, sQuiet]
            exact C_x.out w (HP.out.step hb)
          · intro act w hb h
            have e0 := h (11, .pointer (some ⟨g11, 0, none⟩)) (by simp)
            exact sQuiet_load_row 36 (.tmp 11) rfl (g11) e0 36 _ (0, 0) _ (blk_below hb (blk_lt H_g11.out) H_g11.out) Tryd.underlying36 rfl I_t.out
          · intro act w hb h
            have e0 := h (10, .pointer (some ⟨g10, 0, none⟩)) (by simp)
            exact sQuiet_load_row 36 (.tmp 10) rfl (g10) e0 36 _ (0, 0) _ (blk_below hb (blk_lt H_g10.out) H_g10.out) Tryd.underlying36 rfl I_s.out
          · intro act w hb h
            have e0 := h (50, .agg (uc (limN 4 t))) (by simp)
            have e1 := h (51, .agg (uc (limN 4 s))) (by simp)
            simp only [Array.getD_eq_getD_getElem?] at e0 e1
            simp [go_sem, e0, e1, sQuiet]
            exact C_y.out w (HP.out.step hb)
          · intro act w hb
            simp [go_sem, hz]
          · intro act w hb
            simp [go_sem, hz]
        · simp [headReads, headPut, specV, HeadSpec.val, HeadSpec.fresh, Act.put]
        · simp only [List.take_succ_cons, List.take_zero, List.drop_succ_cons, List.drop_zero, headEnd, HeadSpec.val, HeadSpec.fresh, Act.put, List.setIfInBounds_toArray, List.set_cons_succ, List.set_cons_zero]
          intro g12 hg12 _ g13 hg13 hne v1 hv1 hgs
          have hne' : g12 ≠ g13 := hne (g12, .cells zeros4 36) (by simp)
          have N_g12 := Lib.hid (show v1.heap[g12]? = some (.cells zeros4 36) from hgs (g12, .cells zeros4 36) (by simp))
          have N_g13 := Lib.hid (show v1.heap[g13]? = some (.cells zeros4 36) from hgs (g13, .cells zeros4 36) (by simp))
          have N2 := Lib.hid (show (v1.setRow g12 (uc (limN 4 x))).heap[g13]? = some (.cells zeros4 36) from by rw [setRow_other _ _ _ _ (Ne.symm hne')]; exact N_g13.out)
          have k_g13 := Lib.hid (setRow_heap (v1.setRow g12 (uc (limN 4 x))) g13 _ (uc (limN 4 y)) _ _ N2.out)
          have k_g12 := Lib.hid (show ((v1.setRow g12 (uc (limN 4 x))).setRow g13 (uc (limN 4 y))).heap[g12]? = some (.cells (uc (limN 4 x)) 36) from by rw [setRow_other _ _ _ _ hne']; exact setRow_heap v1 g12 _ (uc (limN 4 x)) _ _ N_g12.out)
          have hk : Below W5.heap.size W5 ((v1.setRow g12 (uc (limN 4 x))).setRow g13 (uc (limN 4 y))) := below_setRow (below_setRow hv1 hg12 _) hg13 _
          have hb1 : Below B w ((v1.setRow g12 (uc (limN 4 x))).setRow g13 (uc (limN 4 y))) := hb.trans (hk.mono hB.out)
          have hP1 := Lib.hid (HP.out.step hk)
          have kHQ := Lib.hid (blk_below hk (blk_lt HQ.out) HQ.out)
          have kHX := Lib.hid (blk_below hk (blk_lt HX.out) HX.out)
          have kHR := Lib.hid (blk_below hk (blk_lt HR.out) HR.out)
          have kH_g5 := Lib.hid (blk_below hk (blk_lt H_g5.out) H_g5.out)
          have kH_g6 := Lib.hid (blk_below hk (blk_lt H_g6.out) H_g6.out)
          have kH_g7 := Lib.hid (blk_below hk (blk_lt H_g7.out) H_g7.out)
          have kH_g8 := Lib.hid (blk_below hk (blk_lt H_g8.out) H_g8.out)
          have kH_g9 := Lib.hid (blk_below hk (blk_lt H_g9.out) H_g9.out)
          have kH_g10 := Lib.hid (blk_below hk (blk_lt H_g10.out) H_g10.out)
          have kH_g11 := Lib.hid (blk_below hk (blk_lt H_g11.out) H_g11.out)
          have hB1 := Lib.hid (Nat.le_trans hB.out hk.size)
          have b_g12 := Lib.hid (Nat.le_trans hB.out hg12)
          have b_g13 := Lib.hid (Nat.le_trans hB.out hg13)
          clear HQ HX HR H_g5 H_g6 H_g7 H_g8 H_g9 H_g10 H_g11 hv1 hgs hb HP hB hk hne hne' hg12 hg13
          go_wp2_with (first | (with_reducible refine wpList_store_row rfl 36 _ _ rfl g12 (uc (limN 4 x)) rfl rfl 36 _ N_g12.out I_x.out Z_x.out O_x.out ?_) | (with_reducible refine wpList_store_row rfl 36 _ _ rfl g13 (uc (limN 4 y)) rfl rfl 36 _ N2.out I_y.out Z_y.out O_y.out ?_))
          generalize (World.setRow (World.setRow _ _ _) _ _) = W6 at *
          clear N_g12 N_g13 N2
          have HQ := kHQ
          have HX := kHX
          have HR := kHR
          have H_g5 := kH_g5
          have H_g6 := kH_g6
          have H_g7 := kH_g7
          have H_g8 := kH_g8
          have H_g9 := kH_g9
          have H_g10 := kH_g10
          have H_g11 := kH_g11
          have H_g12 := k_g12
          have H_g13 := k_g13
          have hb := hb1; have HP := hP1; have hB := hB1
          clear hb1 hP1 hB1 kHQ kHX kHR k_g12 k_g13 kH_g5 kH_g6 kH_g7 kH_g8 kH_g9 kH_g10 kH_g11
          try simp only [Act.put]
          refine wp_region_fresh 19 72 [.val (.agg (uc (limN 4 o))) [(7, .pointer (some ⟨g7, 0, none⟩))], .val (.agg (uc (limN 4 q))) [(8, .pointer (some ⟨g8, 0, none⟩))], .val (.agg (uc (limN 4 a2))) [(53, .agg (uc (limN 4 o))), (54, .agg (uc (limN 4 q)))], .val (.agg (uc (limN 4 r))) [(9, .pointer (some ⟨g9, 0, none⟩))], .val (.agg (uc (limN 4 o))) [(7, .pointer (some ⟨g7, 0, none⟩))], .val (.agg (uc (limN 4 121665))) [], .val (.agg (uc (limN 4 r))) [(9, .pointer (some ⟨g9, 0, none⟩))], .val (.agg (uc (limN 4 z1))) [(58, .agg (uc (limN 4 121665))), (59, .agg (uc (limN 4 r)))], .val (.agg (uc (limN 4 z2))) [(57, .agg (uc (limN 4 o))), (60, .agg (uc (limN 4 z1)))], .val (.agg (uc (limN 4 b2))) [(56, .agg (uc (limN 4 r))), (61, .agg (uc (limN 4 z2)))], .val (.agg (uc (limN 4 x))) [(12, .pointer (some ⟨g12, 0, none⟩))], .val (.agg (uc (limN 4 x))) [(12, .pointer (some ⟨g12, 0, none⟩))], .val (.agg (uc (limN 4 c2))) [(63, .agg (uc (limN 4 x))), (64, .agg (uc (limN 4 x)))], .val (.agg (uc (limN 4 u))) [(3, .pointer (some ⟨B + 1, 0, none⟩))], .val (.agg (uc (limN 4 y))) [(13, .pointer (some ⟨g13, 0, none⟩))], .val (.agg (uc (limN 4 y))) [(13, .pointer (some ⟨g13, 0, none⟩))], .val (.agg (uc (limN 4 yy))) [(67, .agg (uc (limN 4 y))), (68, .agg (uc (limN 4 y)))], .val (.agg (uc (limN 4 d2))) [(66, .agg (uc (limN 4 u))), (69, .agg (uc (limN 4 yy)))], .val (.agg (uc (rl a2 b2 c2 d2))) [(55, .agg (uc (limN 4 a2))), (62, .agg (uc (limN 4 b2))), (65, .agg (uc (limN 4 c2))), (70, .agg (uc (limN 4 d2)))]] (by kernel_rfl) (by kernel_rfl) rfl ?_ ?_ ?_
          · simp only [List.take_succ_cons, List.take_zero, headObl, specObl, HeadSpec.val, HeadSpec.fresh, and_true]
            refine ⟨?_, ?_, ?_, ?_, ?_, ?_, ?_, ?_, ?_, ?_, ?_, ?_, ?_, ?_, ?_, ?_, ?_, ?_, ?_⟩
            · intro act w hb h
              have e0 := h (7, .pointer (some ⟨g7, 0, none⟩)) (by simp)
              exact sQuiet_load_row 36 (.tmp 7) rfl (g7) e0 36 _ (0, 0) _ (blk_below hb (blk_lt H_g7.out) H_g7.out) Tryd.underlying36 rfl I_o.out
            · intro act w hb h
              have e0 := h (8, .pointer (some ⟨g8, 0, none⟩)) (by simp)
              exact sQuiet_load_row 36 (.tmp 8) rfl (g8) e0 36 _ (0, 0) _ (blk_below hb (blk_lt H_g8.out) H_g8.out) Tryd.underlying36 rfl I_q.out
            · intro act w hb h
              have e0 := h (53, .agg (uc (limN 4 o))) (by simp)
              have e1 := h (54, .agg (uc (limN 4 q))) (by simp)
              simp only [Array.getD_eq_getD_getElem?] at e0 e1
              simp [go_sem, e0, e1, sQuiet]
              exact C_a2.out w (HP.out.step hb)
            · intro act w hb h
              have e0 := h (9, .pointer (some ⟨g9, 0, none⟩)) (by simp)
              exact sQuiet_load_row 36 (.tmp 9) rfl (g9) e0 36 _ (0, 0) _ (blk_below hb (blk_lt H_g9.out) H_g9.out) Tryd.underlying36 rfl I_r.out
            · intro act w hb h
              have e0 := h (7, .pointer (some ⟨g7, 0, none⟩)) (by simp)
              exact sQuiet_load_row 36 (.tmp 7) rfl (g7) e0 36 _ (0, 0) _ (blk_below hb (blk_lt H_g7.out) H_g7.out) Tryd.underlying36 rfl I_o.out
            · intro act w hb h
              simp [go_sem, sQuiet]
              exact C_k.out w
            · intro act w hb h
              have e0 := h (9, .pointer (some ⟨g9, 0, none⟩)) (by simp)
              exact sQuiet_load_row 36 (.tmp 9) rfl (g9) e0 36 _ (0, 0) _ (blk_below hb (blk_lt H_g9.out) H_g9.out) Tryd.underlying36 rfl I_r.out
            · intro act w hb h
              have e0 := h (58, .agg (uc (limN 4 121665))) (by simp)
              have e1 := h (59, .agg (uc (limN 4 r))) (by simp)
              simp only [Array.getD_eq_getD_getElem?] at e0 e1
              simp [go_sem, e0, e1, sQuiet]
              exact C_z1.out w (HP.out.step hb)
            · intro act w hb h
              have e0 := h (57, .agg (uc (limN 4 o))) (by simp)
              have e1 := h (60, .agg (uc (limN 4 z1))) (by simp)
              simp only [Array.getD_eq_getD_getElem?] at e0 e1
              simp [go_sem, e0, e1, sQuiet]
              exact C_z2.out w (HP.out.step hb)
            · intro act w hb h
              have e0 := h (56, .agg (uc (limN 4 r))) (by simp)
              have e1 := h (61, .agg (uc (limN 4 z2))) (by simp)
              simp only [Array.getD_eq_getD_getElem?] at e0 e1
              simp [go_sem, e0, e1, sQuiet]
              exact C_b2.out w (HP.out.step hb)
            · intro act w hb h
              have e0 := h (12, .pointer (some ⟨g12, 0, none⟩)) (by simp)
              exact sQuiet_load_row 36 (.tmp 12) rfl (g12) e0 36 _ (0, 0) _ (blk_below hb (blk_lt H_g12.out) H_g12.out) Tryd.underlying36 rfl I_x.out
            · intro act w hb h
              have e0 := h (12, .pointer (some ⟨g12, 0, none⟩)) (by simp)
              exact sQuiet_load_row 36 (.tmp 12) rfl (g12) e0 36 _ (0, 0) _ (blk_below hb (blk_lt H_g12.out) H_g12.out) Tryd.underlying36 rfl I_x.out
            · intro act w hb h
              have e0 := h (63, .agg (uc (limN 4 x))) (by simp)
              have e1 := h (64, .agg (uc (limN 4 x))) (by simp)
              simp only [Array.getD_eq_getD_getElem?] at e0 e1
              simp [go_sem, e0, e1, sQuiet]
              exact C_c2.out w (HP.out.step hb)
            · intro act w hb h
              have e0 := h (3, .pointer (some ⟨B + 1, 0, none⟩)) (by simp)
              exact sQuiet_load_row 36 (.tmp 3) rfl (B + 1) e0 36 _ (0, 0) _ (blk_below hb (blk_lt HX.out) HX.out) Tryd.underlying36 rfl I_u.out
            · intro act w hb h
              have e0 := h (13, .pointer (some ⟨g13, 0, none⟩)) (by simp)
              exact sQuiet_load_row 36 (.tmp 13) rfl (g13) e0 36 _ (0, 0) _ (blk_below hb (blk_lt H_g13.out) H_g13.out) Tryd.underlying36 rfl I_y.out
            · intro act w hb h
              have e0 := h (13, .pointer (some ⟨g13, 0, none⟩)) (by simp)
              exact sQuiet_load_row 36 (.tmp 13) rfl (g13) e0 36 _ (0, 0) _ (blk_below hb (blk_lt H_g13.out) H_g13.out) Tryd.underlying36 rfl I_y.out
            · intro act w hb h
              have e0 := h (67, .agg (uc (limN 4 y))) (by simp)
              have e1 := h (68, .agg (uc (limN 4 y))) (by simp)
              simp only [Array.getD_eq_getD_getElem?] at e0 e1
              simp [go_sem, e0, e1, sQuiet]
              exact C_yy.out w (HP.out.step hb)
            · intro act w hb h
              have e0 := h (66, .agg (uc (limN 4 u))) (by simp)
              have e1 := h (69, .agg (uc (limN 4 yy))) (by simp)
              simp only [Array.getD_eq_getD_getElem?] at e0 e1
              simp [go_sem, e0, e1, sQuiet]
              exact C_d2.out w (HP.out.step hb)
            · intro act w hb h
              have e0 := h (55, .agg (uc (limN 4 a2))) (by simp)
              have e1 := h (62, .agg (uc (limN 4 b2))) (by simp)
              have e2 := h (65, .agg (uc (limN 4 c2))) (by simp)
              have e3 := h (70, .agg (uc (limN 4 d2))) (by simp)
              exact sQuiet_build_rung (.tmp 55) (.tmp 62) (.tmp 65) (.tmp 70) rfl _ _ _ _ e0 e1 e2 e3
          · simp [headReads, headPut, specV, HeadSpec.val, HeadSpec.fresh, Act.put]
          · simp only [List.take_succ_cons, List.take_zero, List.drop_succ_cons, List.drop_zero, headEnd, HeadSpec.val, HeadSpec.fresh, Act.put, List.setIfInBounds_toArray, List.set_cons_succ, List.set_cons_zero]
            intro v1 hv1 hgs
            have HN := Lib.hid (blk_below hv1 (blk_lt HR.out) HR.out)
            have HNN := Lib.hid (setRow_heap v1 (B + 1 + 1) _ (uc (rl a2 b2 c2 d2)) _ _ HN.out)
            have hb2 : Below B w (v1.setRow (B + 1 + 1) (uc (rl a2 b2 c2 d2))) := below_setRow (hb.trans (hv1.mono hB.out)) (by omega) _
            clear hgs hv1 hb
            go_wp2_with (with_reducible refine wpList_store_row rfl 53 _ _ rfl (B + 1 + 1) (uc (rl a2 b2 c2 d2)) rfl rfl 53 _ HN.out (sizeR _ _ _ _) (zerosR_size _ _ _ _) (uc_one _) ?_)
            exact bodyPost_ret (v := .agg (uc (rl a2 b2 c2 d2))) (results_cell_row (by rfl) _ _ (B + 1 + 1) 53 _ (0, 0) _ rfl HNN.out Tryd.underlying53 rfl (sizeR _ _ _ _)) rfl ⟨rfl, by rw [HBB.out]; exact hb2⟩
end Go.Proofs.YtnodllkfmdhhlaaDoor
