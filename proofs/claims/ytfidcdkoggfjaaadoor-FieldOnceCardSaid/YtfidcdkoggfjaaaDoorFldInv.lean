/- The program's inverse, and its root of minus one. -/
import Derived.Test.YtfidcdkoggfjaaaDoorFldSmall
namespace Go.Proofs.YtfidcdkoggfjaaaDoor
open Go.RowKit Go.Sort
set_option maxRecDepth 100000
set_option linter.unusedSimpArgs false
set_option linter.unusedVariables false

theorem inv_eleven (x : Nat) (hx : x < pF) : mulF (powF x (2 ^ 2)) x = powF x 5 ∧ mulF (powF (powF x 5) (2 ^ 1)) x = powF x 11 := by
  have h1 : ∀ n, mulF (powF x n) x = powF x (n + 1) := fun n => by
    have := powF_mul x n 1
    rwa [powF_one x hx] at this
  exact ⟨h1 4, by rw [powF_pow, h1]⟩
theorem inv_done (x : Nat) : mulF (powF (onesF x 250) (2 ^ 5)) (powF x 11) = invF x := by
  rw [onesF, powF_pow, powF_mul, show (2 ^ 250 - 1) * 2 ^ 5 + 11 = pF - 2 by decide]
  rfl
theorem rmo_done : mulF (powF (onesF 2 250) (2 ^ 3)) 8 = powF 2 ((pF - 1) / 4) := by
  have h8 : powF 2 3 = 8 := by decide
  have := powF_mul 2 ((2 ^ 250 - 1) * 2 ^ 3) 3
  rw [h8, ← powF_pow] at this
  rw [onesF, this, show (2 ^ 250 - 1) * 2 ^ 3 + 3 = (pF - 1) / 4 by decide]

set_option maxHeartbeats 2000000 in
theorem invF_any (x : Nat) (w : World) (hx : x < pF) :
    Calls Tryd.prog 28 #[.agg (uc (limN 4 x))] w fun e w' => e = .returned (.agg (uc (limN 4 (invF x)))) ∧ Below w.heap.size w w' := by
  obtain ⟨hz, hi⟩ := zero_of_info infoF
  have H1 := Lib.hid (blk_old (o := .cells zeros4 26) (blk_new w (.cells (uc (limN 4 x)) 26)))
  have H2 := Lib.hid (blk_new2 w (.cells (uc (limN 4 x)) 26) (.cells zeros4 26))
  have hb := below_new2 w (.cells (uc (limN 4 x)) 26) (.cells zeros4 26)
  obtain ⟨e5, e11⟩ := inv_eleven x hx
  have S1 := Lib.hid (fun W => squared_any x 2 W hx (by omega))
  have M1 := Lib.hid (fun W => mulF_any (powF x (2 ^ 2)) x W (powF_lt _ _) hx)
  have S2 := Lib.hid (fun W => squared_any (powF x 5) 1 W (powF_lt _ _) (by omega))
  have M2 := Lib.hid (fun W => mulF_any (powF (powF x 5) (2 ^ 1)) x W (powF_lt _ _) hx)
  have C := Lib.hid (fun W => ones_any x W hx)
  have S3 := Lib.hid (fun W => squared_any (onesF x 250) 5 W (onesF_lt _ _) (by omega))
  have M3 := Lib.hid (fun W => mulF_any (powF (onesF x 250) (2 ^ 5)) (powF x 11) W (powF_lt _ _) (powF_lt _ _))
  rw [e5] at M1; rw [e11] at M2; rw [inv_done] at M3
  have I1 := Lib.hid (sizeF' x)
  have I11 := Lib.hid (sizeF' (powF x 11)); have Z11 := Lib.hid (zerosF_size (powF x 11)); have O11 := Lib.hid (uc_one (limN 4 (powF x 11)))
  have Ir := Lib.hid (sizeF' (invF x)); have Zr := Lib.hid (zerosF_size (invF x)); have Or := Lib.hid (uc_one (limN 4 (invF x)))
  clear hi hx e5 e11
  go_enter Tryd.func28, Tryd.ntmps28
  go_upto_region 1 with fail
  generalize ((w.alloc _).alloc _) = W0 at *
  generalize hBB : w.heap.size = B at *
  have HBB := Lib.hid hBB
  clear hBB
  generalize hr : invF x = r at *
  have HU := Lib.hid hr
  clear hr
  generalize powF (powF x 5) (2 ^ 1) = q2 at *
  generalize powF (onesF x 250) (2 ^ 5) = q3 at *
  generalize powF x 11 = u11 at *
  generalize powF x (2 ^ 2) = q1 at *
  generalize powF x 5 = u5 at *
  generalize onesF x 250 = u250 at *
  refine wp_region_fresh 8 16 [.val (.agg (uc (limN 4 x))) [(1, .pointer (some ⟨B, 0, none⟩))], .val (.agg (uc (limN 4 q1))) [(4, .agg (uc (limN 4 x)))], .val (.agg (uc (limN 4 x))) [(1, .pointer (some ⟨B, 0, none⟩))], .val (.agg (uc (limN 4 u5))) [(5, .agg (uc (limN 4 q1))), (6, .agg (uc (limN 4 x)))], .val (.agg (uc (limN 4 q2))) [(7, .agg (uc (limN 4 u5)))], .val (.agg (uc (limN 4 x))) [(1, .pointer (some ⟨B, 0, none⟩))], .val (.agg (uc (limN 4 u11))) [(8, .agg (uc (limN 4 q2))), (9, .agg (uc (limN 4 x)))], .fresh (.cells zeros4 26)] (by kernel_rfl) (by kernel_rfl) rfl ?_ ?_ ?_
  · simp only [List.take_succ_cons, List.take_zero, headObl, specObl, HeadSpec.val, HeadSpec.fresh, and_true]
    refine ⟨?_, ?_, ?_, ?_, ?_, ?_, ?_, ?_⟩
    · intro a w hb h
      have e0 := h (1, .pointer (some ⟨B, 0, none⟩)) (by simp)
      exact sQuiet_load_row 26 (.tmp 1) rfl B e0 26 _ (0, 0) _ (blk_below hb (blk_lt H1.out) H1.out) Tryd.underlying26 rfl I1.out
    · intro a w hb h
      have e0 := h (4, .agg (uc (limN 4 x))) (by simp)
      simp only [Array.getD_eq_getD_getElem?] at e0
      simp [go_sem, e0, sQuiet]
      exact S1.out w
    · intro a w hb h
      have e0 := h (1, .pointer (some ⟨B, 0, none⟩)) (by simp)
      exact sQuiet_load_row 26 (.tmp 1) rfl B e0 26 _ (0, 0) _ (blk_below hb (blk_lt H1.out) H1.out) Tryd.underlying26 rfl I1.out
    · intro a w hb h
      have e0 := h (5, .agg (uc (limN 4 q1))) (by simp)
      have e1 := h (6, .agg (uc (limN 4 x))) (by simp)
      simp only [Array.getD_eq_getD_getElem?] at e0 e1
      simp [go_sem, e0, e1, sQuiet]
      exact M1.out w
    · intro a w hb h
      have e0 := h (7, .agg (uc (limN 4 u5))) (by simp)
      simp only [Array.getD_eq_getD_getElem?] at e0
      simp [go_sem, e0, sQuiet]
      exact S2.out w
    · intro a w hb h
      have e0 := h (1, .pointer (some ⟨B, 0, none⟩)) (by simp)
      exact sQuiet_load_row 26 (.tmp 1) rfl B e0 26 _ (0, 0) _ (blk_below hb (blk_lt H1.out) H1.out) Tryd.underlying26 rfl I1.out
    · intro a w hb h
      have e0 := h (8, .agg (uc (limN 4 q2))) (by simp)
      have e1 := h (9, .agg (uc (limN 4 x))) (by simp)
      simp only [Array.getD_eq_getD_getElem?] at e0 e1
      simp [go_sem, e0, e1, sQuiet]
      exact M2.out w
    · intro a w hb
      simp [go_sem, hz]
  · simp [headReads, headPut, specV, HeadSpec.val, HeadSpec.fresh, Act.put]
  · simp only [List.take_succ_cons, List.take_zero, List.drop_succ_cons, List.drop_zero, headEnd, HeadSpec.val, HeadSpec.fresh, Act.put, List.setIfInBounds_toArray, List.set_cons_succ, List.set_cons_zero]
    intro g3 hgg3 _ v1 hv1 hgs
    have HN := Lib.hid (show v1.heap[g3]? = some (.cells zeros4 26) from hgs (g3, .cells zeros4 26) (by simp))
    have hb1 : Below B w v1 := hb.trans (hv1.mono (by have := blk_lt H1.out; omega))
    have HNN := Lib.hid (setRow_heap v1 (g3) _ (uc (limN 4 u11)) _ _ HN.out)
    have kH1 : Hid ((v1.setRow (g3) (uc (limN 4 u11))).heap[B]? = some (.cells (uc (limN 4 x)) 26)) := Lib.hid (by rw [setRow_other _ _ _ _ (by have := blk_lt H1.out; omega)]; exact blk_below hv1 (blk_lt H1.out) H1.out)
    have kH2 : Hid ((v1.setRow (g3) (uc (limN 4 u11))).heap[B + 1]? = some (.cells zeros4 26)) := Lib.hid (by rw [setRow_other _ _ _ _ (by have := blk_lt H2.out; omega)]; exact blk_below hv1 (blk_lt H2.out) H2.out)
    have hb2 : Below B w (v1.setRow (g3) (uc (limN 4 u11))) := below_setRow hb1 (by have := blk_lt H1.out; omega) _
    clear H1 H2 hb1 hv1 hgs hb
    go_wp2_with (with_reducible refine wpList_store_row rfl 26 _ _ rfl (g3) (uc (limN 4 u11)) rfl rfl 26 _ HN.out I11.out Z11.out O11.out ?_)
    generalize World.setRow _ _ _ = W1 at *
    have H1 := kH1
    have H2 := kH2
    have H3 := HNN
    have hb := hb2
    clear kH1 kH2 HNN HN hb2 S1 M1 S2 M2
    try simp only [Act.put]
    refine wp_region_fresh 5 16 [.val (.agg (uc (limN 4 x))) [(1, .pointer (some ⟨B, 0, none⟩))], .val (.agg (uc (limN 4 u250))) [(11, .agg (uc (limN 4 x)))], .val (.agg (uc (limN 4 q3))) [(12, .agg (uc (limN 4 u250)))], .val (.agg (uc (limN 4 u11))) [(3, .pointer (some ⟨g3, 0, none⟩))], .val (.agg (uc (limN 4 r))) [(13, .agg (uc (limN 4 q3))), (14, .agg (uc (limN 4 u11)))]] (by kernel_rfl) (by kernel_rfl) rfl ?_ ?_ ?_
    · simp only [List.take_succ_cons, List.take_zero, headObl, specObl, HeadSpec.val, HeadSpec.fresh, and_true]
      refine ⟨?_, ?_, ?_, ?_, ?_⟩
      · intro a w hb h
        have e0 := h (1, .pointer (some ⟨B, 0, none⟩)) (by simp)
        exact sQuiet_load_row 26 (.tmp 1) rfl B e0 26 _ (0, 0) _ (blk_below hb (blk_lt H1.out) H1.out) Tryd.underlying26 rfl I1.out
      · intro a w hb h
        have e0 := h (11, .agg (uc (limN 4 x))) (by simp)
        simp only [Array.getD_eq_getD_getElem?] at e0
        simp [go_sem, e0, sQuiet]
        exact C.out w
      · intro a w hb h
        have e0 := h (12, .agg (uc (limN 4 u250))) (by simp)
        simp only [Array.getD_eq_getD_getElem?] at e0
        simp [go_sem, e0, sQuiet]
        exact S3.out w
      · intro a w hb h
        have e0 := h (3, .pointer (some ⟨g3, 0, none⟩)) (by simp)
        exact sQuiet_load_row 26 (.tmp 3) rfl g3 e0 26 _ (0, 0) _ (blk_below hb (blk_lt H3.out) H3.out) Tryd.underlying26 rfl I11.out
      · intro a w hb h
        have e0 := h (13, .agg (uc (limN 4 q3))) (by simp)
        have e1 := h (14, .agg (uc (limN 4 u11))) (by simp)
        simp only [Array.getD_eq_getD_getElem?] at e0 e1
        simp [go_sem, e0, e1, sQuiet]
        exact M3.out w
    · simp [headReads, headPut, specV, HeadSpec.val, HeadSpec.fresh, Act.put]
    · simp only [List.take_succ_cons, List.take_zero, List.drop_succ_cons, List.drop_zero, headEnd, HeadSpec.val, HeadSpec.fresh, Act.put, List.setIfInBounds_toArray, List.set_cons_succ, List.set_cons_zero]
      intro v1 hv1 hgs
      have HN := Lib.hid (blk_below hv1 (blk_lt H2.out) H2.out)
      have hb1 : Below B w v1 := hb.trans (hv1.mono (by have := blk_lt H1.out; omega))
      have HNN := Lib.hid (setRow_heap v1 (B + 1) _ (uc (limN 4 r)) _ _ HN.out)
      have kH1 : Hid ((v1.setRow (B + 1) (uc (limN 4 r))).heap[B]? = some (.cells (uc (limN 4 x)) 26)) := Lib.hid (by rw [setRow_other _ _ _ _ (by have := blk_lt H1.out; omega)]; exact blk_below hv1 (blk_lt H1.out) H1.out)
      have hb2 : Below B w (v1.setRow (B + 1) (uc (limN 4 r))) := below_setRow hb1 (by omega) _
      clear H1 hb1 hv1 hgs hb
      go_wp2_with (with_reducible refine wpList_store_row rfl 26 _ _ rfl (B + 1) (uc (limN 4 r)) rfl rfl 26 _ HN.out Ir.out Zr.out Or.out ?_)
      exact bodyPost_ret (v := .agg (uc (limN 4 r))) (results_cell_row (by rfl) _ _ (B + 1) 26 _ (0, 0) _ rfl HNN.out Tryd.underlying26 rfl Ir.out) rfl ⟨by rw [HU.out], by rw [HBB.out]; exact hb2⟩

set_option maxHeartbeats 1000000 in
theorem rmo_any (w : World) :
    Calls Tryd.prog 44 #[] w fun e w' => e = .returned (.agg (uc (limN 4 (powF 2 ((pF - 1) / 4))))) ∧ Below w.heap.size w w' := by
  obtain ⟨hz, hi⟩ := zero_of_info infoF
  have h2 : 2 < pF := by decide
  have h8 : 8 < pF := by decide
  have HR0 := Lib.hid (blk_new w (.cells zeros4 26))
  have hb0 := below_new w (.cells zeros4 26)
  have C1 := Lib.hid (fun W => smallPos_any 2 W (by omega))
  have C2 := Lib.hid (fun W => ones_any 2 W h2)
  have C3 := Lib.hid (fun W => squared_any (onesF 2 250) 3 W (onesF_lt _ _) (by omega))
  have C4 := Lib.hid (fun W => smallPos_any 8 W (by omega))
  have C5 := Lib.hid (fun W => mulF_any (powF (onesF 2 250) (2 ^ 3)) 8 W (powF_lt _ _) h8)
  rw [rmo_done] at C5
  generalize hr : powF 2 ((pF - 1) / 4) = r at *
  have HU := Lib.hid hr
  have Ir := Lib.hid (sizeF' r); have Zr := Lib.hid (zerosF_size r); have Or := Lib.hid (uc_one (limN 4 r))
  generalize powF (onesF 2 250) (2 ^ 3) = q at *
  generalize onesF 2 250 = u at *
  generalize limN 4 2 = l2 at *
  generalize limN 4 8 = l8 at *
  clear hi hr h2 h8
  go_enter Tryd.func44, Tryd.ntmps44
  go_upto_region 1 with fail
  clear hz
  generalize (w.alloc _) = W0 at *
  generalize hBB : w.heap.size = B at *
  have HBB := Lib.hid hBB
  clear hBB
  go_wp2_with fail
  refine (C1.out W0).mono ?_
  rintro e W1 ⟨rfl, h1⟩
  go_wp2_with fail
  refine (C2.out W1).mono ?_
  rintro e W2 ⟨rfl, h2⟩
  go_wp2_with fail
  refine (C3.out W2).mono ?_
  rintro e W3 ⟨rfl, h3⟩
  go_wp2_with fail
  refine (C4.out W3).mono ?_
  rintro e W4 ⟨rfl, h4⟩
  go_wp2_with fail
  refine (C5.out W4).mono ?_
  rintro e W5 ⟨rfl, h5⟩
  have t2 := h1.trans (h2.mono h1.size)
  have t3 := t2.trans (h3.mono t2.size)
  have t4 := t3.trans (h4.mono t3.size)
  have t5 := t4.trans (h5.mono t4.size)
  have HR1 := Lib.hid (blk_below t5 (blk_lt HR0.out) HR0.out)
  have hb1 : Below B w W5 := hb0.trans (t5.mono (by have := blk_lt HR0.out; omega))
  clear h1 h2 h3 h4 h5 t2 t3 t4 t5 C1 C2 C3 C4 C5
  go_wp2_with (with_reducible refine wpList_store_row rfl 26 _ _ rfl B (uc (limN 4 r)) rfl rfl 26 _ HR1.out Ir.out Zr.out Or.out ?_)
  exact bodyPost_ret (v := .agg (uc (limN 4 r))) (results_cell_row (by rfl) _ _ B 26 _ (0, 0) _ rfl (setRow_heap _ _ _ _ _ _ HR1.out) Tryd.underlying26 rfl Ir.out) rfl ⟨rfl, by rw [HBB.out]; exact below_setRow hb1 (Nat.le_refl _) _⟩
end Go.Proofs.YtfidcdkoggfjaaaDoor
