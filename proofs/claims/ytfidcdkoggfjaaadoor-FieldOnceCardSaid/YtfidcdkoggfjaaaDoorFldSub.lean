/- The program's difference: the prime lies in its variable. -/
import Derived.Test.YtfidcdkoggfjaaaDoorFldOnes
import Derived.Test.YtfidcdkoggfjaaaDoorFldMinus
namespace Go.Proofs.YtfidcdkoggfjaaaDoor
open Go.RowKit Go.Sort
set_option maxRecDepth 100000
set_option linter.unusedSimpArgs false
set_option linter.unusedVariables false

/-- The prime lies in its variable. -/
def PrmQ (w : World) : Prop := ∃ T fr, w.heap[0]? = some (.cells (uc (limN 4 pF)) T fr)
theorem PrmQ.lt {w : World} (h : PrmQ w) : 0 < w.heap.size := by
  obtain ⟨T, fr, h⟩ := h
  exact blk_lt h
theorem PrmQ.below {w w' : World} {B : Nat} (h : PrmQ w) (hb : Below B w w') (hB : 0 < B) : PrmQ w' := by
  obtain ⟨T, fr, h⟩ := h
  exact ⟨T, fr, (hb.block _ hB).trans h⟩
theorem PrmQ.step {w w' : World} (h : PrmQ w) (hb : Below w.heap.size w w') : PrmQ w' := h.below hb h.lt
theorem sub_fits (x y : Nat) (hx : x < pF) (hy : y < pF) : x + pF - y < mF ∧ y ≤ x + pF ∧ (x + pF - y + 0 * mF) % pF = subF x y := by
  have := mF_pF
  refine ⟨by omega, by omega, ?_⟩
  rw [subF, Nat.zero_mul, Nat.add_zero, show x + pF - y = x + (pF - y) by omega]

set_option maxHeartbeats 2000000 in
theorem subF_any (x y : Nat) (w : World) (hx : x < pF) (hy : y < pF) (hT : PrmQ w) :
    Calls Tryd.prog 24 #[.agg (uc (limN 4 x)), .agg (uc (limN 4 y))] w fun e w' => e = .returned (.agg (uc (limN 4 (subF x y)))) ∧ Below w.heap.size w w' := by
  obtain ⟨hz, hi⟩ := zero_of_info infoF
  have hTl := hT.lt
  have hb := below_new3 w (.cells (uc (limN 4 x)) 26) (.cells (uc (limN 4 y)) 26) (.cells zeros4 26)
  have HP := Lib.hid (hT.step hb)
  have H2 := Lib.hid (blk_old (o := .cells zeros4 26) (blk_old (o := .cells (uc (limN 4 y)) 26) (blk_new w (.cells (uc (limN 4 x)) 26))))
  have H3 := Lib.hid (blk_old (o := .cells zeros4 26) (blk_new2 w (.cells (uc (limN 4 x)) 26) (.cells (uc (limN 4 y)) 26)))
  have H4 := Lib.hid (blk_new3 w (.cells (uc (limN 4 x)) 26) (.cells (uc (limN 4 y)) 26) (.cells zeros4 26))
  have Ix := Lib.hid (sizeL (limN 4 x) (limN_length _ _))
  have Iy := Lib.hid (sizeL (limN 4 y) (limN_length _ _))
  have Ip := Lib.hid (sizeL (limN 4 pF) (limN_length _ _))
  have Ir := Lib.hid (sizeF' (subF x y)); have Zr := Lib.hid (zerosF_size (subF x y)); have Or := Lib.hid (uc_one (limN 4 (subF x y)))
  obtain ⟨f1, f2, f3⟩ := sub_fits x y hx hy
  have C1 := Lib.hid (fun W => plusL_any x pF W)
  have C2 := Lib.hid (fun W => minusL_any (x + pF) y W f2)
  have C3 := Lib.hid (fun W => reduced_any (x + pF - y) 0 W f1 (by omega))
  rw [f3] at C3
  clear hi hx hy f1 f2 f3 hT
  go_enter Tryd.func24, Tryd.ntmps24
  go_upto_region 1 with fail
  clear hz
  generalize (((w.alloc _).alloc _).alloc _) = W0 at *
  generalize hBB : w.heap.size = B at *
  have HBB := Lib.hid hBB
  clear hBB
  generalize x + pF - y = d at *
  generalize x + pF = s at *
  generalize hr : subF x y = r at *
  have HRr := Lib.hid hr
  clear hr
  obtain ⟨TP, fr, hP⟩ := HP.out
  have HPr := Lib.hid hP
  clear HP hP
  generalize limN 4 pF = P at *
  refine wp_region_fresh 8 13 [.val (.pointer (some ⟨B, 0, none⟩)) [(2, .pointer (some ⟨B, 0, none⟩))], .val (.agg (uc (limN 4 x))) [(5, .pointer (some ⟨B, 0, none⟩))], .val (.agg (uc P)) [], .val (.agg (uc (limN 4 s))) [(6, .agg (uc (limN 4 x))), (7, .agg (uc P))],
    .val (.pointer (some ⟨B + 1, 0, none⟩)) [(3, .pointer (some ⟨B + 1, 0, none⟩))], .val (.agg (uc (limN 4 y))) [(9, .pointer (some ⟨B + 1, 0, none⟩))], .val (.agg (uc (limN 4 d))) [(8, .agg (uc (limN 4 s))), (10, .agg (uc (limN 4 y)))], .val (.agg (uc (limN 4 r))) [(11, .agg (uc (limN 4 d)))]]
    (by kernel_rfl) (by kernel_rfl) rfl ?_ ?_ ?_
  · simp only [List.take_succ_cons, List.take_zero, headObl, specObl, HeadSpec.val, HeadSpec.fresh, and_true]
    refine ⟨?_, ?_, ?_, ?_, ?_, ?_, ?_, ?_⟩
    · intro a w hb h
      have e0 := h (2, .pointer (some ⟨B, 0, none⟩)) (by simp)
      simp only [Array.getD_eq_getD_getElem?] at e0
      simp [go_sem, e0, sQuiet]
    · intro a w hb h
      have e0 := h (5, .pointer (some ⟨B, 0, none⟩)) (by simp)
      exact sQuiet_load_row 24 (.tmp 5) rfl B e0 26 _ (0, 0) _ (blk_below hb (blk_lt H2.out) H2.out) Tryd.underlying24 rfl Ix.out
    · intro a w hb h
      exact sQuiet_load_row 24 (.global 0) rfl 0 rfl TP _ fr _ (blk_below hb (blk_lt HPr.out) HPr.out) Tryd.underlying24 rfl Ip.out
    · intro a w hb h
      have e0 := h (6, .agg (uc (limN 4 x))) (by simp)
      have e1 := h (7, .agg (uc P)) (by simp)
      simp only [Array.getD_eq_getD_getElem?] at e0 e1
      simp [go_sem, e0, e1, sQuiet]
      exact C1.out w
    · intro a w hb h
      have e0 := h (3, .pointer (some ⟨B + 1, 0, none⟩)) (by simp)
      simp only [Array.getD_eq_getD_getElem?] at e0
      simp [go_sem, e0, sQuiet]
    · intro a w hb h
      have e0 := h (9, .pointer (some ⟨B + 1, 0, none⟩)) (by simp)
      exact sQuiet_load_row 24 (.tmp 9) rfl (B + 1) e0 26 _ (0, 0) _ (blk_below hb (blk_lt H3.out) H3.out) Tryd.underlying24 rfl Iy.out
    · intro a w hb h
      have e0 := h (8, .agg (uc (limN 4 s))) (by simp)
      have e1 := h (10, .agg (uc (limN 4 y))) (by simp)
      simp only [Array.getD_eq_getD_getElem?] at e0 e1
      simp [go_sem, e0, e1, sQuiet]
      exact C2.out w
    · intro a w hb h
      have e0 := h (11, .agg (uc (limN 4 d))) (by simp)
      simp only [Array.getD_eq_getD_getElem?] at e0
      simp [go_sem, e0, sQuiet]
      exact C3.out w
  · simp [headReads, headPut, specV, HeadSpec.val, HeadSpec.fresh, Act.put]
  · simp only [List.take_succ_cons, List.take_zero, List.drop_succ_cons, List.drop_zero, headEnd, HeadSpec.val, HeadSpec.fresh, Act.put, List.setIfInBounds_toArray, List.set_cons_succ, List.set_cons_zero]
    intro v1 hv1 hgs
    have HN := Lib.hid (blk_below hv1 (blk_lt H4.out) H4.out)
    have hb1 : Below B w v1 := hb.trans (hv1.mono (by have := blk_lt H4.out; omega))
    have HNN := Lib.hid (setRow_heap v1 (B + 1 + 1) _ (uc (limN 4 r)) _ _ HN.out)
    have hb2 : Below B w (v1.setRow (B + 1 + 1) (uc (limN 4 r))) := below_setRow hb1 (by omega) _
    clear H2 H3 H4 hb1 hv1 hgs hb
    go_wp2_with (with_reducible refine wpList_store_row rfl 26 _ _ rfl (B + 1 + 1) (uc (limN 4 r)) rfl rfl 26 _ HN.out Ir.out Zr.out Or.out ?_)
    exact bodyPost_ret (v := .agg (uc (limN 4 r))) (results_cell_row (by rfl) _ _ (B + 1 + 1) 26 _ (0, 0) _ rfl HNN.out Tryd.underlying26 rfl Ir.out) rfl ⟨by rw [HRr.out], by rw [HBB.out]; exact hb2⟩
end Go.Proofs.YtfidcdkoggfjaaaDoor
