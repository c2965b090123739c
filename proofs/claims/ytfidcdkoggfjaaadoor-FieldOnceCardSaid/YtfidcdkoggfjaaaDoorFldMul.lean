/- The program's sum and product of numbers, and the squares. -/
import Derived.Test.YtfidcdkoggfjaaaDoorFldRed
import Derived.Test.YtfidcdkoggfjaaaDoorFldPt
namespace Go.Proofs.YtfidcdkoggfjaaaDoor
open Go.RowKit Go.Sort
set_option maxRecDepth 100000
set_option linter.unusedSimpArgs false
set_option linter.unusedVariables false

theorem pF_lt_mF : pF < mF := by decide
theorem add_fits (x y : Nat) (hx : x < pF) (hy : y < pF) : x + y < mF := by rw [mF_pF]; omega

set_option maxHeartbeats 1000000 in
theorem addF_any (x y : Nat) (w : World) (hx : x < pF) (hy : y < pF) :
    Calls Tryd.prog 22 #[.agg (uc (limN 4 x)), .agg (uc (limN 4 y))] w fun e w' => e = .returned (.agg (uc (limN 4 (addF x y)))) ∧ Below w.heap.size w w' := by
  obtain ⟨hz, hi⟩ := zero_of_info infoF
  have HG0 := Lib.hid (blk_old (o := .cells zeros4 26) (blk_old (o := .cells (uc (limN 4 y)) 26) (blk_new w (.cells (uc (limN 4 x)) 26))))
  have HD0 := Lib.hid (blk_old (o := .cells zeros4 26) (blk_new2 w (.cells (uc (limN 4 x)) 26) (.cells (uc (limN 4 y)) 26)))
  have HR0 := Lib.hid (blk_new3 w (.cells (uc (limN 4 x)) 26) (.cells (uc (limN 4 y)) 26) (.cells zeros4 26))
  have hb0 := below_new3 w (.cells (uc (limN 4 x)) 26) (.cells (uc (limN 4 y)) 26) (.cells zeros4 26)
  have HIx := Lib.hid (sizeL (limN 4 x) (limN_length _ _))
  have HIy := Lib.hid (sizeL (limN 4 y) (limN_length _ _))
  have HIr := Lib.hid (sizeF (limN 4 (addF x y)) (limN_length _ _))
  have HZr := Lib.hid (show zeros4.size = (uc (limN 4 (addF x y))).size by rw [uc_size, limN_length]; exact uc_size _)
  have H1r := Lib.hid (uc_one (limN 4 (addF x y)))
  have HC1 := Lib.hid (fun W => plusL_any x y W)
  have HC2 := Lib.hid (fun W => reduced_any (x + y) 0 W (add_fits x y hx hy) (by omega))
  rw [Nat.zero_mul, Nat.add_zero, show (x + y) % pF = addF x y from rfl] at HC2
  clear hi hx hy
  go_enter Tryd.func22, Tryd.ntmps22
  go_upto_region 1 with fail
  clear hz
  generalize (((w.alloc _).alloc _).alloc _) = W0 at *
  generalize hBB : w.heap.size = B at *
  have HBB := Lib.hid hBB
  clear hBB
  generalize hr : addF x y = r at *
  have HRr := Lib.hid hr
  clear hr
  go_wp2_with (first
    | (with_reducible refine wpList_load_row rfl 24 _ rfl B rfl 26 _ (0, 0) _ HG0.out Tryd.underlying24 rfl HIx.out ?_)
    | (with_reducible refine wpList_load_row rfl 24 _ rfl (B + 1) rfl 26 _ (0, 0) _ HD0.out Tryd.underlying24 rfl HIy.out ?_))
  refine (HC1.out W0).mono ?_
  rintro e W1 ⟨rfl, h1⟩
  go_wp2_with fail
  refine (HC2.out W1).mono ?_
  rintro e W2 ⟨rfl, h2⟩
  have h12 := h1.trans (h2.mono h1.size)
  have HR2 := Lib.hid (blk_below h12 (blk_lt HR0.out) HR0.out)
  have hb2 : Below B w W2 := hb0.trans (h12.mono (by have := blk_lt HR0.out; omega))
  clear HC1 HC2 h1 h2 h12 hb0 HG0 HD0 HR0
  go_wp2_with (with_reducible refine wpList_store_row rfl 26 _ _ rfl (B + 1 + 1) (uc (limN 4 r)) rfl rfl 26 _ HR2.out HIr.out HZr.out H1r.out ?_)
  exact bodyPost_ret (v := .agg (uc (limN 4 r))) (results_cell_row (by rfl) _ _ (B + 1 + 1) 26 _ (0, 0) _ rfl (setRow_heap _ _ _ _ _ _ HR2.out) Tryd.underlying26 rfl HIr.out) rfl ⟨by rw [HRr.out], by rw [HBB.out]; exact below_setRow hb2 (by omega) _⟩
/-- The product's parts. -/
def mulV (x y : Nat) : Nat := x * y % mF + x * y / mF * 38
theorem mulV_over (x y : Nat) (hx : x < pF) (hy : y < pF) : cyN (x * y % mF) (x * y / mF) 38 4 = mulV x y / mF ∧ mulV x y / mF ≤ 38 := by
  have h0 : 0 < mF := by decide
  have h1 : x * y % mF < mF := Nat.mod_lt _ h0
  have h2 : x * y / mF < mF := by
    apply Nat.div_lt_of_lt_mul
    exact Nat.mul_lt_mul'' (Nat.lt_trans hx pF_lt_mF) (Nat.lt_trans hy pF_lt_mF)
  refine ⟨by rw [cyN_last _ _ _ _ (by rw [bw4_mF]; exact h1) (by rw [bw4_mF]; exact h2), bw4_mF]; rfl, ?_⟩
  rw [mulV]
  have : (x * y % mF + x * y / mF * 38) / mF < 39 := Nat.div_lt_of_lt_mul (by omega)
  omega
theorem mulV_mod (x y : Nat) : (mulV x y % mF + mulV x y / mF * mF) % pF = mulF x y := by
  have : mulV x y % mF + mulV x y / mF * mF = mulV x y := by rw [Nat.mul_comm]; exact Nat.mod_add_div _ _
  rw [this, mulV, Nat.mul_comm _ 38]
  exact mul_parts x y

set_option maxHeartbeats 2000000 in
theorem mulF_any (x y : Nat) (w : World) (hx : x < pF) (hy : y < pF) :
    Calls Tryd.prog 26 #[.agg (uc (limN 4 x)), .agg (uc (limN 4 y))] w fun e w' => e = .returned (.agg (uc (limN 4 (mulF x y)))) ∧ Below w.heap.size w w' := by
  obtain ⟨hz, hi⟩ := zero_of_info infoF
  obtain ⟨hzl, hil⟩ := zero_of_info infoL
  have HG0 := Lib.hid (blk_old (o := .cells zeros4 26) (blk_old (o := .cells (uc (limN 4 y)) 26) (blk_new w (.cells (uc (limN 4 x)) 26))))
  have HD0 := Lib.hid (blk_old (o := .cells zeros4 26) (blk_new2 w (.cells (uc (limN 4 x)) 26) (.cells (uc (limN 4 y)) 26)))
  have HR0 := Lib.hid (blk_new3 w (.cells (uc (limN 4 x)) 26) (.cells (uc (limN 4 y)) 26) (.cells zeros4 26))
  have hb0 := below_new3 w (.cells (uc (limN 4 x)) 26) (.cells (uc (limN 4 y)) 26) (.cells zeros4 26)
  have HIx := Lib.hid (sizeL (limN 4 x) (limN_length _ _))
  have HIy := Lib.hid (sizeL (limN 4 y) (limN_length _ _))
  have HIr := Lib.hid (sizeF (limN 4 (mulF x y)) (limN_length _ _))
  have HZr := Lib.hid (show zeros4.size = (uc (limN 4 (mulF x y))).size by rw [uc_size, limN_length]; exact uc_size _)
  have H1r := Lib.hid (uc_one (limN 4 (mulF x y)))
  obtain ⟨o1, o2⟩ := mulV_over x y hx hy
  have HC1 := Lib.hid (fun W => timesL_any x y W (by rw [bw4_mF]; exact Nat.lt_trans hx pF_lt_mF) (by rw [bw4_mF]; exact Nat.lt_trans hy pF_lt_mF))
  have HC2 := Lib.hid (fun W => plusT_any (x * y % mF) (x * y / mF) 38 W (by omega))
  rw [o1, show x * y % mF + x * y / mF * 38 = mulV x y from rfl, ← limN_mod (mulV x y)] at HC2
  have HC3 := Lib.hid (fun W => reduced_any (mulV x y % mF) (mulV x y / mF) W (Nat.mod_lt _ (by decide)) o2)
  rw [mulV_mod] at HC3
  have hl0 := limN_length 4 (x * y % mF); have hl1 := limN_length 4 (x * y / mF)
  clear hi hil hx hy o1
  go_enter Tryd.func26, Tryd.ntmps26
  go_upto_region 1 with fail
  clear hz
  generalize (((w.alloc _).alloc _).alloc _) = W0 at *
  generalize hBB : w.heap.size = B at *
  have HBB := Lib.hid hBB
  clear hBB
  generalize hr : mulF x y = r at *
  have HRr := Lib.hid hr
  generalize limN 4 (x * y % mF) = lo at *
  generalize limN 4 (x * y / mF) = hi at *
  generalize limN 4 (mulV x y % mF) = m at *
  generalize mulV x y / mF = o at *
  clear hr
  have HI0 := Lib.hid (sizeL lo hl0); have HI1 := Lib.hid (sizeL hi hl1)
  have HZ0 := Lib.hid (zeros4_size lo hl0); have HZ1 := Lib.hid (zeros4_size hi hl1)
  have H0 := Lib.hid (uc_one lo); have H1 := Lib.hid (uc_one hi)
  go_wp2_with (first
    | (with_reducible refine wpList_load_row rfl 24 _ rfl B rfl 26 _ (0, 0) _ HG0.out Tryd.underlying24 rfl HIx.out ?_)
    | (with_reducible refine wpList_load_row rfl 24 _ rfl (B + 1) rfl 26 _ (0, 0) _ HD0.out Tryd.underlying24 rfl HIy.out ?_))
  refine (HC1.out W0).mono ?_
  rintro e W1 ⟨rfl, h1⟩
  have HR1 := Lib.hid (blk_below h1 (blk_lt HR0.out) HR0.out)
  have hb1 : Below B w W1 := hb0.trans (h1.mono (by have := blk_lt HR0.out; omega))
  clear HC1 h1 hb0 HG0 HD0 HR0
  have HV1 := Lib.hid (blk_old (o := .cells zeros4 24) (blk_new W1 (.cells zeros4 24)))
  have HV2 := Lib.hid (blk_new2 W1 (.cells zeros4 24) (.cells zeros4 24))
  have hv : Below W1.heap.size W1 ((W1.alloc (.cells zeros4 24)).alloc (.cells zeros4 24)) := below_new2 W1 _ _
  have HR2 := Lib.hid (blk_below hv (blk_lt HR1.out) HR1.out)
  have hlt := blk_lt HR1.out
  have hb2 : Below B w ((W1.alloc (.cells zeros4 24)).alloc (.cells zeros4 24)) := hb1.trans (hv.mono (by omega))
  have hB2 : B + 1 + 1 < W1.heap.size := hlt
  have HV3 := Lib.hid (show (((W1.alloc (.cells zeros4 24)).alloc (.cells zeros4 24)).setRow W1.heap.size (uc lo)).heap[W1.heap.size + 1]? = some (.cells zeros4 24) from by rw [setRow_other _ _ _ _ (by omega)]; exact HV2.out)
  have HA := Lib.hid (show ((((W1.alloc (.cells zeros4 24)).alloc (.cells zeros4 24)).setRow W1.heap.size (uc lo)).setRow (W1.heap.size + 1) (uc hi)).heap[W1.heap.size]? = some (.cells (uc lo) 24) from by rw [setRow_other _ _ _ _ (by omega)]; exact setRow_heap _ _ _ _ _ _ HV1.out)
  have HB := Lib.hid (show ((((W1.alloc (.cells zeros4 24)).alloc (.cells zeros4 24)).setRow W1.heap.size (uc lo)).setRow (W1.heap.size + 1) (uc hi)).heap[W1.heap.size + 1]? = some (.cells (uc hi) 24) from setRow_heap _ _ _ _ _ _ HV3.out)
  have HR3 := Lib.hid (show ((((W1.alloc (.cells zeros4 24)).alloc (.cells zeros4 24)).setRow W1.heap.size (uc lo)).setRow (W1.heap.size + 1) (uc hi)).heap[B + 1 + 1]? = some (.cells zeros4 26) from by rw [setRow_other _ _ _ _ (by omega), setRow_other _ _ _ _ (by omega)]; exact HR2.out)
  have hb3 : Below B w ((((W1.alloc (.cells zeros4 24)).alloc (.cells zeros4 24)).setRow W1.heap.size (uc lo)).setRow (W1.heap.size + 1) (uc hi)) := below_setRow (below_setRow hb2 (by omega) _) (by omega) _
  clear HR1 HR2 hb1 hb2 hv hlt
  go_wp2_with (first
    | (with_reducible refine wpList_store_row rfl 24 _ _ rfl W1.heap.size (uc lo) rfl rfl 24 _ HV1.out HI0.out HZ0.out H0.out ?_)
    | (with_reducible refine wpList_store_row rfl 24 _ _ rfl (W1.heap.size + 1) (uc hi) rfl rfl 24 _ HV3.out HI1.out HZ1.out H1.out ?_)
    | (with_reducible refine wpList_load_row rfl 24 _ rfl W1.heap.size rfl 24 _ (0, 0) _ HA.out Tryd.underlying24 rfl HI0.out ?_)
    | (with_reducible refine wpList_load_row rfl 24 _ rfl (W1.heap.size + 1) rfl 24 _ (0, 0) _ HB.out Tryd.underlying24 rfl HI1.out ?_))
  clear HV1 HV2 HV3 HA HB hzl
  generalize ((World.setRow _ _ _).setRow _ _) = V at *
  refine (HC2.out V).mono ?_
  rintro e W2 ⟨rfl, h2⟩
  go_wp2_with fail
  refine (HC3.out W2).mono ?_
  rintro e W3 ⟨rfl, h3⟩
  have h23 := h2.trans (h3.mono h2.size)
  have HR4 := Lib.hid (blk_below h23 (blk_lt HR3.out) HR3.out)
  have hb4 : Below B w W3 := hb3.trans (h23.mono (by have := blk_lt HR3.out; omega))
  clear HC2 HC3 h2 h3 h23 hb3 HR3
  go_wp2_with (with_reducible refine wpList_store_row rfl 26 _ _ rfl (B + 1 + 1) (uc (limN 4 r)) rfl rfl 26 _ HR4.out HIr.out HZr.out H1r.out ?_)
  exact bodyPost_ret (v := .agg (uc (limN 4 r))) (results_cell_row (by rfl) _ _ (B + 1 + 1) 26 _ (0, 0) _ rfl (setRow_heap _ _ _ _ _ _ HR4.out) Tryd.underlying26 rfl HIr.out) rfl ⟨by rw [HRr.out], by rw [HBB.out]; exact below_setRow hb4 (by omega) _⟩
end Go.Proofs.YtfidcdkoggfjaaaDoor
