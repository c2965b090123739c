/- The program's remainder: less, reduced. The order lies in its variable. -/
import Derived.Test.YtjgpcfjnanideaaDoorScaCar
namespace Go.Proofs.YtjgpcfjnanideaaDoor
open Go.RowKit Go.Sort
set_option maxRecDepth 100000
set_option linter.unusedSimpArgs false
set_option linter.unusedVariables false

/-- The order lies in its variable. -/
def OrdQ (w : World) : Prop := ∃ T fr, w.heap[0]? = some (.cells (ic ordI) T fr)
theorem OrdQ.lt {w : World} (h : OrdQ w) : 0 < w.heap.size := by
  obtain ⟨T, fr, h⟩ := h
  exact blk_lt h
theorem OrdQ.below {w w' : World} {B : Nat} (h : OrdQ w) (hb : Below B w w') (hB : 0 < B) : OrdQ w' := by
  obtain ⟨T, fr, h⟩ := h
  exact ⟨T, fr, (hb.block _ hB).trans h⟩
theorem OrdQ.step {w w' : World} (h : OrdQ w) (hb : Below w.heap.size w w') : OrdQ w' := h.below hb h.lt
/-- The cells of a number. -/
def nuC (X : Int) : Array Value := ic (limI 7 X)
theorem nuC_size (X : Int) : (Tryd.prog.info? 33).map (·.size) = some (nuC X).size := sizeN _ (limI_length 7 X)
theorem nuC_zero (X : Int) : izeros8.size = (nuC X).size := izeros8_size _ (limI_length 7 X)
theorem nuC_one (X : Int) : (nuC X).all (·.oneCell') = true := ic_one _
/-- The top limb of a number of some size. -/
def topI (X : Int) : Int := X / 7237005577332262213973186563042994240829374041602535252466099000494570602496
theorem ord_prod (q : Int) (h : -512 ≤ q ∧ q ≤ 512) (j : Nat) : -35253091565568 ≤ ordI.getD j 0 * q ∧ ordI.getD j 0 * q ≤ 35253091565568 := by
  obtain ⟨o, ho⟩ : ∃ o, ordI.getD j 0 = o := ⟨_, rfl⟩
  have hl := ordI_low j
  rw [ho] at hl ⊢
  have e1 : o * q ≤ o * 512 := Int.mul_le_mul_of_nonneg_left h.2 hl.1
  have e2 : o * (-512) ≤ o * q := Int.mul_le_mul_of_nonneg_left h.1 hl.1
  omega

set_option maxHeartbeats 2000000 in
theorem lessN_any (X : Int) (w : World) (hX : -512 ≤ topI X ∧ topI X ≤ 512) (hT : OrdQ w) :
    Calls Tryd.prog 32 #[.agg (nuC X)] w fun e w' => e = .returned (.agg (nuC (lesI X))) ∧ Below w.heap.size w w' := by
  obtain ⟨hz, hi⟩ := zero_of_info infoN
  have hTl := hT.lt
  have hb := below_new2 w (.cells (nuC X) 33) (.cells izeros8 33)
  have HP := Lib.hid (hT.step hb)
  have H2 := Lib.hid (blk_old (o := .cells izeros8 33) (blk_new w (.cells (nuC X) 33)))
  have H3 := Lib.hid (blk_new2 w (.cells (nuC X) 33) (.cells izeros8 33))
  have Ix := Lib.hid (nuC_size X)
  have Ip := Lib.hid (sizeN ordI rfl)
  have Ir := Lib.hid (nuC_size (lesI X)); have Zr := Lib.hid (nuC_zero (lesI X)); have Or := Lib.hid (nuC_one (lesI X))
  have h7 := limI_end X
  have C1 := Lib.hid (fun W => timesN_any ordI (-(topI X)) W rfl (fun j _ => by have := ord_prod (-(topI X)) (by omega) j; omega))
  have C2 := Lib.hid (fun W => plusN_any (limI 7 X) (tmI ordI (-(topI X))) W (limI_length 7 X) (by rw [tmI_length]; rfl) (fun j hj => by
    have h2 := ord_prod (-(topI X)) (by omega) j
    rw [tmI_get]
    by_cases h : j < 7
    · have := limI_low 7 X j h; omega
    · obtain rfl : j = 7 := by omega
      rw [h7]
      change -9223372036854775808 ≤ topI X + _ ∧ topI X + _ < 9223372036854775808
      omega))
  have C3 := Lib.hid (fun W => carriedN_any (adI (limI 7 X) (tmI ordI (-(topI X)))) W (adI_length _ _ 8 (limI_length 7 X) (by rw [tmI_length]; rfl)) (fun j hj => by
    have h2 := ord_prod (-(topI X)) (by omega) j
    rw [adI_get _ _ _ (by rw [limI_length]; omega) (by rw [tmI_length]; exact hj), tmI_get]
    by_cases h : j < 7
    · have := limI_low 7 X j h; omega
    · obtain rfl : j = 7 := by omega
      rw [h7]
      change -2305843009213693952 ≤ topI X + _ ∧ topI X + _ ≤ 2305843009213693952
      omega))
  rw [show vI (adI (limI 7 X) (tmI ordI (-(topI X)))) = lesI X from less_val X] at C3
  have cx : ((w.alloc (.cells (nuC X) 33)).alloc (.cells izeros8 33)).cell? ⟨w.heap.size, 7, none⟩ = some (.int .i64 (topI X)) := by
    have := ic_cell H2.out 7 (by rw [limI_length]; decide)
    rw [h7] at this
    exact this
  have hneg : wrap64 (-(topI X)) = -(topI X) := by unfold wrap64; omega
  have hneg2 : IntKind.i64.wrap (-(topI X)) = -(topI X) := by rw [IntKind.wrap_i64]; omega
  have HG := Lib.hid (show nuC X = ic (limI 7 X) from rfl)
  have HGr := Lib.hid (show ic (limI 7 (lesI X)) = nuC (lesI X) from rfl)
  rw [HGr.out] at C3
  clear hi hX hT h7
  go_enter Tryd.func32, Tryd.ntmps32
  go_upto_region 1 with fail
  clear hz
  generalize ((w.alloc _).alloc _) = W0 at *
  generalize hBB : w.heap.size = B at *
  have HBB := Lib.hid hBB
  clear hBB
  generalize tmI ordI (-(topI X)) = tq at *
  generalize adI (limI 7 X) tq = sq at *
  generalize hr : lesI X = r at *
  have HRr := Lib.hid hr
  clear hr
  obtain ⟨TP, fr, hP⟩ := HP.out
  have HPr := Lib.hid hP
  clear HP hP
  generalize ordI = P at *
  rw [← HG.out] at C2
  generalize topI X = q at *
  refine wp_region_fresh 8 11 [.val (.agg (nuC X)) [(1, .pointer (some ⟨B, 0, none⟩))], .val (.agg (ic P)) [],
    .val (.pointer (some ⟨B, 7, none⟩)) [(1, .pointer (some ⟨B, 0, none⟩))], .val (.int .i64 q) [(5, .pointer (some ⟨B, 7, none⟩))], .val (.int .i64 (-q)) [(6, .int .i64 q)],
    .val (.agg (ic tq)) [(4, .agg (ic P)), (7, .int .i64 (-q))], .val (.agg (ic sq)) [(3, .agg (nuC X)), (8, .agg (ic tq))], .val (.agg (nuC r)) [(9, .agg (ic sq))]]
    (by kernel_rfl) (by kernel_rfl) rfl ?_ ?_ ?_
  · simp only [List.take_succ_cons, List.take_zero, headObl, specObl, HeadSpec.val, HeadSpec.fresh, and_true]
    refine ⟨?_, ?_, ?_, ?_, ?_, ?_, ?_, ?_⟩
    · intro a w hb h
      have e0 := h (1, .pointer (some ⟨B, 0, none⟩)) (by simp)
      exact sQuiet_load_row 33 (.tmp 1) rfl B e0 33 _ (0, 0) _ (blk_below hb (blk_lt H2.out) H2.out) Tryd.underlying33 rfl Ix.out
    · intro a w hb h
      exact sQuiet_load_row 33 (.global 0) rfl 0 rfl TP _ fr _ (blk_below hb (blk_lt HPr.out) HPr.out) Tryd.underlying33 rfl Ip.out
    · intro a w hb h
      have e0 := h (1, .pointer (some ⟨B, 0, none⟩)) (by simp)
      simp only [Array.getD_eq_getD_getElem?] at e0
      simp [go_sem, e0, sQuiet]
    · intro a w hb h
      have e0 := h (5, .pointer (some ⟨B, 7, none⟩)) (by simp)
      simp only [Array.getD_eq_getD_getElem?] at e0
      have cc := (hb.cell (block_lt_of_cell cx)).trans cx
      simp [go_sem, e0, sQuiet, cc]
    · intro a w hb h
      have e0 := h (6, .int .i64 q) (by simp)
      simp only [Array.getD_eq_getD_getElem?] at e0
      simp [go_sem, e0, sQuiet, hneg, hneg2]
    · intro a w hb h
      have e0 := h (4, .agg (ic P)) (by simp)
      have e1 := h (7, .int .i64 (-q)) (by simp)
      simp only [Array.getD_eq_getD_getElem?] at e0 e1
      simp [go_sem, e0, e1, sQuiet]
      exact C1.out w
    · intro a w hb h
      have e0 := h (3, .agg (nuC X)) (by simp)
      have e1 := h (8, .agg (ic tq)) (by simp)
      simp only [Array.getD_eq_getD_getElem?] at e0 e1
      simp [go_sem, e0, e1, sQuiet]
      exact C2.out w
    · intro a w hb h
      have e0 := h (9, .agg (ic sq)) (by simp)
      simp only [Array.getD_eq_getD_getElem?] at e0
      simp [go_sem, e0, sQuiet]
      exact C3.out w
  · simp [headReads, headPut, specV, HeadSpec.val, HeadSpec.fresh, Act.put]
  · simp only [List.take_succ_cons, List.take_zero, List.drop_succ_cons, List.drop_zero, headEnd, HeadSpec.val, HeadSpec.fresh, Act.put, List.setIfInBounds_toArray, List.set_cons_succ, List.set_cons_zero]
    intro v1 hv1 hgs
    have HN := Lib.hid (blk_below hv1 (blk_lt H3.out) H3.out)
    have hb1 : Below B w v1 := hb.trans (hv1.mono (by have := blk_lt H3.out; omega))
    have HNN := Lib.hid (setRow_heap v1 (B + 1) _ (nuC r) _ _ HN.out)
    have hb2 : Below B w (v1.setRow (B + 1) (nuC r)) := below_setRow hb1 (by omega) _
    clear H2 H3 hb1 hv1 hgs hb
    go_wp2_with (with_reducible refine wpList_store_row rfl 33 _ _ rfl (B + 1) (nuC r) rfl rfl 33 _ HN.out Ir.out Zr.out Or.out ?_)
    exact bodyPost_ret (v := .agg (nuC r)) (results_cell_row (by rfl) _ _ (B + 1) 33 _ (0, 0) _ rfl HNN.out Tryd.underlying33 rfl Ir.out) rfl ⟨by rw [HRr.out], by rw [HBB.out]; exact hb2⟩

theorem top_fits (X : Int) (h0 : 0 ≤ X) (h1 : X < 511 * (lF : Int)) : (-512 ≤ topI X ∧ topI X ≤ 512) ∧ (-512 ≤ topI (lesI X) ∧ topI (lesI X) ≤ 512) := by
  have h2 := lesI_small X h0 h1
  have e : (lF : Int) = 7237005577332262213973186563042994240857116359379907606001950938285454250989 := rfl
  unfold topI
  rw [e] at h1
  omega
set_option maxHeartbeats 2000000 in
theorem reducedN_any (l : List Int) (X : Nat) (w : World) (hl : l.length = 8) (hlo : ∀ j, j < 8 → -2305843009213693952 ≤ l.getD j 0 ∧ l.getD j 0 ≤ 2305843009213693952) (hX : vI l = (X : Int)) (h1 : X < 511 * lF) (hT : OrdQ w) :
    Calls Tryd.prog 28 #[.agg (ic l)] w fun e w' => e = .returned (.agg (nuC ((X % lF : Nat) : Int))) ∧ Below w.heap.size w w' := by
  obtain ⟨hz, hi⟩ := zero_of_info infoN
  have hb := below_new2 w (.cells (ic l) 33) (.cells izeros8 33)
  have HP := Lib.hid (hT.step hb)
  have H2 := Lib.hid (blk_old (o := .cells izeros8 33) (blk_new w (.cells (ic l) 33)))
  have H3 := Lib.hid (blk_new2 w (.cells (ic l) 33) (.cells izeros8 33))
  obtain ⟨t1, t2⟩ := top_fits (X : Int) (by omega) (by omega)
  have Ix := Lib.hid (sizeN l hl)
  have C1 := Lib.hid (fun W => carriedN_any l W hl hlo)
  have C2 := Lib.hid (fun W => lessN_any (X : Int) W t1)
  have C3 := Lib.hid (fun W => lessN_any (lesI (X : Int)) W t2)
  rw [hX, show ic (limI 7 (X : Int)) = nuC (X : Int) from rfl] at C1
  rw [lesI_two (X : Int) (by omega) (by omega), show (X : Int) % (lF : Int) = ((X % lF : Nat) : Int) by omega] at C3
  have HTl := Lib.hid hT.lt
  clear hi hX hT t1 t2 h1 hl hlo
  go_enter Tryd.func28, Tryd.ntmps28
  go_wp2_with (with_reducible refine wpList_load_row rfl 33 _ rfl w.heap.size rfl 33 _ (0, 0) _ H2.out Tryd.underlying33 rfl Ix.out ?_)
  clear hz
  generalize ((w.alloc _).alloc _) = W0 at *
  generalize hBB : w.heap.size = B at *
  have HBB := Lib.hid hBB
  clear hBB
  have Ir := Lib.hid (nuC_size ((X % lF : Nat) : Int)); have Zr := Lib.hid (nuC_zero ((X % lF : Nat) : Int)); have Or := Lib.hid (nuC_one ((X % lF : Nat) : Int))
  generalize hx2 : lesI (X : Int) = x2 at *
  generalize hx3 : ((X % lF : Nat) : Int) = x3 at *
  have HX3 := Lib.hid hx3
  clear hx2 hx3
  generalize (X : Int) = x1 at *
  refine (C1.out W0).mono ?_
  rintro e W1 ⟨rfl, hb1⟩
  have H31 := Lib.hid (blk_below hb1 (blk_lt H3.out) H3.out)
  have HP1 := Lib.hid (HP.out.step hb1)
  have hB1 : Below B w W1 := hb.trans (hb1.mono (by have := blk_lt H3.out; omega))
  clear H2 H3 HP hb hb1 C1
  go_wp2_with fail
  refine (C2.out W1 HP1.out).mono ?_
  rintro e W2 ⟨rfl, hb2⟩
  have H32 := Lib.hid (blk_below hb2 (blk_lt H31.out) H31.out)
  have HP2 := Lib.hid (HP1.out.step hb2)
  have hB2 : Below B w W2 := hB1.trans (hb2.mono (by have := blk_lt H31.out; omega))
  clear H31 HP1 hB1 hb2 C2
  go_wp2_with fail
  refine (C3.out W2 HP2.out).mono ?_
  rintro e W3 ⟨rfl, hb3⟩
  have H33 := Lib.hid (blk_below hb3 (blk_lt H32.out) H32.out)
  have hB3 : Below B w W3 := hB2.trans (hb3.mono (by have := blk_lt H32.out; omega))
  clear H32 HP2 hB2 hb3 C3
  have HNN := Lib.hid (setRow_heap W3 (B + 1) _ (nuC x3) _ _ H33.out)
  go_wp2_with (with_reducible refine wpList_store_row rfl 33 _ _ rfl (B + 1) (nuC x3) rfl rfl 33 _ H33.out Ir.out Zr.out Or.out ?_)
  exact bodyPost_ret (v := .agg (nuC x3)) (results_cell_row (by rfl) _ _ (B + 1) 33 _ (0, 0) _ rfl HNN.out Tryd.underlying33 rfl Ir.out) rfl ⟨by rw [HX3.out], by rw [HBB.out]; exact below_setRow hB3 (by omega) _⟩
end Go.Proofs.YtjgpcfjnanideaaDoor
