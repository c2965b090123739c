/- The program's point of bytes, and the base. -/
import Derived.Test.YtcpdehfmlmmgiaaDoorPpFns
import Derived.Test.YtcpdehfmlmmgiaaDoorPpHigh
import Derived.Test.YtcpdehfmlmmgiaaDoorPpRoot
namespace Go.Proofs.YtcpdehfmlmmgiaaDoor
open Go.RowKit Go.Sort
set_option maxRecDepth 100000
set_option linter.unusedSimpArgs false
set_option linter.unusedVariables false

theorem wpList_num_want {ops : Array Oper} {rest : List Oper} {o : Oper} {a : Act} {w : World} {Q : Exit → Act → World → Prop} (hw : Region.wanted o (yielded ops a.tmps) = true) (x y : Operand) (ho : o.op = .binOp .eql 26 x y 26) (l m : List Nat) (b : Bool)
    (hl : l.length = 4) (hm : m.length = 4) (hx : a.eval x = .agg (uc l)) (hy : a.eval y = .agg (uc m)) (hb : decide (l = m) = b)
    (h : wpList Tryd.prog ops Q rest (a.put o.dst (.bool b)) w) : wpList Tryd.prog ops Q (o :: rest) a w :=
  BigFrame.wpList_want hw fun _ hK => by
    have e1 : (eqGuard .eql 26 x y (.agg (uc l)) (.agg (uc m))).run Tryd.prog w = .ok () w := run_eqGuard_agg w .eql 26 x y _ _ (by kernel_rfl)
    have e2 : (binOp .eql 26 (.agg (uc l)) (.agg (uc m))).run Tryd.prog w = .ok (.bool b) w := by
      rw [run_eql_struct, num_eq l m hl hm]
      simp only [Result.andThen_ok, hb]
    unfold Oper.wp execOp
    simp only [ho, hx, hy, Sem.run_bind, e1, e2, Result.andThen_ok]
    exact hK _ _ h
theorem wpList_num0_want {ops : Array Oper} {rest : List Oper} {o : Oper} {a : Act} {w : World} {Q : Exit → Act → World → Prop} (hw : Region.wanted o (yielded ops a.tmps) = true) (ho : o.op = .build 26 #[])
    (h : wpList Tryd.prog ops Q rest (a.put o.dst (.agg (uc (limN 4 0)))) w) : wpList Tryd.prog ops Q (o :: rest) a w :=
  BigFrame.wpList_want hw fun _ hK => wp_built 26 #[] ho _ (by rw [Array.map_empty, ← zeros4_lim]; exact build_zero w) (hK _ _ h)
set_option maxHeartbeats 2000000 in
theorem ptOfBad_any (s : ByteArray) (w : World) (h : s.size ≠ 32) :
    Calls Tryd.prog 9 #[.string s] w fun e w' => e = .returned (.tuple #[.agg (uc (ptL zeroP)), .int .i64 1]) ∧ Below w.heap.size w w' := by
  obtain ⟨hzp, hip⟩ := zero_of_info infoPt
  have d1 : ((s.size : Int) != 32) = true := by simp; omega
  have HR0 := Lib.hid (blk_new w (.cells zrow4 28))
  have hb0 := below_new w (.cells zrow4 28)
  have CZ := Lib.hid ptZero_any
  clear hip h
  go_enter Tryd.func9, Tryd.ntmps9
  go_wp2_with fail
  clear hzp
  generalize (w.alloc _) = W0 at *
  have hB := hb0.size
  generalize hBB : w.heap.size = B at *
  refine (CZ.out W0).mono ?_
  rintro e W1 ⟨rfl, bk⟩
  have HR := Lib.hid (blk_below bk (blk_lt HR0.out) HR0.out)
  have hb1 := hb0.trans (bk.mono hB)
  clear HR0 hb0 bk
  go_wp2_with (with_reducible refine wpList_store_row rfl 28 _ _ rfl B (uc (ptL zeroP)) rfl rfl 28 _ HR.out (sizePt _ (ptL_length _)) (zrow4_size _ (ptL_length _)) (uc_one _) ?_)
  exact bodyPost_ret (results_row_tmpF (by rfl) _ _ B 28 _ (0, 0) _ rfl (setRow_heap _ _ _ _ _ _ HR.out) Tryd.underlying28 rfl (sizePt _ (ptL_length _))) rfl ⟨rfl, by rw [hBB]; exact below_setRow hb1 (Nat.le_refl _) _⟩
/-- The answer from a height, a root and a sign. -/
def ansP (least : Bool) (y r : Nat) (is neg : Bool) : PtN := if least && is && !(neg && decide (r = 0)) then ⟨if neg then subF 0 r else r, y, 1, mulF (if neg then subF 0 r else r) y⟩ else zeroP
def ansE (least : Bool) (r : Nat) (is neg : Bool) : Int := if least && is && !(neg && decide (r = 0)) then 0 else 21
set_option maxHeartbeats 16000000 in
theorem ptOfL_any (s : ByteArray) (least is neg : Bool) (y r t : Nat) (w : World) (hs : s.size = 32) (l_y : y < pF) (l_r : r < pF) (hT : PrmQ w) (hneg : ((t : Int) == 1) = neg)
    (C_h0 : ∀ W : World, Calls Tryd.prog 24 #[.string s] W fun e w' => e = .returned (.tuple #[.agg (uc (limN 4 y)), .bool least]) ∧ Below W.heap.size W w')
    (C_r0 : ∀ W : World, PrmQ W → Calls Tryd.prog 25 #[.agg (uc (limN 4 y))] W fun e w' => e = .returned (.tuple #[.agg (uc (limN 4 r)), .bool is]) ∧ Below W.heap.size W w')
    (C_b0 : ∀ W : World, Calls Tryd.prog 26 #[.string s, .int .i64 255] W fun e w' => e = .returned (.int .i64 (t : Int)) ∧ Below W.heap.size W w') :
    Calls Tryd.prog 9 #[.string s] w fun e w' => e = .returned (.tuple #[.agg (uc (ptL (ansP least y r is neg))), .int .i64 (ansE least r is neg)]) ∧ Below w.heap.size w w' := by
  have d1 : ((s.size : Int) != 32) = false := by simp; omega
  have HT := Lib.hid hT; have hTl := Lib.hid hT.lt
  have C_h := Lib.hid C_h0; have C_r := Lib.hid C_r0; have C_b := Lib.hid C_b0; have CZ := Lib.hid ptZero_any
  have C_1 : Hid (∀ W : World, Calls Tryd.prog 28 #[.int .i64 1] W fun e w' => e = .returned (.agg (uc (limN 4 1))) ∧ Below W.heap.size W w') := Lib.hid (fun W => smallPos_any 1 W (by decide))
  have CSUB := Lib.hid (fun (W : World) (hW : PrmQ W) => subF_any 0 r W (by decide) l_r hW)
  have l_n : subF 0 r < pF := subF_lt _ _
  have CMUL := Lib.hid (fun (x : Nat) (hx : x < pF) (W : World) => mulF_any x y W hx l_y)
  have CPT : Hid (∀ x : Nat, x < pF → ∀ W : World, PrmQ W → Calls Tryd.prog 30 #[.agg (uc (row4 x y 1 (mulF x y)))] W fun e w' => e = .returned (.agg (uc (ptL ⟨x, y, 1, mulF x y⟩))) ∧ Below W.heap.size W w') := Lib.hid (fun x hx W hW => point_any ⟨x, y, 1, mulF x y⟩ W ⟨hx, l_y, (by decide : 1 < pF), mulF_lt _ _⟩ hW)
  have HAP : Hid (∀ l i n : Bool, ansP l y r i n = if l && i && !(n && decide (r = 0)) then ⟨if n then subF 0 r else r, y, 1, mulF (if n then subF 0 r else r) y⟩ else zeroP) := Lib.hid (fun _ _ _ => rfl)
  have HAE : Hid (∀ l i n : Bool, ansE l r i n = if l && i && !(n && decide (r = 0)) then 0 else 21) := Lib.hid (fun _ _ _ => rfl)
  have HSM := Lib.hid (lim_same r 0 l_r pF_pos)
  have L_r := Lib.hid (limN_length 4 r); have L_0 := Lib.hid (limN_length 4 0)
  have HLR := Lib.hid l_r; have HLN := Lib.hid l_n
  clear C_h0 C_r0 C_b0 l_y l_r l_n hs
  obtain ⟨hz, hi⟩ := zero_of_info infoF
  obtain ⟨hzn, hin⟩ := zero_of_info infoNs
  obtain ⟨hzp, hip⟩ := zero_of_info infoPt
  have hb := below_new w (.cells zrow4 28)
  have HP := Lib.hid (hT.step hb)
  have HR := Lib.hid (blk_new w (.cells zrow4 28))
  clear hi hin hip hT
  go_enter Tryd.func9, Tryd.ntmps9
  go_wp2_with fail
  try clear hzn
  try clear hzp
  generalize (w.alloc _) = W0 at *
  have hB := Lib.hid hb.size
  generalize hBB : w.heap.size = B at *
  have HBB := Lib.hid hBB
  clear hBB
  refine (C_h.out W0).mono ?_
  rintro e W1 ⟨rfl, bk⟩
  replace hb := hb.trans (bk.mono hB.out)
  replace HP := Lib.hid (HP.out.step bk)
  replace hB := Lib.hid (Nat.le_trans hB.out bk.size)
  replace HR := Lib.hid (blk_below bk (blk_lt HR.out) HR.out)
  clear bk
  have r_g4_HR := Lib.hid (blk_lt HR.out)
  have HN := Lib.hid (blk_new W1 (.cells zeros4 26))
  have bn := below_new W1 (.cells zeros4 26)
  have q_g4 := Lib.hid (setRow_heap _ W1.heap.size _ (uc (limN 4 y)) _ _ HN.out)
  go_wp2_with (first | (with_reducible refine wpList_store_row rfl 26 _ _ rfl W1.heap.size (uc (limN 4 y)) rfl rfl 26 _ HN.out (sizeF' _) (zerosF_size _) (uc_one _) ?_) | (with_reducible refine wpList_load_row rfl 26 _ rfl (W1.heap.size) rfl 26 _ (0, 0) _ q_g4.out Tryd.underlying26 rfl (sizeF' _) ?_))
  have bk := below_setRow bn (Nat.le_refl _) (uc (limN 4 y))
  have b_g4 := Lib.hid hB.out
  replace hb := hb.trans (bk.mono hB.out)
  replace HP := Lib.hid (HP.out.step bk)
  replace hB := Lib.hid (Nat.le_trans hB.out bk.size)
  replace HR := Lib.hid (blk_below bk (blk_lt HR.out) HR.out)
  clear bk
  have H_g4 := q_g4
  generalize (World.setRow (World.alloc _ _) _ _) = W2 at *
  generalize W1.heap.size = g4 at *
  clear bn HN q_g4
  try simp only [Act.put]
  refine (C_r.out W2 HP.out).mono ?_
  rintro e W3 ⟨rfl, bk⟩
  replace hb := hb.trans (bk.mono hB.out)
  replace HP := Lib.hid (HP.out.step bk)
  replace hB := Lib.hid (Nat.le_trans hB.out bk.size)
  replace HR := Lib.hid (blk_below bk (blk_lt HR.out) HR.out)
  replace H_g4 := Lib.hid (blk_below bk (blk_lt H_g4.out) H_g4.out)
  clear bk
  have r_g6_HR := Lib.hid (blk_lt HR.out)
  have r_g6_H_g4 := Lib.hid (blk_lt H_g4.out)
  have HN := Lib.hid (blk_new W3 (.cells zeros4 26))
  have bn := below_new W3 (.cells zeros4 26)
  have q_g6 := Lib.hid (setRow_heap _ W3.heap.size _ (uc (limN 4 r)) _ _ HN.out)
  go_wp2_with (first | (with_reducible refine wpList_store_row rfl 26 _ _ rfl W3.heap.size (uc (limN 4 r)) rfl rfl 26 _ HN.out (sizeF' _) (zerosF_size _) (uc_one _) ?_))
  have bk := below_setRow bn (Nat.le_refl _) (uc (limN 4 r))
  have b_g6 := Lib.hid hB.out
  replace hb := hb.trans (bk.mono hB.out)
  replace HP := Lib.hid (HP.out.step bk)
  replace hB := Lib.hid (Nat.le_trans hB.out bk.size)
  replace HR := Lib.hid (blk_below bk (blk_lt HR.out) HR.out)
  replace H_g4 := Lib.hid (blk_below bk (blk_lt H_g4.out) H_g4.out)
  clear bk
  have H_g6 := q_g6
  generalize (World.setRow (World.alloc _ _) _ _) = W4 at *
  generalize W3.heap.size = g6 at *
  clear bn HN q_g6
  try simp only [Act.put]
  refine (C_b.out W4).mono ?_
  rintro e W5 ⟨rfl, bk⟩
  replace hb := hb.trans (bk.mono hB.out)
  replace HP := Lib.hid (HP.out.step bk)
  replace hB := Lib.hid (Nat.le_trans hB.out bk.size)
  replace HR := Lib.hid (blk_below bk (blk_lt HR.out) HR.out)
  replace H_g4 := Lib.hid (blk_below bk (blk_lt H_g4.out) H_g4.out)
  replace H_g6 := Lib.hid (blk_below bk (blk_lt H_g6.out) H_g6.out)
  clear bk
  clear C_h C_r C_b
  cases least with
  | false =>
    go_wp2_with fail
    refine (CZ.out _).mono ?_
    rintro e X ⟨rfl, bk⟩
    replace hb := hb.trans (bk.mono hB.out)
    replace HR := Lib.hid (blk_below bk (blk_lt HR.out) HR.out)
    go_wp2_with (with_reducible refine wpList_store_row rfl 28 _ _ rfl B (uc (ptL zeroP)) rfl rfl 28 _ HR.out (sizePt _ (ptL_length _)) (zrow4_size _ (ptL_length _)) (uc_one _) ?_)
    exact bodyPost_ret (results_row_tmpF (by rfl) _ _ B 28 _ (0, 0) _ rfl (setRow_heap _ _ _ _ _ _ HR.out) Tryd.underlying28 rfl (sizePt _ (ptL_length _))) rfl ⟨by rw [HAP.out, HAE.out]; rfl, by rw [HBB.out]; exact below_setRow hb (Nat.le_refl _) _⟩
  | true =>
    cases is with
    | false =>
      go_wp2_with fail
      refine (CZ.out _).mono ?_
      rintro e X ⟨rfl, bk⟩
      replace hb := hb.trans (bk.mono hB.out)
      replace HR := Lib.hid (blk_below bk (blk_lt HR.out) HR.out)
      go_wp2_with (with_reducible refine wpList_store_row rfl 28 _ _ rfl B (uc (ptL zeroP)) rfl rfl 28 _ HR.out (sizePt _ (ptL_length _)) (zrow4_size _ (ptL_length _)) (uc_one _) ?_)
      exact bodyPost_ret (results_row_tmpF (by rfl) _ _ B 28 _ (0, 0) _ rfl (setRow_heap _ _ _ _ _ _ HR.out) Tryd.underlying28 rfl (sizePt _ (ptL_length _))) rfl ⟨by rw [HAP.out, HAE.out]; rfl, by rw [HBB.out]; exact below_setRow hb (Nat.le_refl _) _⟩
    | true =>
      cases hnn : neg with
      | false =>
        subst hnn
        have C_xy := Lib.hid (CMUL.out _ HLR.out)
        have C_p := Lib.hid (CPT.out _ HLR.out)
        have HANS : Hid (ptL (ansP true y r true false) = ptL ⟨r, y, 1, mulF (r) y⟩ ∧ ansE true r true false = 0) := Lib.hid (by rw [HAP.out, HAE.out]; exact ⟨rfl, rfl⟩)
        generalize hpl : ptL ⟨r, y, 1, mulF (r) y⟩ = pl at *
        have Lp : Hid (pl.length = 16) := Lib.hid (by rw [← hpl]; exact ptL_length _)
        clear hpl
        generalize mulF (r) y = xy at *
        go_wp2_with fail
        refine wp_region_fresh 8 53 [.val (.agg (uc (limN 4 r))) [(6, .pointer (some ⟨g6, 0, none⟩))],
      .val (.agg (uc (limN 4 y))) [(4, .pointer (some ⟨g4, 0, none⟩))],
      .val (.agg (uc (limN 4 1))) [],
      .val (.agg (uc (limN 4 r))) [(6, .pointer (some ⟨g6, 0, none⟩))],
      .val (.agg (uc (limN 4 y))) [(4, .pointer (some ⟨g4, 0, none⟩))],
      .val (.agg (uc (limN 4 xy))) [(48, .agg (uc (limN 4 r))), (49, .agg (uc (limN 4 y)))],
      .val (.agg (uc (row4 r y 1 xy))) [(45, .agg (uc (limN 4 r))), (46, .agg (uc (limN 4 y))), (47, .agg (uc (limN 4 1))), (50, .agg (uc (limN 4 xy)))],
      .val (.agg (uc pl)) [(51, .agg (uc (row4 r y 1 xy)))]] (by kernel_rfl) (by kernel_rfl) rfl ?_ ?_ ?_
        · simp only [List.take_succ_cons, List.take_zero, headObl, specObl, HeadSpec.val, HeadSpec.fresh, and_true]
          refine ⟨?_, ?_, ?_, ?_, ?_, ?_, ?_, ?_⟩
          · intro act w hb h
            have e0 := h (6, .pointer (some ⟨g6, 0, none⟩)) (by simp)
            exact sQuiet_load_row 26 (.tmp 6) rfl (g6) e0 26 _ (0, 0) _ (blk_below hb (blk_lt H_g6.out) H_g6.out) Tryd.underlying26 rfl (sizeF' _)
          · intro act w hb h
            have e0 := h (4, .pointer (some ⟨g4, 0, none⟩)) (by simp)
            exact sQuiet_load_row 26 (.tmp 4) rfl (g4) e0 26 _ (0, 0) _ (blk_below hb (blk_lt H_g4.out) H_g4.out) Tryd.underlying26 rfl (sizeF' _)
          · intro act w hb h
            simp [go_sem, sQuiet]
            exact C_1.out w
          · intro act w hb h
            have e0 := h (6, .pointer (some ⟨g6, 0, none⟩)) (by simp)
            exact sQuiet_load_row 26 (.tmp 6) rfl (g6) e0 26 _ (0, 0) _ (blk_below hb (blk_lt H_g6.out) H_g6.out) Tryd.underlying26 rfl (sizeF' _)
          · intro act w hb h
            have e0 := h (4, .pointer (some ⟨g4, 0, none⟩)) (by simp)
            exact sQuiet_load_row 26 (.tmp 4) rfl (g4) e0 26 _ (0, 0) _ (blk_below hb (blk_lt H_g4.out) H_g4.out) Tryd.underlying26 rfl (sizeF' _)
          · intro act w hb h
            have e0 := h (48, .agg (uc (limN 4 r))) (by simp)
            have e1 := h (49, .agg (uc (limN 4 y))) (by simp)
            simp only [Array.getD_eq_getD_getElem?] at e0 e1
            simp [go_sem, e0, e1, sQuiet]
            exact C_xy.out w
          · intro act w hb h
            have e0 := h (45, .agg (uc (limN 4 r))) (by simp)
            have e1 := h (46, .agg (uc (limN 4 y))) (by simp)
            have e2 := h (47, .agg (uc (limN 4 1))) (by simp)
            have e3 := h (50, .agg (uc (limN 4 xy))) (by simp)
            exact sQuiet_build_ns (.tmp 45) (.tmp 46) (.tmp 47) (.tmp 50) rfl _ _ _ _ e0 e1 e2 e3
          · intro act w hb h
            have e0 := h (51, .agg (uc (row4 r y 1 xy))) (by simp)
            simp only [Array.getD_eq_getD_getElem?] at e0
            simp [go_sem, e0, sQuiet]
            exact C_p.out w (HP.out.step hb)
        · simp [headReads, headPut, specV, HeadSpec.val, HeadSpec.fresh, Act.put]
        · simp only [List.take_succ_cons, List.take_zero, List.drop_succ_cons, List.drop_zero, headEnd, HeadSpec.val, HeadSpec.fresh, Act.put, List.setIfInBounds_toArray, List.set_cons_succ, List.set_cons_zero]
          intro v1 hv1 hgs
          have HN := Lib.hid (blk_below hv1 (blk_lt HR.out) HR.out)
          have HNN := Lib.hid (setRow_heap v1 B _ (uc pl) _ _ HN.out)
          have hb2 : Below B w (v1.setRow B (uc pl)) := below_setRow (hb.trans (hv1.mono hB.out)) (Nat.le_refl _) _
          clear hgs hv1 hb
          go_wp2_with (with_reducible refine wpList_store_row rfl 28 _ _ rfl B (uc pl) rfl rfl 28 _ HN.out (sizePt _ Lp.out) (zrow4_size _ Lp.out) (uc_one _) ?_)
          exact bodyPost_ret (results_row_tmpF (by rfl) _ _ B 28 _ (0, 0) _ rfl HNN.out Tryd.underlying28 rfl (sizePt _ Lp.out)) rfl ⟨by rw [HANS.out.1, HANS.out.2]; rfl, by rw [HBB.out]; exact hb2⟩
      | true =>
        subst hnn
        by_cases h0 : r = 0
        · have HBE : Hid (decide (limN 4 r = limN 4 0) = true) := Lib.hid (by rw [HSM.out]; simp [h0])
          go_wp2_with (first | ((with_reducible refine wpList_load_want ?hw 26 _ rfl g6 rfl 26 _ (0, 0) _ H_g6.out Tryd.underlying26 rfl (sizeF' _) ?_); (case hw => rfl)) | ((with_reducible refine wpList_num0_want ?hw rfl ?_); (case hw => rfl)) | ((with_reducible refine wpList_num_want ?hw _ _ rfl (limN 4 r) (limN 4 0) true L_r.out L_0.out rfl rfl HBE.out ?_); (case hw => rfl)))
          refine (CZ.out _).mono ?_
          rintro e X ⟨rfl, bk⟩
          replace hb := hb.trans (bk.mono hB.out)
          replace HR := Lib.hid (blk_below bk (blk_lt HR.out) HR.out)
          go_wp2_with (with_reducible refine wpList_store_row rfl 28 _ _ rfl B (uc (ptL zeroP)) rfl rfl 28 _ HR.out (sizePt _ (ptL_length _)) (zrow4_size _ (ptL_length _)) (uc_one _) ?_)
          exact bodyPost_ret (results_row_tmpF (by rfl) _ _ B 28 _ (0, 0) _ rfl (setRow_heap _ _ _ _ _ _ HR.out) Tryd.underlying28 rfl (sizePt _ (ptL_length _))) rfl ⟨by rw [HAP.out, HAE.out]; simp [h0], by rw [HBB.out]; exact below_setRow hb (Nat.le_refl _) _⟩
        · have HBE : Hid (decide (limN 4 r = limN 4 0) = false) := Lib.hid (by rw [HSM.out]; simp [h0])
          go_wp2_with (first | ((with_reducible refine wpList_load_want ?hw 26 _ rfl g6 rfl 26 _ (0, 0) _ H_g6.out Tryd.underlying26 rfl (sizeF' _) ?_); (case hw => rfl)) | ((with_reducible refine wpList_num0_want ?hw rfl ?_); (case hw => rfl)) | ((with_reducible refine wpList_num_want ?hw _ _ rfl (limN 4 r) (limN 4 0) false L_r.out L_0.out rfl rfl HBE.out ?_); (case hw => rfl)) | (with_reducible refine wpList_build_zero' rfl rfl ?_) | (with_reducible refine wpList_load_row rfl 26 _ rfl (g6) rfl 26 _ (0, 0) _ H_g6.out Tryd.underlying26 rfl (sizeF' _) ?_))
          refine (CSUB.out _ HP.out).mono ?_
          rintro e X ⟨rfl, bk⟩
          replace hb := hb.trans (bk.mono hB.out)
          replace HP := Lib.hid (HP.out.step bk)
          replace hB := Lib.hid (Nat.le_trans hB.out bk.size)
          replace HR := Lib.hid (blk_below bk (blk_lt HR.out) HR.out)
          replace H_g4 := Lib.hid (blk_below bk (blk_lt H_g4.out) H_g4.out)
          replace H_g6 := Lib.hid (blk_below bk (blk_lt H_g6.out) H_g6.out)
          clear bk
          have k6 := Lib.hid (setRow_heap X g6 _ (uc (limN 4 (subF 0 r))) _ _ H_g6.out)
          have k4 := Lib.hid ((setRow_other X g6 g4 (uc (limN 4 (subF 0 r))) (by have := r_g6_H_g4.out; omega)).trans H_g4.out)
          have kR := Lib.hid ((setRow_other X g6 B (uc (limN 4 (subF 0 r))) (by have := r_g6_HR.out; omega)).trans HR.out)
          have kb : Below B w (X.setRow g6 (uc (limN 4 (subF 0 r)))) := below_setRow hb b_g6.out _
          have kP : Hid (PrmQ (X.setRow g6 (uc (limN 4 (subF 0 r))))) := Lib.hid (HT.out.below kb hTl.out)
          have kB : Hid (B ≤ (X.setRow g6 (uc (limN 4 (subF 0 r)))).heap.size) := Lib.hid (Nat.le_of_lt (blk_lt kR.out))
          clear H_g4 HR hb hB HP
          go_wp2_with (with_reducible refine wpList_store_row rfl 26 _ _ rfl g6 (uc (limN 4 (subF 0 r))) rfl rfl 26 _ H_g6.out (sizeF' _) (by rw [uc_size, uc_size, limN_length, limN_length]) (uc_one _) ?_)
          clear H_g6
          generalize (World.setRow _ _ _) = X2 at *
          have H_g4 := k4; have H_g6 := k6; have HR := kR; have hb := kb; have HP := kP; have hB := kB
          clear k4 k6 kR kb kP kB
          have C_xy := Lib.hid (CMUL.out _ HLN.out)
          have C_p := Lib.hid (CPT.out _ HLN.out)
          have HANS : Hid (ptL (ansP true y r true true) = ptL ⟨subF 0 r, y, 1, mulF (subF 0 r) y⟩ ∧ ansE true r true true = 0) := Lib.hid (by rw [HAP.out, HAE.out]; rw [show decide (r = 0) = false by simp [h0]]; exact ⟨rfl, rfl⟩)
          generalize hpl : ptL ⟨subF 0 r, y, 1, mulF (subF 0 r) y⟩ = pl at *
          have Lp : Hid (pl.length = 16) := Lib.hid (by rw [← hpl]; exact ptL_length _)
          clear hpl
          generalize mulF (subF 0 r) y = xy at *
          generalize subF 0 r = x at *
          skip
          refine wp_region_fresh 8 53 [.val (.agg (uc (limN 4 x))) [(6, .pointer (some ⟨g6, 0, none⟩))],
      .val (.agg (uc (limN 4 y))) [(4, .pointer (some ⟨g4, 0, none⟩))],
      .val (.agg (uc (limN 4 1))) [],
      .val (.agg (uc (limN 4 x))) [(6, .pointer (some ⟨g6, 0, none⟩))],
      .val (.agg (uc (limN 4 y))) [(4, .pointer (some ⟨g4, 0, none⟩))],
      .val (.agg (uc (limN 4 xy))) [(48, .agg (uc (limN 4 x))), (49, .agg (uc (limN 4 y)))],
      .val (.agg (uc (row4 x y 1 xy))) [(45, .agg (uc (limN 4 x))), (46, .agg (uc (limN 4 y))), (47, .agg (uc (limN 4 1))), (50, .agg (uc (limN 4 xy)))],
      .val (.agg (uc pl)) [(51, .agg (uc (row4 x y 1 xy)))]] (by kernel_rfl) (by kernel_rfl) rfl ?_ ?_ ?_
          · simp only [List.take_succ_cons, List.take_zero, headObl, specObl, HeadSpec.val, HeadSpec.fresh, and_true]
            refine ⟨?_, ?_, ?_, ?_, ?_, ?_, ?_, ?_⟩
            · intro act w hb h
              have e0 := h (6, .pointer (some ⟨g6, 0, none⟩)) (by simp)
              exact sQuiet_load_row 26 (.tmp 6) rfl (g6) e0 26 _ (0, 0) _ (blk_below hb (blk_lt H_g6.out) H_g6.out) Tryd.underlying26 rfl (sizeF' _)
            · intro act w hb h
              have e0 := h (4, .pointer (some ⟨g4, 0, none⟩)) (by simp)
              exact sQuiet_load_row 26 (.tmp 4) rfl (g4) e0 26 _ (0, 0) _ (blk_below hb (blk_lt H_g4.out) H_g4.out) Tryd.underlying26 rfl (sizeF' _)
            · intro act w hb h
              simp [go_sem, sQuiet]
              exact C_1.out w
            · intro act w hb h
              have e0 := h (6, .pointer (some ⟨g6, 0, none⟩)) (by simp)
              exact sQuiet_load_row 26 (.tmp 6) rfl (g6) e0 26 _ (0, 0) _ (blk_below hb (blk_lt H_g6.out) H_g6.out) Tryd.underlying26 rfl (sizeF' _)
            · intro act w hb h
              have e0 := h (4, .pointer (some ⟨g4, 0, none⟩)) (by simp)
              exact sQuiet_load_row 26 (.tmp 4) rfl (g4) e0 26 _ (0, 0) _ (blk_below hb (blk_lt H_g4.out) H_g4.out) Tryd.underlying26 rfl (sizeF' _)
            · intro act w hb h
              have e0 := h (48, .agg (uc (limN 4 x))) (by simp)
              have e1 := h (49, .agg (uc (limN 4 y))) (by simp)
              simp only [Array.getD_eq_getD_getElem?] at e0 e1
              simp [go_sem, e0, e1, sQuiet]
              exact C_xy.out w
            · intro act w hb h
              have e0 := h (45, .agg (uc (limN 4 x))) (by simp)
              have e1 := h (46, .agg (uc (limN 4 y))) (by simp)
              have e2 := h (47, .agg (uc (limN 4 1))) (by simp)
              have e3 := h (50, .agg (uc (limN 4 xy))) (by simp)
              exact sQuiet_build_ns (.tmp 45) (.tmp 46) (.tmp 47) (.tmp 50) rfl _ _ _ _ e0 e1 e2 e3
            · intro act w hb h
              have e0 := h (51, .agg (uc (row4 x y 1 xy))) (by simp)
              simp only [Array.getD_eq_getD_getElem?] at e0
              simp [go_sem, e0, sQuiet]
              exact C_p.out w (HP.out.step hb)
          · simp [headReads, headPut, specV, HeadSpec.val, HeadSpec.fresh, Act.put]
          · simp only [List.take_succ_cons, List.take_zero, List.drop_succ_cons, List.drop_zero, headEnd, HeadSpec.val, HeadSpec.fresh, Act.put, List.setIfInBounds_toArray, List.set_cons_succ, List.set_cons_zero]
            intro v1 hv1 hgs
            have HN := Lib.hid (blk_below hv1 (blk_lt HR.out) HR.out)
            have HNN := Lib.hid (setRow_heap v1 B _ (uc pl) _ _ HN.out)
            have hb2 : Below B w (v1.setRow B (uc pl)) := below_setRow (hb.trans (hv1.mono hB.out)) (Nat.le_refl _) _
            clear hgs hv1 hb
            go_wp2_with (with_reducible refine wpList_store_row rfl 28 _ _ rfl B (uc pl) rfl rfl 28 _ HN.out (sizePt _ Lp.out) (zrow4_size _ Lp.out) (uc_one _) ?_)
            exact bodyPost_ret (results_row_tmpF (by rfl) _ _ B 28 _ (0, 0) _ rfl HNN.out Tryd.underlying28 rfl (sizePt _ Lp.out)) rfl ⟨by rw [HANS.out.1, HANS.out.2]; rfl, by rw [HBB.out]; exact hb2⟩
theorem odd_bit (l : List UInt8) : (((bitP l 255 : Nat) : Int) == 1) = oddP l := by
  have h := (l.getD 31 0).toNat_lt
  have e : bitP l 255 = (l.getD 31 0).toNat / 128 := by
    show (l.getD 31 0).toNat / 2 ^ 7 % 2 = _
    omega
  rw [oddP, e]
  by_cases h1 : 128 ≤ (l.getD 31 0).toNat
  · rw [show (l.getD 31 0).toNat / 128 = 1 by omega, decide_eq_true h1]; rfl
  · rw [show (l.getD 31 0).toNat / 128 = 0 by omega, decide_eq_false h1]; rfl
theorem ansP_eq (l : List UInt8) : ansP (decide (lowP l < pF)) (lowP l % pF) (rootF (sqrP (lowP l % pF))).1 (rootF (sqrP (lowP l % pF))).2 (oddP l) = ofP l ∧ ansE (decide (lowP l < pF)) (rootF (sqrP (lowP l % pF))).1 (rootF (sqrP (lowP l % pF))).2 (oddP l) = ofE l := by
  rw [ofP, ofE, ansP, ansE]
  by_cases h : lowP l < pF
  · rw [Nat.mod_eq_of_lt h]
    exact ⟨rfl, rfl⟩
  · have h1 : decide (lowP l < pF) = false := by simp [h]
    have h2 : isP l = false := by rw [isP, h1]; rfl
    rw [h1, h2]
    constructor <;> simp only [Bool.false_and, Bool.false_eq_true, if_false]
theorem ptOf_any (s : ByteArray) (w : World) (hT : PrmQ w) :
    Calls Tryd.prog 9 #[.string s] w fun e w' => e = .returned (.tuple #[.agg (uc (ptL (ofPT s))), .int .i64 (ofET s)]) ∧ Below w.heap.size w w' := by
  by_cases h : s.size = 32
  · rw [ofPT, ofET, if_pos h, if_pos h, ← (ansP_eq s.data.toList).1, ← (ansP_eq s.data.toList).2]
    exact ptOfL_any s (decide (lowP s.data.toList < pF)) (rootF (sqrP (lowP s.data.toList % pF))).2 (oddP s.data.toList) (lowP s.data.toList % pF) (rootF (sqrP (lowP s.data.toList % pF))).1 (bitP s.data.toList 255) w h (Nat.mod_lt _ pF_pos) (rootF_lt _) hT (odd_bit _) (fun W => heightOf_any s W h) (fun W hW => rootAt_any _ W (Nat.mod_lt _ pF_pos) hW) (fun W => ptBit_any s 255 W h (by decide))
  · rw [ofPT, ofET, if_neg h, if_neg h]
    exact ptOfBad_any s w h
theorem basT_of : ofPT (⟨basL.toArray⟩ : ByteArray) = baseP := if_pos (leF_length _ 32)
set_option maxHeartbeats 4000000 in
theorem ptBase_any (w : World) (hT : PrmQ w) : Calls Tryd.prog 18 #[] w fun e w' => e = .returned (.agg (uc (ptL baseP))) ∧ Below w.heap.size w w' := by
  have C_4 : Hid (∀ W : World, Calls Tryd.prog 28 #[.int .i64 4] W fun e w' => e = .returned (.agg (uc (limN 4 4))) ∧ Below W.heap.size W w') := Lib.hid (fun W => smallPos_any 4 W (by decide))
  have C_5 : Hid (∀ W : World, Calls Tryd.prog 28 #[.int .i64 5] W fun e w' => e = .returned (.agg (uc (limN 4 5))) ∧ Below W.heap.size W w') := Lib.hid (fun W => smallPos_any 5 W (by decide))
  have l_v : invF 5 < pF := powF_lt _ _
  have C_v := Lib.hid (fun (W : World) => invF_any 5 W (by decide))
  have C_m := Lib.hid (fun (W : World) => mulF_any 4 (invF 5) W (by decide) l_v)
  have C_t := Lib.hid (fun (W : World) => bytesF_any (mulF 4 (invF 5)) W)
  rw [show leF (mulF 4 (invF 5)) 32 = basL from rfl] at C_t
  have C_o := Lib.hid (fun (W : World) (hW : PrmQ W) => ptOf_any (⟨basL.toArray⟩ : ByteArray) W hW)
  rw [basT_of] at C_o
  clear l_v
  generalize mulF 4 (invF 5) = m at *
  generalize invF 5 = v at *
  generalize (⟨basL.toArray⟩ : ByteArray) = tb at *
  generalize ofET tb = eb at *
  generalize baseP = bp at *
  obtain ⟨hz, hi⟩ := zero_of_info infoF
  obtain ⟨hzn, hin⟩ := zero_of_info infoNs
  obtain ⟨hzp, hip⟩ := zero_of_info infoPt
  have hb := below_new w (.cells zrow4 28)
  have HP := Lib.hid (hT.step hb)
  have HR := Lib.hid (blk_new w (.cells zrow4 28))
  clear hi hin hip hT
  go_enter Tryd.func18, Tryd.ntmps18
  go_wp2_with fail
  generalize (w.alloc _) = W0 at *
  have hB := Lib.hid hb.size
  generalize hBB : w.heap.size = B at *
  have HBB := Lib.hid hBB
  clear hBB
  refine (C_4.out W0).mono ?_
  rintro e W1 ⟨rfl, bk⟩
  replace hb := hb.trans (bk.mono hB.out)
  replace HP := Lib.hid (HP.out.step bk)
  replace hB := Lib.hid (Nat.le_trans hB.out bk.size)
  replace HR := Lib.hid (blk_below bk (blk_lt HR.out) HR.out)
  clear bk
  go_wp2_with fail
  refine (C_5.out W1).mono ?_
  rintro e W2 ⟨rfl, bk⟩
  replace hb := hb.trans (bk.mono hB.out)
  replace HP := Lib.hid (HP.out.step bk)
  replace hB := Lib.hid (Nat.le_trans hB.out bk.size)
  replace HR := Lib.hid (blk_below bk (blk_lt HR.out) HR.out)
  clear bk
  go_wp2_with fail
  refine (C_v.out W2).mono ?_
  rintro e W3 ⟨rfl, bk⟩
  replace hb := hb.trans (bk.mono hB.out)
  replace HP := Lib.hid (HP.out.step bk)
  replace hB := Lib.hid (Nat.le_trans hB.out bk.size)
  replace HR := Lib.hid (blk_below bk (blk_lt HR.out) HR.out)
  clear bk
  go_wp2_with fail
  refine (C_m.out W3).mono ?_
  rintro e W4 ⟨rfl, bk⟩
  replace hb := hb.trans (bk.mono hB.out)
  replace HP := Lib.hid (HP.out.step bk)
  replace hB := Lib.hid (Nat.le_trans hB.out bk.size)
  replace HR := Lib.hid (blk_below bk (blk_lt HR.out) HR.out)
  clear bk
  go_wp2_with fail
  refine (C_t.out W4).mono ?_
  rintro e W5 ⟨rfl, bk⟩
  replace hb := hb.trans (bk.mono hB.out)
  replace HP := Lib.hid (HP.out.step bk)
  replace hB := Lib.hid (Nat.le_trans hB.out bk.size)
  replace HR := Lib.hid (blk_below bk (blk_lt HR.out) HR.out)
  clear bk
  go_wp2_with fail
  refine (C_o.out W5 HP.out).mono ?_
  rintro e X ⟨rfl, bk⟩
  replace hb := hb.trans (bk.mono hB.out)
  replace HP := Lib.hid (HP.out.step bk)
  replace hB := Lib.hid (Nat.le_trans hB.out bk.size)
  replace HR := Lib.hid (blk_below bk (blk_lt HR.out) HR.out)
  clear bk
  have HN := Lib.hid (blk_new X (.cells zrow4 28))
  have hr := blk_lt HR.out
  have q1 := Lib.hid (setRow_heap _ X.heap.size _ (uc (ptL bp)) _ _ HN.out)
  have HR2 : Hid (((X.alloc (.cells zrow4 28)).setRow X.heap.size (uc (ptL bp))).heap[B]? = some (.cells zrow4 28)) := Lib.hid (by rw [setRow_other _ _ _ _ (by omega)]; exact blk_old HR.out)
  have hb4 : Below B w ((X.alloc (.cells zrow4 28)).setRow X.heap.size (uc (ptL bp))) := below_setRow (hb.alloc (by omega) _) (by omega) _
  clear C_4 C_5 C_v C_m C_t C_o HR hb HP
  go_wp2_with (first
    | (with_reducible refine wpList_store_row rfl 28 _ _ rfl X.heap.size (uc (ptL bp)) rfl rfl 28 _ HN.out (sizePt _ (ptL_length _)) (zrow4_size _ (ptL_length _)) (uc_one _) ?_)
    | (with_reducible refine wpList_load_row rfl 28 _ rfl X.heap.size rfl 28 _ (0, 0) _ q1.out Tryd.underlying28 rfl (sizePt _ (ptL_length _)) ?_)
    | (with_reducible refine wpList_store_row rfl 28 _ _ rfl B (uc (ptL bp)) rfl rfl 28 _ HR2.out (sizePt _ (ptL_length _)) (zrow4_size _ (ptL_length _)) (uc_one _) ?_))
  exact bodyPost_ret (v := .agg (uc (ptL bp))) (results_cell_row (by rfl) _ _ B 28 _ (0, 0) _ rfl (setRow_heap _ _ _ _ _ _ HR2.out) Tryd.underlying28 rfl (sizePt _ (ptL_length _))) rfl ⟨rfl, by rw [HBB.out]; exact below_setRow hb4 (Nat.le_refl _) _⟩
end Go.Proofs.YtcpdehfmlmmgiaaDoor
