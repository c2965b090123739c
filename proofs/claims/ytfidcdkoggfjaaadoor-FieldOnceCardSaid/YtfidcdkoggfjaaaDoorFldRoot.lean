/- The program's root. -/
import Derived.Test.YtfidcdkoggfjaaaDoorFldInv
import Derived.Test.YtfidcdkoggfjaaaDoorFldEq
import Derived.Test.YtfidcdkoggfjaaaDoorFldPt
import Derived.Deep.Cut
namespace Go.Proofs.YtfidcdkoggfjaaaDoor
open Go.RowKit Go.Sort
set_option maxRecDepth 100000
set_option linter.unusedSimpArgs false
set_option linter.unusedVariables false

theorem powF_two (x : Nat) : powF x (2 ^ 1) = mulF x x := by rw [powF, mulF, show 2 ^ 1 = 2 from rfl, Nat.pow_succ, Nat.pow_one]
theorem root_first (x : Nat) : mulF (powF (onesF x 250) (2 ^ 2)) (powF x (2 ^ 1)) = rootX x := by
  rw [onesF, powF_pow, powF_mul, show (2 ^ 250 - 1) * 2 ^ 2 + 2 ^ 1 = (pF + 3) / 8 by decide]
  rfl
theorem lim_same (x y : Nat) (hx : x < pF) (hy : y < pF) : decide (limN 4 x = limN 4 y) = decide (x = y) := by
  by_cases h : x = y
  · simp [h]
  · have : limN 4 x ≠ limN 4 y := fun e => h (limN_inj x y (Nat.lt_trans hx pF_lt_mF) (Nat.lt_trans hy pF_lt_mF) e)
    simp [h, this]
theorem wpList_build_zero' {ops : Array Oper} {rest : List Oper} {o : Oper} {a : Act} {w : World} {Q : Exit → Act → World → Prop} (hg : o.guard = none) (ho : o.op = .build 26 #[])
    (h : wpList Tryd.prog ops Q rest (a.put o.dst (.agg (uc (limN 4 0)))) w) : wpList Tryd.prog ops Q (o :: rest) a w := wpList_build_zero hg ho (by rw [zeros4_lim]; exact h)
/-- Whether two numbers differ, in a quiet walk. -/
theorem quiet_neq {ops : Array Oper} {w : World} {Q : Act → Prop} {a : Act} {o : Oper} {rest : List Oper} (hw : Region.wanted o (yielded ops a.tmps) = true) (x y : Operand) (ho : o.op = .binOp .neq 26 x y 26) (l m : List Nat) (b : Bool)
    (hl : l.length = 4) (hm : m.length = 4) (hx : a.eval x = .agg (uc l)) (hy : a.eval y = .agg (uc m)) (hb : (!decide (l = m)) = b)
    (h : wpQuiet Tryd.prog ops (fun w' => ∃ p : Regrown, w' = grow (redrawn w p.d) p.os) Q rest (a.put o.dst (.bool b))) : wpQuiet Tryd.prog ops (fun w' => ∃ p : Regrown, w' = grow (redrawn w p.d) p.os) Q (o :: rest) a := by
  refine BigFrame.wpQuiet_want hw fun K hK => ⟨.bool b, fun w' hw' => ?_, hK _ h⟩
  have e1 : (eqGuard .neq 26 x y (.agg (uc l)) (.agg (uc m))).run Tryd.prog w' = .ok () w' := run_eqGuard_agg w' .neq 26 x y _ _ (by kernel_rfl)
  have e2 : (binOp .neq 26 (.agg (uc l)) (.agg (uc m))).run Tryd.prog w' = .ok (.bool b) w' := by
    rw [run_neq_struct, num_eq l m hl hm]
    simp only [Result.andThen_ok, hb]
  unfold Oper.quietAt execOp
  simp only [ho, hx, hy, Sem.run_bind, e1, e2, Result.andThen_ok]
  exact ⟨rfl, rfl⟩
theorem rootF_same (x : Nat) (h : mulF (rootX x) (rootX x) = x) : rootF x = (evenF (rootX x), true) := by
  have hy : rootY x = rootX x := if_pos h
  rw [rootF, hy, if_pos h]
  rfl
theorem rootF_other (x : Nat) (h : ¬ mulF (rootX x) (rootX x) = x) : mulF (rootX x) (powF 2 ((pF - 1) / 4)) = rootY x := (if_neg h).symm
theorem rootF_yes (x : Nat) (h : mulF (rootY x) (rootY x) = x) : rootF x = (evenF (rootY x), true) := by rw [rootF, if_pos h]; rfl
theorem rootF_no (x : Nat) (h : ¬ mulF (rootY x) (rootY x) = x) : rootF x = (0, false) := by rw [rootF, if_neg h]
theorem rootX_lt (x : Nat) : rootX x < pF := powF_lt _ _

set_option maxHeartbeats 4000000 in
theorem rootF_any (x : Nat) (w : World) (hx : x < pF) (hT : PrmQ w) :
    Calls Tryd.prog 30 #[.agg (uc (limN 4 x))] w fun e w' => e = .returned (.tuple #[.agg (uc (limN 4 (rootF x).1)), .bool (rootF x).2]) ∧ Below w.heap.size w w' := by
  obtain ⟨hz, hi⟩ := zero_of_info infoF
  have H1 := Lib.hid (blk_old (o := .cells zeros4 26) (blk_new w (.cells (uc (limN 4 x)) 26)))
  have H2 := Lib.hid (blk_new2 w (.cells (uc (limN 4 x)) 26) (.cells zeros4 26))
  have hb := below_new2 w (.cells (uc (limN 4 x)) 26) (.cells zeros4 26)
  have HP := Lib.hid (show PrmQ w from hT)
  have HPl := Lib.hid hT.lt
  have C := Lib.hid (fun W => ones_any x W hx)
  have S1 := Lib.hid (fun W => squared_any (onesF x 250) 2 W (onesF_lt _ _) (by omega))
  have S2 := Lib.hid (fun W => squared_any x 1 W hx (by omega))
  have M1 := Lib.hid (fun W => mulF_any (powF (onesF x 250) (2 ^ 2)) (powF x (2 ^ 1)) W (powF_lt _ _) (powF_lt _ _))
  have S3 := Lib.hid (fun W => squared_any (rootX x) 1 W (rootX_lt x) (by omega))
  have S4 := Lib.hid (fun W => squared_any (rootY x) 1 W (rootY_lt x) (by omega))
  have R := Lib.hid (fun W => rmo_any W)
  have M2 := Lib.hid (fun W => mulF_any (rootX x) (powF 2 ((pF - 1) / 4)) W (rootX_lt x) (powF_lt _ _))
  have E1 := Lib.hid (fun W hW => even_any (rootX x) W (rootX_lt x) hW)
  have E2 := Lib.hid (fun W hW => even_any (rootY x) W (rootY_lt x) hW)
  rw [root_first] at M1
  rw [powF_two] at S3 S4
  have D1 := Lib.hid (lim_same (mulF (rootX x) (rootX x)) x (mulF_lt _ _) hx)
  have D2 := Lib.hid (lim_same (mulF (rootY x) (rootY x)) x (mulF_lt _ _) hx)
  have V1 := Lib.hid (rootF_same x); have V2 := Lib.hid (rootF_other x); have V3 := Lib.hid (rootF_yes x); have V4 := Lib.hid (rootF_no x)
  have I1 := Lib.hid (sizeF' x)
  have IX := Lib.hid (sizeF' (rootX x)); have ZX := Lib.hid (zerosF_size (rootX x)); have OX := Lib.hid (uc_one (limN 4 (rootX x)))
  have IY := Lib.hid (sizeF' (rootY x)); have OY := Lib.hid (uc_one (limN 4 (rootY x)))
  have ZY : Hid ((uc (limN 4 (rootX x))).size = (uc (limN 4 (rootY x))).size) := Lib.hid (by rw [uc_size, uc_size, limN_length, limN_length])
  have I0 := Lib.hid (sizeF' 0); have O0 := Lib.hid (uc_one (limN 4 0)); have Z0 := Lib.hid (zerosF_size 0)
  have IEX := Lib.hid (sizeF' (evenF (rootX x))); have ZEX := Lib.hid (zerosF_size (evenF (rootX x))); have OEX := Lib.hid (uc_one (limN 4 (evenF (rootX x))))
  have IEY := Lib.hid (sizeF' (evenF (rootY x))); have ZEY := Lib.hid (zerosF_size (evenF (rootY x))); have OEY := Lib.hid (uc_one (limN 4 (evenF (rootY x))))
  have LS1 := Lib.hid (limN_length 4 (mulF (rootX x) (rootX x))); have LS2 := Lib.hid (limN_length 4 (mulF (rootY x) (rootY x))); have Lx := Lib.hid (limN_length 4 x)
  clear hi hx hT
  go_enter Tryd.func30, Tryd.ntmps30
  go_upto_region 1 with fail
  generalize ((w.alloc _).alloc _) = W0 at *
  generalize hBB : w.heap.size = B at *
  have HBB := Lib.hid hBB
  clear hBB
  generalize hX : rootX x = X at *
  generalize hY : rootY x = Y at *
  generalize powF (onesF x 250) (2 ^ 2) = q1 at *
  generalize powF x (2 ^ 1) = q2 at *
  generalize onesF x 250 = u250 at *
  generalize powF 2 ((pF - 1) / 4) = rm at *
  generalize mulF X X = XX at *
  generalize mulF Y Y = YY at *
  generalize evenF X = EX at *
  generalize evenF Y = EY at *
  clear hX hY
  refine wp_region_fresh 7 25 [.val (.agg (uc (limN 4 x))) [(1, .pointer (some ⟨B, 0, none⟩))], .val (.agg (uc (limN 4 u250))) [(5, .agg (uc (limN 4 x)))], .val (.agg (uc (limN 4 q1))) [(6, .agg (uc (limN 4 u250)))], .val (.agg (uc (limN 4 x))) [(1, .pointer (some ⟨B, 0, none⟩))], .val (.agg (uc (limN 4 q2))) [(8, .agg (uc (limN 4 x)))], .val (.agg (uc (limN 4 X))) [(7, .agg (uc (limN 4 q1))), (9, .agg (uc (limN 4 q2)))], .fresh (.cells zeros4 26)] (by kernel_rfl) (by kernel_rfl) rfl ?_ ?_ ?_
  · simp only [List.take_succ_cons, List.take_zero, headObl, specObl, HeadSpec.val, HeadSpec.fresh, and_true]
    refine ⟨?_, ?_, ?_, ?_, ?_, ?_, ?_⟩
    · intro a w hb h
      have e0 := h (1, .pointer (some ⟨B, 0, none⟩)) (by simp)
      exact sQuiet_load_row 26 (.tmp 1) rfl B e0 26 _ (0, 0) _ (blk_below hb (blk_lt H1.out) H1.out) Tryd.underlying26 rfl I1.out
    · intro a w hb h
      have e0 := h (5, .agg (uc (limN 4 x))) (by simp)
      simp only [Array.getD_eq_getD_getElem?] at e0
      simp [go_sem, e0, sQuiet]
      exact C.out w
    · intro a w hb h
      have e0 := h (6, .agg (uc (limN 4 u250))) (by simp)
      simp only [Array.getD_eq_getD_getElem?] at e0
      simp [go_sem, e0, sQuiet]
      exact S1.out w
    · intro a w hb h
      have e0 := h (1, .pointer (some ⟨B, 0, none⟩)) (by simp)
      exact sQuiet_load_row 26 (.tmp 1) rfl B e0 26 _ (0, 0) _ (blk_below hb (blk_lt H1.out) H1.out) Tryd.underlying26 rfl I1.out
    · intro a w hb h
      have e0 := h (8, .agg (uc (limN 4 x))) (by simp)
      simp only [Array.getD_eq_getD_getElem?] at e0
      simp [go_sem, e0, sQuiet]
      exact S2.out w
    · intro a w hb h
      have e0 := h (7, .agg (uc (limN 4 q1))) (by simp)
      have e1 := h (9, .agg (uc (limN 4 q2))) (by simp)
      simp only [Array.getD_eq_getD_getElem?] at e0 e1
      simp [go_sem, e0, e1, sQuiet]
      exact M1.out w
    · intro a w hb
      simp [go_sem, hz]
  · simp [headReads, headPut, specV, HeadSpec.val, HeadSpec.fresh, Act.put]
  · simp only [List.take_succ_cons, List.take_zero, List.drop_succ_cons, List.drop_zero, headEnd, HeadSpec.val, HeadSpec.fresh, Act.put, List.setIfInBounds_toArray, List.set_cons_succ, List.set_cons_zero]
    intro g4 hgg4 _ v1 hv1 hgs
    have HN := Lib.hid (show v1.heap[g4]? = some (.cells zeros4 26) from hgs (g4, .cells zeros4 26) (by simp))
    have hb1 : Below B w v1 := hb.trans (hv1.mono (by have := blk_lt H1.out; omega))
    have HNN := Lib.hid (setRow_heap v1 (g4) _ (uc (limN 4 X)) _ _ HN.out)
    have kH1 : Hid ((v1.setRow (g4) (uc (limN 4 X))).heap[B]? = some (.cells (uc (limN 4 x)) 26)) := Lib.hid (by rw [setRow_other _ _ _ _ (by have := blk_lt H1.out; omega)]; exact blk_below hv1 (blk_lt H1.out) H1.out)
    have kH2 : Hid ((v1.setRow (g4) (uc (limN 4 X))).heap[B + 1]? = some (.cells zeros4 26)) := Lib.hid (by rw [setRow_other _ _ _ _ (by have := blk_lt H2.out; omega)]; exact blk_below hv1 (blk_lt H2.out) H2.out)
    have hb2 : Below B w (v1.setRow (g4) (uc (limN 4 X))) := below_setRow hb1 (by have := blk_lt H1.out; omega) _
    have hg4 : B + 1 < g4 := by have := blk_lt H2.out; omega
    clear H1 H2 hb1 hv1 hgs hb
    go_wp2_with (with_reducible refine wpList_store_row rfl 26 _ _ rfl (g4) (uc (limN 4 X)) rfl rfl 26 _ HN.out IX.out ZX.out OX.out ?_)
    generalize World.setRow _ _ _ = W1 at *
    have H1 := kH1
    have H2 := kH2
    have H4 := HNN
    have hb := hb2
    clear kH1 kH2 HNN HN hb2 S1 M1 S2 C
    try simp only [Act.put]
    by_cases hc : XX = x
    · have hcc := hc
      have hsz := blk_lt H4.out
      refine wp_region_reads (by kernel_rfl) (by kernel_rfl) ?_
      refine arr_quiet_load rfl 26 _ rfl ⟨g4, 0, none⟩ rfl _ (arr_row_regrown 26 g4 26 _ (0, 0) _ H4.out Tryd.underlying26 rfl IX.out) ?_
      simp only [Act.put, List.setIfInBounds_toArray, List.set_cons_succ, List.set_cons_zero]
      first | go_big_quiet_step (exact Calls.regrown_of (S3.out _)) | quiet_step (exact Calls.regrown_of (S3.out _))
      refine arr_quiet_load rfl 26 _ rfl ⟨B, 0, none⟩ rfl _ (arr_row_regrown 26 B 26 _ (0, 0) _ H1.out Tryd.underlying26 rfl I1.out) ?_
      simp only [Act.put, List.setIfInBounds_toArray, List.set_cons_succ, List.set_cons_zero]
      refine quiet_neq rfl _ _ rfl (limN 4 XX) (limN 4 x) false LS1.out Lx.out rfl rfl (by rw [D1.out]; simp [hc]) ?_
      simp only [Act.put, List.setIfInBounds_toArray, List.set_cons_succ, List.set_cons_zero]
      refine wpQuiet_nil ?_
      intro V hv
      have H1 := Lib.hid (blk_below hv (blk_lt H1.out) H1.out)
      have H2 := Lib.hid (blk_below hv (blk_lt H2.out) H2.out)
      have H4 := Lib.hid (blk_below hv (blk_lt H4.out) H4.out)
      have hb : Below B w V := hb.trans (hv.mono (by omega))
      go_wp2_with fail
      have hsz := blk_lt H4.out
      refine wp_region_reads (by kernel_rfl) (by kernel_rfl) ?_
      refine arr_quiet_load rfl 26 _ rfl ⟨g4, 0, none⟩ rfl _ (arr_row_regrown 26 g4 26 _ (0, 0) _ H4.out Tryd.underlying26 rfl IX.out) ?_
      simp only [Act.put, List.setIfInBounds_toArray, List.set_cons_succ, List.set_cons_zero]
      first | go_big_quiet_step (exact Calls.regrown_of (S3.out _)) | quiet_step (exact Calls.regrown_of (S3.out _))
      refine arr_quiet_load rfl 26 _ rfl ⟨B, 0, none⟩ rfl _ (arr_row_regrown 26 B 26 _ (0, 0) _ H1.out Tryd.underlying26 rfl I1.out) ?_
      simp only [Act.put, List.setIfInBounds_toArray, List.set_cons_succ, List.set_cons_zero]
      refine quiet_neq rfl _ _ rfl (limN 4 XX) (limN 4 x) false LS1.out Lx.out rfl rfl (by rw [D1.out]; simp [hc]) ?_
      simp only [Act.put, List.setIfInBounds_toArray, List.set_cons_succ, List.set_cons_zero]
      refine wpQuiet_nil ?_
      intro V hv
      have H1 := Lib.hid (blk_below hv (blk_lt H1.out) H1.out)
      have H2 := Lib.hid (blk_below hv (blk_lt H2.out) H2.out)
      have H4 := Lib.hid (blk_below hv (blk_lt H4.out) H4.out)
      have hb : Below B w V := hb.trans (hv.mono (by omega))
      go_wp2_with (with_reducible refine wpList_load_row rfl 26 _ rfl g4 rfl 26 _ (0, 0) _ H4.out Tryd.underlying26 rfl IX.out ?_)
      have HPv := HP.out.below hb HPl.out
      refine (E1.out _ HPv).mono ?_
      rintro e V2 ⟨rfl, hv2⟩
      have hsz2 := blk_lt H4.out
      have H2 := Lib.hid (blk_below hv2 (blk_lt H2.out) H2.out)
      have hb : Below B w V2 := hb.trans (hv2.mono (by omega))
      go_wp2_with (with_reducible refine wpList_store_row rfl 26 _ _ rfl (B + 1) (uc (limN 4 EX)) rfl rfl 26 _ H2.out IEX.out ZEX.out OEX.out ?_)
      exact bodyPost_ret (results_row_tmpF (by rfl) _ _ (B + 1) 26 _ (0, 0) _ rfl (setRow_heap _ _ _ _ _ _ H2.out) Tryd.underlying26 rfl IEX.out) rfl ⟨by rw [V1.out hc]; rfl, by rw [HBB.out]; exact below_setRow hb (by omega) _⟩
    · have HM := Lib.hid (V2.out hc)
      rw [HM.out] at M2
      have hsz := blk_lt H4.out
      refine wp_region_reads (by kernel_rfl) (by kernel_rfl) ?_
      refine arr_quiet_load rfl 26 _ rfl ⟨g4, 0, none⟩ rfl _ (arr_row_regrown 26 g4 26 _ (0, 0) _ H4.out Tryd.underlying26 rfl IX.out) ?_
      simp only [Act.put, List.setIfInBounds_toArray, List.set_cons_succ, List.set_cons_zero]
      first | go_big_quiet_step (exact Calls.regrown_of (S3.out _)) | quiet_step (exact Calls.regrown_of (S3.out _))
      refine arr_quiet_load rfl 26 _ rfl ⟨B, 0, none⟩ rfl _ (arr_row_regrown 26 B 26 _ (0, 0) _ H1.out Tryd.underlying26 rfl I1.out) ?_
      simp only [Act.put, List.setIfInBounds_toArray, List.set_cons_succ, List.set_cons_zero]
      refine quiet_neq rfl _ _ rfl (limN 4 XX) (limN 4 x) true LS1.out Lx.out rfl rfl (by rw [D1.out]; simp [hc]) ?_
      simp only [Act.put, List.setIfInBounds_toArray, List.set_cons_succ, List.set_cons_zero]
      refine wpQuiet_nil ?_
      intro V hv
      have H1 := Lib.hid (blk_below hv (blk_lt H1.out) H1.out)
      have H2 := Lib.hid (blk_below hv (blk_lt H2.out) H2.out)
      have H4 := Lib.hid (blk_below hv (blk_lt H4.out) H4.out)
      have hb : Below B w V := hb.trans (hv.mono (by omega))
      go_wp2_with fail
      refine wp_region_fresh 3 25 [.val (.agg (uc (limN 4 X))) [(4, .pointer (some ⟨g4, 0, none⟩))], .val (.agg (uc (limN 4 rm))) [], .val (.agg (uc (limN 4 Y))) [(15, .agg (uc (limN 4 X))), (16, .agg (uc (limN 4 rm)))]] (by kernel_rfl) (by kernel_rfl) rfl ?_ ?_ ?_
      · simp only [List.take_succ_cons, List.take_zero, headObl, specObl, HeadSpec.val, HeadSpec.fresh, and_true]
        refine ⟨?_, ?_, ?_⟩
        · intro a w hb h
          have e0 := h (4, .pointer (some ⟨g4, 0, none⟩)) (by simp)
          exact sQuiet_load_row 26 (.tmp 4) rfl g4 e0 26 _ (0, 0) _ (blk_below hb (blk_lt H4.out) H4.out) Tryd.underlying26 rfl IX.out
        · intro a w hb h
          simp [go_sem, sQuiet]
          exact R.out w
        · intro a w hb h
          have e0 := h (15, .agg (uc (limN 4 X))) (by simp)
          have e1 := h (16, .agg (uc (limN 4 rm))) (by simp)
          simp only [Array.getD_eq_getD_getElem?] at e0 e1
          simp [go_sem, e0, e1, sQuiet]
          exact M2.out w
      · simp [headReads, headPut, specV, HeadSpec.val, HeadSpec.fresh, Act.put]
      · simp only [List.take_succ_cons, List.take_zero, List.drop_succ_cons, List.drop_zero, headEnd, HeadSpec.val, HeadSpec.fresh, Act.put, List.setIfInBounds_toArray, List.set_cons_succ, List.set_cons_zero]
        intro v1 hv1 hgs
        have HN := Lib.hid (blk_below hv1 (blk_lt H4.out) H4.out)
        have hb1 : Below B w v1 := hb.trans (hv1.mono (by have := blk_lt H1.out; omega))
        have HNN := Lib.hid (setRow_heap v1 (g4) _ (uc (limN 4 Y)) _ _ HN.out)
        have kH1 : Hid ((v1.setRow (g4) (uc (limN 4 Y))).heap[B]? = some (.cells (uc (limN 4 x)) 26)) := Lib.hid (by rw [setRow_other _ _ _ _ (by have := blk_lt H1.out; omega)]; exact blk_below hv1 (blk_lt H1.out) H1.out)
        have kH2 : Hid ((v1.setRow (g4) (uc (limN 4 Y))).heap[B + 1]? = some (.cells zeros4 26)) := Lib.hid (by rw [setRow_other _ _ _ _ (by have := blk_lt H2.out; omega)]; exact blk_below hv1 (blk_lt H2.out) H2.out)
        have hb2 : Below B w (v1.setRow (g4) (uc (limN 4 Y))) := below_setRow hb1 (by omega) _
        clear H1 H2 hb1 hv1 hgs hb H4
        go_wp2_with (with_reducible refine wpList_store_row rfl 26 _ _ rfl (g4) (uc (limN 4 Y)) rfl rfl 26 _ HN.out IY.out ZY.out OY.out ?_)
        have H1 := kH1
        have H2 := kH2
        have H4 := HNN
        have hb := hb2
        clear kH1 kH2 HNN HN hb2 HM hc
        go_wp2_with fail
        generalize World.setRow _ _ _ = W2 at *
        by_cases hc : YY = x
        · have hcc := hc
          have hsz := blk_lt H4.out
          refine wp_region_reads (by kernel_rfl) (by kernel_rfl) ?_
          refine arr_quiet_load rfl 26 _ rfl ⟨g4, 0, none⟩ rfl _ (arr_row_regrown 26 g4 26 _ (0, 0) _ H4.out Tryd.underlying26 rfl IY.out) ?_
          simp only [Act.put, List.setIfInBounds_toArray, List.set_cons_succ, List.set_cons_zero]
          first | go_big_quiet_step (exact Calls.regrown_of (S4.out _)) | quiet_step (exact Calls.regrown_of (S4.out _))
          refine arr_quiet_load rfl 26 _ rfl ⟨B, 0, none⟩ rfl _ (arr_row_regrown 26 B 26 _ (0, 0) _ H1.out Tryd.underlying26 rfl I1.out) ?_
          simp only [Act.put, List.setIfInBounds_toArray, List.set_cons_succ, List.set_cons_zero]
          refine quiet_neq rfl _ _ rfl (limN 4 YY) (limN 4 x) false LS2.out Lx.out rfl rfl (by rw [D2.out]; simp [hc]) ?_
          simp only [Act.put, List.setIfInBounds_toArray, List.set_cons_succ, List.set_cons_zero]
          refine wpQuiet_nil ?_
          intro V hv
          have H1 := Lib.hid (blk_below hv (blk_lt H1.out) H1.out)
          have H2 := Lib.hid (blk_below hv (blk_lt H2.out) H2.out)
          have H4 := Lib.hid (blk_below hv (blk_lt H4.out) H4.out)
          have hb : Below B w V := hb.trans (hv.mono (by omega))
          go_wp2_with (with_reducible refine wpList_load_row rfl 26 _ rfl g4 rfl 26 _ (0, 0) _ H4.out Tryd.underlying26 rfl IY.out ?_)
          have HPv := HP.out.below hb HPl.out
          refine (E2.out _ HPv).mono ?_
          rintro e V2 ⟨rfl, hv2⟩
          have hsz2 := blk_lt H4.out
          have H2 := Lib.hid (blk_below hv2 (blk_lt H2.out) H2.out)
          have hb : Below B w V2 := hb.trans (hv2.mono (by omega))
          go_wp2_with (with_reducible refine wpList_store_row rfl 26 _ _ rfl (B + 1) (uc (limN 4 EY)) rfl rfl 26 _ H2.out IEY.out ZEY.out OEY.out ?_)
          exact bodyPost_ret (results_row_tmpF (by rfl) _ _ (B + 1) 26 _ (0, 0) _ rfl (setRow_heap _ _ _ _ _ _ H2.out) Tryd.underlying26 rfl IEY.out) rfl ⟨by rw [V3.out hc]; rfl, by rw [HBB.out]; exact below_setRow hb (by omega) _⟩
        · have hcc := hc
          have hsz := blk_lt H4.out
          refine wp_region_reads (by kernel_rfl) (by kernel_rfl) ?_
          refine arr_quiet_load rfl 26 _ rfl ⟨g4, 0, none⟩ rfl _ (arr_row_regrown 26 g4 26 _ (0, 0) _ H4.out Tryd.underlying26 rfl IY.out) ?_
          simp only [Act.put, List.setIfInBounds_toArray, List.set_cons_succ, List.set_cons_zero]
          first | go_big_quiet_step (exact Calls.regrown_of (S4.out _)) | quiet_step (exact Calls.regrown_of (S4.out _))
          refine arr_quiet_load rfl 26 _ rfl ⟨B, 0, none⟩ rfl _ (arr_row_regrown 26 B 26 _ (0, 0) _ H1.out Tryd.underlying26 rfl I1.out) ?_
          simp only [Act.put, List.setIfInBounds_toArray, List.set_cons_succ, List.set_cons_zero]
          refine quiet_neq rfl _ _ rfl (limN 4 YY) (limN 4 x) true LS2.out Lx.out rfl rfl (by rw [D2.out]; simp [hc]) ?_
          simp only [Act.put, List.setIfInBounds_toArray, List.set_cons_succ, List.set_cons_zero]
          refine wpQuiet_nil ?_
          intro V hv
          have H1 := Lib.hid (blk_below hv (blk_lt H1.out) H1.out)
          have H2 := Lib.hid (blk_below hv (blk_lt H2.out) H2.out)
          have H4 := Lib.hid (blk_below hv (blk_lt H4.out) H4.out)
          have hb : Below B w V := hb.trans (hv.mono (by omega))
          go_wp2_with (first
            | (with_reducible refine wpList_build_zero' rfl rfl ?_)
            | (with_reducible refine wpList_store_row rfl 26 _ _ rfl (B + 1) (uc (limN 4 0)) rfl rfl 26 _ H2.out I0.out Z0.out O0.out ?_))
          exact bodyPost_ret (results_row_tmpF (by rfl) _ _ (B + 1) 26 _ (0, 0) _ rfl (setRow_heap _ _ _ _ _ _ H2.out) Tryd.underlying26 rfl I0.out) rfl ⟨by rw [V4.out hc]; rfl, by rw [HBB.out]; exact below_setRow hb (by omega) _⟩
end Go.Proofs.YtfidcdkoggfjaaaDoor
