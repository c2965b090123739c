/- The program's points: the neutral one, sums, the other way round; a bit of a text. -/
import Derived.Test.YtcpdehfmlmmgiaaDoorPpNums
import Derived.Test.YtcpdehfmlmmgiaaDoorPpSum
import Derived.Test.YtcpdehfmlmmgiaaDoorPpOr
import Derived.Test.YtcpdehfmlmmgiaaDoorConvS
import Derived.Test.YtcpdehfmlmmgiaaDoorFldR
namespace Go.Proofs.YtcpdehfmlmmgiaaDoor
open Go.RowKit Go.Sort
set_option maxRecDepth 100000
set_option linter.unusedSimpArgs false
set_option linter.unusedVariables false

theorem numbers_any (p : PtN) (w : World) (hp : p.Ok) (hT : PrmQ w) :
    Calls Tryd.prog 43 #[.agg (uc (ptL p))] w fun e w' => e = .returned (.agg (uc (numL p))) ∧ Below w.heap.size w w' :=
  numbersL_any p.x (subF p.y 1) (subF p.z 1) p.t p.y p.z w (subF_lt _ _) (subF_lt _ _) hT (add_sub _ _ hp.2.1 (by decide)) (add_sub _ _ hp.2.2.1 (by decide))
theorem point_any (p : PtN) (w : World) (hp : p.Ok) (hT : PrmQ w) :
    Calls Tryd.prog 30 #[.agg (uc (numL p))] w fun e w' => e = .returned (.agg (uc (ptL p))) ∧ Below w.heap.size w w' :=
  pointL_any p.x p.y p.z p.t _ _ w hp.2.1 hp.2.2.1 hT rfl rfl
theorem fac_two : addF facF facF = twoF := by rw [addF_two, mulF_comm]; rfl
theorem sum_any (p q : PtN) (w : World) (hp : p.Ok) (hq : q.Ok) (hT : PrmQ w) :
    Calls Tryd.prog 46 #[.agg (uc (numL p)), .agg (uc (numL q))] w fun e w' => e = .returned (.agg (uc (numL (sumP p q)))) ∧ Below w.heap.size w w' :=
  sumL_any p.x p.y p.z p.t q.x q.y q.z q.t facF _ _ _ _ _ _ twoF _ _ _ _ _ _ _ _ _ _ _ _ w hp.1 hp.2.1 hp.2.2.1 hp.2.2.2 hq.1 hq.2.1 hq.2.2.1 hq.2.2.2 rfl hT rfl rfl rfl rfl rfl rfl fac_two rfl rfl rfl rfl rfl rfl rfl rfl rfl rfl rfl rfl
theorem or_pt_any (p q : PtN) (n : Nat) (w : World) (hp : p.Ok) (hq : q.Ok) (hn : n = 0 ∨ n = 1) (hT : PrmQ w) :
    Calls Tryd.prog 49 #[.agg (uc (numL p)), .agg (uc (numL q)), .agg (uc (limN 4 n))] w fun e w' => e = .returned (.agg (uc (numL (if n = 1 then q else p)))) ∧ Below w.heap.size w w' := by
  refine or4_any p.x p.y p.z p.t q.x q.y q.z q.t n _ _ _ _ w hp.1 hq.1 hp.2.1 hq.2.1 hp.2.2.1 hq.2.2.1 hp.2.2.2 hq.2.2.2 hn hT ?_ ?_ ?_ ?_ <;> (unfold selF; split <;> rfl)
set_option maxHeartbeats 1000000 in
theorem ptZero_any (w : World) : Calls Tryd.prog 22 #[] w fun e w' => e = .returned (.agg (uc (ptL zeroP))) ∧ Below w.heap.size w w' := by
  obtain ⟨hzp, hip⟩ := zero_of_info infoPt
  have HR := Lib.hid (blk_new w (.cells zrow4 28))
  have hb := below_new w (.cells zrow4 28)
  rw [ptL_zero]
  have HI := Lib.hid (sizePt (row4 0 0 0 0) (row4_length _ _ _ _))
  have HZ := Lib.hid (zrow4_size (row4 0 0 0 0) (row4_length _ _ _ _))
  have HB := Lib.hid (fun (ops : Array Oper) (rest : List Oper) (o : Oper) (a : Act) (W : World) (Q : Exit → Act → World → Prop) => wpList_build_point0 (ops := ops) (rest := rest) (o := o) (a := a) (w := W) (Q := Q))
  generalize row4 0 0 0 0 = l at *
  clear hip
  go_enter Tryd.func22, Tryd.ntmps22
  go_wp2_with (first
    | (with_reducible refine HB.out _ _ _ _ _ _ rfl rfl ?_)
    | (with_reducible refine wpList_store_row rfl 28 _ _ rfl w.heap.size (uc l) rfl rfl 28 _ HR.out HI.out HZ.out (uc_one _) ?_))
  exact bodyPost_ret (v := .agg (uc l)) (results_cell_row (by rfl) _ _ w.heap.size 28 _ (0, 0) _ rfl (setRow_heap _ _ _ _ _ _ HR.out) Tryd.underlying28 rfl HI.out) rfl ⟨rfl, below_setRow hb (Nat.le_refl _) _⟩
set_option maxHeartbeats 4000000 in
theorem ptAdd_any (p q : PtN) (w : World) (hp : p.Ok) (hq : q.Ok) (hT : PrmQ w) :
    Calls Tryd.prog 16 #[.agg (uc (ptL p)), .agg (uc (ptL q))] w fun e w' => e = .returned (.agg (uc (ptL (sumP p q)))) ∧ Below w.heap.size w w' := by
  have C_1 := Lib.hid (fun (W : World) (hW : PrmQ W) => numbers_any p W hp hW)
  have C_2 := Lib.hid (fun (W : World) (hW : PrmQ W) => numbers_any q W hq hW)
  have C_3 := Lib.hid (fun (W : World) (hW : PrmQ W) => sum_any p q W hp hq hW)
  have C_4 := Lib.hid (fun (W : World) (hW : PrmQ W) => point_any (sumP p q) W (sumP_ok p q) hW)
  have lp := ptL_length p; have lq := ptL_length q; have lr := ptL_length (sumP p q)
  generalize ptL (sumP p q) = r at *
  generalize numL (sumP p q) = nr at *
  generalize ptL p = p1 at *
  generalize ptL q = q1 at *
  generalize numL p = np at *
  generalize numL q = nq at *
  have Lp := Lib.hid lp; have Lq := Lib.hid lq; have Lr := Lib.hid lr
  clear hp hq lp lq lr
  obtain ⟨hz, hi⟩ := zero_of_info infoF
  obtain ⟨hzn, hin⟩ := zero_of_info infoNs
  obtain ⟨hzp, hip⟩ := zero_of_info infoPt
  have hb := below_new3 w (.cells (uc p1) 28) (.cells (uc q1) 28) (.cells zrow4 28)
  have HP := Lib.hid (hT.step hb)
  have HQ := Lib.hid (blk_old (o := .cells zrow4 28) (blk_old (o := .cells (uc q1) 28) (blk_new w (.cells (uc p1) 28))))
  have HX := Lib.hid (blk_old (o := .cells zrow4 28) (blk_new2 w (.cells (uc p1) 28) (.cells (uc q1) 28)))
  have HR := Lib.hid (blk_new3 w (.cells (uc p1) 28) (.cells (uc q1) 28) (.cells zrow4 28))
  clear hi hin hip hT
  go_enter Tryd.func16, Tryd.ntmps16
  go_upto_region 1 with fail
  try clear hzn
  try clear hzp
  generalize (((w.alloc _).alloc _).alloc _) = W0 at *
  have hB := Lib.hid hb.size
  generalize hBB : w.heap.size = B at *
  have HBB := Lib.hid hBB
  clear hBB
  refine wp_region_fresh 6 11 [.val (.agg (uc p1)) [(2, .pointer (some ⟨B, 0, none⟩))],
      .val (.agg (uc np)) [(5, .agg (uc p1))],
      .val (.agg (uc q1)) [(3, .pointer (some ⟨B + 1, 0, none⟩))],
      .val (.agg (uc nq)) [(7, .agg (uc q1))],
      .val (.agg (uc nr)) [(6, .agg (uc np)), (8, .agg (uc nq))],
      .val (.agg (uc r)) [(9, .agg (uc nr))]] (by kernel_rfl) (by kernel_rfl) rfl ?_ ?_ ?_
  · simp only [List.take_succ_cons, List.take_zero, headObl, specObl, HeadSpec.val, HeadSpec.fresh, and_true]
    refine ⟨?_, ?_, ?_, ?_, ?_, ?_⟩
    · intro act w hb h
      have e0 := h (2, .pointer (some ⟨B, 0, none⟩)) (by simp)
      exact sQuiet_load_row 28 (.tmp 2) rfl (B) e0 28 _ (0, 0) _ (blk_below hb (blk_lt HQ.out) HQ.out) Tryd.underlying28 rfl (sizePt _ Lp.out)
    · intro act w hb h
      have e0 := h (5, .agg (uc p1)) (by simp)
      simp only [Array.getD_eq_getD_getElem?] at e0
      simp [go_sem, e0, sQuiet]
      exact C_1.out w (HP.out.step hb)
    · intro act w hb h
      have e0 := h (3, .pointer (some ⟨B + 1, 0, none⟩)) (by simp)
      exact sQuiet_load_row 28 (.tmp 3) rfl (B + 1) e0 28 _ (0, 0) _ (blk_below hb (blk_lt HX.out) HX.out) Tryd.underlying28 rfl (sizePt _ Lq.out)
    · intro act w hb h
      have e0 := h (7, .agg (uc q1)) (by simp)
      simp only [Array.getD_eq_getD_getElem?] at e0
      simp [go_sem, e0, sQuiet]
      exact C_2.out w (HP.out.step hb)
    · intro act w hb h
      have e0 := h (6, .agg (uc np)) (by simp)
      have e1 := h (8, .agg (uc nq)) (by simp)
      simp only [Array.getD_eq_getD_getElem?] at e0 e1
      simp [go_sem, e0, e1, sQuiet]
      exact C_3.out w (HP.out.step hb)
    · intro act w hb h
      have e0 := h (9, .agg (uc nr)) (by simp)
      simp only [Array.getD_eq_getD_getElem?] at e0
      simp [go_sem, e0, sQuiet]
      exact C_4.out w (HP.out.step hb)
  · simp [headReads, headPut, specV, HeadSpec.val, HeadSpec.fresh, Act.put]
  · simp only [List.take_succ_cons, List.take_zero, List.drop_succ_cons, List.drop_zero, headEnd, HeadSpec.val, HeadSpec.fresh, Act.put, List.setIfInBounds_toArray, List.set_cons_succ, List.set_cons_zero]
    intro v1 hv1 hgs
    have HN := Lib.hid (blk_below hv1 (blk_lt HR.out) HR.out)
    have HNN := Lib.hid (setRow_heap v1 (B + 1 + 1) _ (uc r) _ _ HN.out)
    have hb2 : Below B w (v1.setRow (B + 1 + 1) (uc r)) := below_setRow (hb.trans (hv1.mono hB.out)) (by omega) _
    clear hgs hv1 hb
    go_wp2_with (with_reducible refine wpList_store_row rfl 28 _ _ rfl (B + 1 + 1) (uc r) rfl rfl 28 _ HN.out (sizePt _ Lr.out) (zrow4_size _ Lr.out) (uc_one _) ?_)
    exact bodyPost_ret (v := .agg (uc r)) (results_cell_row (by rfl) _ _ (B + 1 + 1) 28 _ (0, 0) _ rfl HNN.out Tryd.underlying28 rfl (sizePt _ Lr.out)) rfl ⟨rfl, by rw [HBB.out]; exact hb2⟩
set_option maxHeartbeats 4000000 in
theorem negL_any (a b c d na nd : Nat) (w : World) (l_a : a < pF) (l_d : d < pF) (hT : PrmQ w)
    (e_na : subF 0 a = na) (e_nd : subF 0 d = nd) :
    Calls Tryd.prog 13 #[.agg (uc (row4 a b c d))] w fun e w' => e = .returned (.agg (uc (row4 na b c nd))) ∧ Below w.heap.size w w' := by
  have l_na : na < pF := e_na ▸ subF_lt _ _
  have l_nd : nd < pF := e_nd ▸ subF_lt _ _
  have C_na := Lib.hid (fun (W : World) (hW : PrmQ W) => subF_any 0 a W (by decide) l_a hW)
  rw [e_na] at C_na
  have C_nd := Lib.hid (fun (W : World) (hW : PrmQ W) => subF_any 0 d W (by decide) l_d hW)
  rw [e_nd] at C_nd
  clear e_na l_na e_nd l_nd l_a l_d
  obtain ⟨hz, hi⟩ := zero_of_info infoF
  obtain ⟨hzn, hin⟩ := zero_of_info infoNs
  obtain ⟨hzp, hip⟩ := zero_of_info infoPt
  have hb := below_new2 w (.cells (uc (row4 a b c d)) 28) (.cells zrow4 28)
  have HP := Lib.hid (hT.step hb)
  have HQ := Lib.hid (blk_old (o := .cells zrow4 28) (blk_new w (.cells (uc (row4 a b c d)) 28)))
  have HR := Lib.hid (blk_new2 w (.cells (uc (row4 a b c d)) 28) (.cells zrow4 28))
  clear hi hin hip hT
  go_enter Tryd.func13, Tryd.ntmps13
  go_upto_region 1 with fail
  try clear hzn
  try clear hzp
  generalize ((w.alloc _).alloc _) = W0 at *
  have hB := Lib.hid hb.size
  generalize hBB : w.heap.size = B at *
  have HBB := Lib.hid hBB
  clear hBB
  refine wp_region_fresh 13 16 [.val (.agg (uc (limN 4 0))) [],
      .val (.pointer (some ⟨B, 0, none⟩)) [(1, .pointer (some ⟨B, 0, none⟩))],
      .val (.agg (uc (limN 4 a))) [(4, .pointer (some ⟨B, 0, none⟩))],
      .val (.agg (uc (limN 4 na))) [(3, .agg (uc (limN 4 0))), (5, .agg (uc (limN 4 a)))],
      .val (.pointer (some ⟨B, 4, none⟩)) [(1, .pointer (some ⟨B, 0, none⟩))],
      .val (.agg (uc (limN 4 b))) [(7, .pointer (some ⟨B, 4, none⟩))],
      .val (.pointer (some ⟨B, 8, none⟩)) [(1, .pointer (some ⟨B, 0, none⟩))],
      .val (.agg (uc (limN 4 c))) [(9, .pointer (some ⟨B, 8, none⟩))],
      .val (.agg (uc (limN 4 0))) [],
      .val (.pointer (some ⟨B, 12, none⟩)) [(1, .pointer (some ⟨B, 0, none⟩))],
      .val (.agg (uc (limN 4 d))) [(12, .pointer (some ⟨B, 12, none⟩))],
      .val (.agg (uc (limN 4 nd))) [(11, .agg (uc (limN 4 0))), (13, .agg (uc (limN 4 d)))],
      .val (.agg (uc (row4 na b c nd))) [(6, .agg (uc (limN 4 na))), (8, .agg (uc (limN 4 b))), (10, .agg (uc (limN 4 c))), (14, .agg (uc (limN 4 nd)))]] (by kernel_rfl) (by kernel_rfl) rfl ?_ ?_ ?_
  · simp only [List.take_succ_cons, List.take_zero, headObl, specObl, HeadSpec.val, HeadSpec.fresh, and_true]
    refine ⟨?_, ?_, ?_, ?_, ?_, ?_, ?_, ?_, ?_, ?_, ?_, ?_, ?_⟩
    · intro act w hb h
      exact sQuiet_num0 rfl
    · intro act w hb h
      have e0 := h (1, .pointer (some ⟨B, 0, none⟩)) (by simp)
      simp only [Array.getD_eq_getD_getElem?] at e0
      simp [go_sem, e0, sQuiet]
    · intro act w hb h
      have e0 := h (4, .pointer (some ⟨B, 0, none⟩)) (by simp)
      exact sQuiet_load_in4 (.tmp 4) rfl (B) 0 e0 28 _ _ (0, 0) (blk_below hb (blk_lt HQ.out) HQ.out) (limN_length _ _) (row4_0 _ _ _ _)
    · intro act w hb h
      have e0 := h (3, .agg (uc (limN 4 0))) (by simp)
      have e1 := h (5, .agg (uc (limN 4 a))) (by simp)
      simp only [Array.getD_eq_getD_getElem?] at e0 e1
      simp [go_sem, e0, e1, sQuiet]
      exact C_na.out w (HP.out.step hb)
    · intro act w hb h
      have e0 := h (1, .pointer (some ⟨B, 0, none⟩)) (by simp)
      simp only [Array.getD_eq_getD_getElem?] at e0
      simp [go_sem, e0, sQuiet]
    · intro act w hb h
      have e0 := h (7, .pointer (some ⟨B, 4, none⟩)) (by simp)
      exact sQuiet_load_in4 (.tmp 7) rfl (B) 4 e0 28 _ _ (0, 0) (blk_below hb (blk_lt HQ.out) HQ.out) (limN_length _ _) (row4_1 _ _ _ _)
    · intro act w hb h
      have e0 := h (1, .pointer (some ⟨B, 0, none⟩)) (by simp)
      simp only [Array.getD_eq_getD_getElem?] at e0
      simp [go_sem, e0, sQuiet]
    · intro act w hb h
      have e0 := h (9, .pointer (some ⟨B, 8, none⟩)) (by simp)
      exact sQuiet_load_in4 (.tmp 9) rfl (B) 8 e0 28 _ _ (0, 0) (blk_below hb (blk_lt HQ.out) HQ.out) (limN_length _ _) (row4_2 _ _ _ _)
    · intro act w hb h
      exact sQuiet_num0 rfl
    · intro act w hb h
      have e0 := h (1, .pointer (some ⟨B, 0, none⟩)) (by simp)
      simp only [Array.getD_eq_getD_getElem?] at e0
      simp [go_sem, e0, sQuiet]
    · intro act w hb h
      have e0 := h (12, .pointer (some ⟨B, 12, none⟩)) (by simp)
      exact sQuiet_load_in4 (.tmp 12) rfl (B) 12 e0 28 _ _ (0, 0) (blk_below hb (blk_lt HQ.out) HQ.out) (limN_length _ _) (row4_3 _ _ _ _)
    · intro act w hb h
      have e0 := h (11, .agg (uc (limN 4 0))) (by simp)
      have e1 := h (13, .agg (uc (limN 4 d))) (by simp)
      simp only [Array.getD_eq_getD_getElem?] at e0 e1
      simp [go_sem, e0, e1, sQuiet]
      exact C_nd.out w (HP.out.step hb)
    · intro act w hb h
      have e0 := h (6, .agg (uc (limN 4 na))) (by simp)
      have e1 := h (8, .agg (uc (limN 4 b))) (by simp)
      have e2 := h (10, .agg (uc (limN 4 c))) (by simp)
      have e3 := h (14, .agg (uc (limN 4 nd))) (by simp)
      exact sQuiet_build_point4 (.tmp 6) (.tmp 8) (.tmp 10) (.tmp 14) rfl _ _ _ _ e0 e1 e2 e3
  · simp [headReads, headPut, specV, HeadSpec.val, HeadSpec.fresh, Act.put]
  · simp only [List.take_succ_cons, List.take_zero, List.drop_succ_cons, List.drop_zero, headEnd, HeadSpec.val, HeadSpec.fresh, Act.put, List.setIfInBounds_toArray, List.set_cons_succ, List.set_cons_zero]
    intro v1 hv1 hgs
    have HN := Lib.hid (blk_below hv1 (blk_lt HR.out) HR.out)
    have HNN := Lib.hid (setRow_heap v1 (B + 1) _ (uc (row4 na b c nd)) _ _ HN.out)
    have hb2 : Below B w (v1.setRow (B + 1) (uc (row4 na b c nd))) := below_setRow (hb.trans (hv1.mono hB.out)) (by omega) _
    clear hgs hv1 hb
    go_wp2_with (with_reducible refine wpList_store_row rfl 28 _ _ rfl (B + 1) (uc (row4 na b c nd)) rfl rfl 28 _ HN.out (sizePt _ (row4_length _ _ _ _)) (zrow4_size _ (row4_length _ _ _ _)) (uc_one _) ?_)
    exact bodyPost_ret (v := .agg (uc (row4 na b c nd))) (results_cell_row (by rfl) _ _ (B + 1) 28 _ (0, 0) _ rfl HNN.out Tryd.underlying28 rfl (sizePt _ (row4_length _ _ _ _))) rfl ⟨rfl, by rw [HBB.out]; exact hb2⟩
theorem ptNeg_any (p : PtN) (w : World) (hp : p.Ok) (hT : PrmQ w) :
    Calls Tryd.prog 13 #[.agg (uc (ptL p))] w fun e w' => e = .returned (.agg (uc (ptL (negP p)))) ∧ Below w.heap.size w w' :=
  negL_any p.x (subF p.y 1) (subF p.z 1) p.t _ _ w hp.1 hp.2.2.2 hT rfl rfl
theorem and_one8 (y : Nat) (h : y < 256) : bits .and .u8 (y : Int) 1 = ((y % 2 : Nat) : Int) := by
  have e : (UInt8.ofNat y).toNat = y := by simp; omega
  have h1 := byte_and (UInt8.ofNat y) 1
  rw [e, UInt8.toNat_and, e] at h1
  rw [show (((1 : UInt8).toNat : Nat) : Int) = 1 from rfl] at h1
  rw [h1, show (1 : UInt8).toNat = 1 from rfl, Nat.and_one_is_mod]
theorem bit_and (l : List UInt8) (i : Nat) : bits .and .u8 (((l.getD (i / 8) 0).toNat : Int) / 2 ^ (i % 8)) 1 = (bitP l i : Int) := by
  have h := (l.getD (i / 8) 0).toNat_lt
  have e : ((l.getD (i / 8) 0).toNat : Int) / 2 ^ (i % 8) = (((l.getD (i / 8) 0).toNat / 2 ^ (i % 8) : Nat) : Int) := by simp
  rw [e]
  have h2 : (l.getD (i / 8) 0).toNat / 2 ^ (i % 8) < 256 := Nat.lt_of_le_of_lt (Nat.div_le_self _ _) h
  rw [show bitP l i = (l.getD (i / 8) 0).toNat / 2 ^ (i % 8) % 2 from rfl]
  exact and_one8 _ h2
set_option maxHeartbeats 1000000 in
theorem ptBit_any (s : ByteArray) (n : Nat) (w : World) (hs : s.size = 32) (hn : n < 256) :
    Calls Tryd.prog 26 #[.string s, .int .i64 (n : Int)] w fun e w' => e = .returned (.int .i64 ((bitP s.data.toList n : Nat) : Int)) ∧ Below w.heap.size w w' := by
  have hbit := bit_and s.data.toList n
  have hin : n / 8 < s.size := by omega
  have hgb := getDF_byte s (n / 8) hin
  rw [hgb] at hbit
  have f1 : ((n : Int) / 8).toNat = n / 8 := by omega
  have f2 : ((n : Int) % 8).toNat = n % 8 := by omega
  have hwr : IntKind.i64.wrap ((bitP s.data.toList n : Nat) : Int) = ((bitP s.data.toList n : Nat) : Int) := by rcases bitP_two s.data.toList n with h | h <;> rw [h] <;> rfl
  generalize bitP s.data.toList n = b at *
  go_enter Tryd.func26, Tryd.ntmps26
  go_wp2_with fail
  go_ret
  exact ⟨rfl, Below.refl _ _⟩
end Go.Proofs.YtcpdehfmlmmgiaaDoor
