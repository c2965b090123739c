/- The program's point so many times. -/
import Derived.Test.YtcpdehfmlmmgiaaDoorPpFns
namespace Go.Proofs.YtcpdehfmlmmgiaaDoor
open Go.RowKit Go.Sort
set_option maxRecDepth 100000
set_option linter.unusedSimpArgs false
set_option linter.unusedVariables false

set_option maxHeartbeats 2000000 in
theorem ptMulBad_any (p : PtN) (s : ByteArray) (w : World) (h : s.size ≠ 32) :
    Calls Tryd.prog 20 #[.agg (uc (ptL p)), .string s] w fun e w' => e = .returned (.tuple #[.agg (uc (ptL zeroP)), .int .i64 1]) ∧ Below w.heap.size w w' := by
  obtain ⟨hzp, hip⟩ := zero_of_info infoPt
  have d1 : ((s.size : Int) != 32) = true := by simp; omega
  have HR0 := Lib.hid (blk_new2 w (.cells (uc (ptL p)) 28) (.cells zrow4 28))
  have hb0 := below_new2 w (.cells (uc (ptL p)) 28) (.cells zrow4 28)
  have CZ := Lib.hid ptZero_any
  clear hip h
  go_enter Tryd.func20, Tryd.ntmps20
  go_wp2_with fail
  clear hzp
  generalize ((w.alloc _).alloc _) = W0 at *
  have hB := hb0.size
  generalize hBB : w.heap.size = B at *
  refine (CZ.out W0).mono ?_
  rintro e W1 ⟨rfl, bk⟩
  have HR := Lib.hid (blk_below bk (blk_lt HR0.out) HR0.out)
  have hb1 := hb0.trans (bk.mono hB)
  clear HR0 hb0 bk
  go_wp2_with (with_reducible refine wpList_store_row rfl 28 _ _ rfl (B + 1) (uc (ptL zeroP)) rfl rfl 28 _ HR.out (sizePt _ (ptL_length _)) (zrow4_size _ (ptL_length _)) (uc_one _) ?_)
  exact bodyPost_ret (results_row_tmpF (by rfl) _ _ (B + 1) 28 _ (0, 0) _ rfl (setRow_heap _ _ _ _ _ _ HR.out) Tryd.underlying28 rfl (sizePt _ (ptL_length _))) rfl ⟨rfl, by rw [hBB]; exact below_setRow hb1 (by omega) _⟩
set_option maxHeartbeats 8000000 in
theorem ptMul_any (p : PtN) (s : ByteArray) (w : World) (hp : p.Ok) (hs : s.size = 32) (hT : PrmQ w) :
    Calls Tryd.prog 20 #[.agg (uc (ptL p)), .string s] w fun e w' => e = .returned (.tuple #[.agg (uc (ptL (mulP p s.data.toList 256))), .int .i64 0]) ∧ Below w.heap.size w w' := by
  have d1 : ((s.size : Int) != 32) = false := by simp; omega
  have HT := Lib.hid hT
  have hTl := Lib.hid hT.lt
  have CB := Lib.hid (fun (n : Nat) (hn : n < 256) (W : World) => ptBit_any s n W hs hn)
  have C_z := Lib.hid ptZero_any
  have C_n0 := Lib.hid (fun (W : World) (hW : PrmQ W) => numbers_any zeroP W zeroP_ok hW)
  have C_np := Lib.hid (fun (W : World) (hW : PrmQ W) => numbers_any p W hp hW)
  have CS := Lib.hid sum_any
  have CO := Lib.hid or_pt_any
  have CP := Lib.hid point_any
  have HPO := Lib.hid hp
  generalize s.data.toList = l at *
  have HOK := Lib.hid (mulP_ok p l)
  have HM0 : Hid (mulP p l 0 = zeroP) := Lib.hid rfl
  have HMS := Lib.hid (fun n : Nat => show mulP p l (n + 1) = if bitP l (255 - n) = 1 then sumP (sumP (mulP p l n) (mulP p l n)) p else sumP (mulP p l n) (mulP p l n) from rfl)
  clear hp hs
  obtain ⟨hz, hi⟩ := zero_of_info infoF
  obtain ⟨hzn, hin⟩ := zero_of_info infoNs
  obtain ⟨hzp, hip⟩ := zero_of_info infoPt
  have hb := below_new2 w (.cells (uc (ptL p)) 28) (.cells zrow4 28)
  have HP := Lib.hid (hT.step hb)
  have HQ := Lib.hid (blk_old (o := .cells zrow4 28) (blk_new w (.cells (uc (ptL p)) 28)))
  have HR := Lib.hid (blk_new2 w (.cells (uc (ptL p)) 28) (.cells zrow4 28))
  clear hi hin hip hT
  go_enter Tryd.func20, Tryd.ntmps20
  go_upto_region 3 with fail
  generalize ((w.alloc _).alloc _) = W0 at *
  have hB := Lib.hid hb.size
  generalize hBB : w.heap.size = B at *
  have HBB := Lib.hid hBB
  clear hBB
  refine wp_region_fresh 6 35 [.val (.agg (uc (ptL zeroP))) [],
      .val (.agg (uc (numL zeroP))) [(13, .agg (uc (ptL zeroP)))],
      .val (.agg (uc (ptL p))) [(2, .pointer (some ⟨B, 0, none⟩))],
      .val (.agg (uc (numL p))) [(15, .agg (uc (ptL p)))],
      .fresh (.cells zrow4 57),
      .fresh (.cells zrow4 57)] (by kernel_rfl) (by kernel_rfl) rfl ?_ ?_ ?_
  · simp only [List.take_succ_cons, List.take_zero, headObl, specObl, HeadSpec.val, HeadSpec.fresh, and_true]
    refine ⟨?_, ?_, ?_, ?_, ?_, ?_⟩
    · intro act w hb h
      simp [go_sem, sQuiet]
      exact C_z.out w
    · intro act w hb h
      have e0 := h (13, .agg (uc (ptL zeroP))) (by simp)
      simp only [Array.getD_eq_getD_getElem?] at e0
      simp [go_sem, e0, sQuiet]
      exact C_n0.out w (HP.out.step hb)
    · intro act w hb h
      have e0 := h (2, .pointer (some ⟨B, 0, none⟩)) (by simp)
      exact sQuiet_load_row 28 (.tmp 2) rfl (B) e0 28 _ (0, 0) _ (blk_below hb (blk_lt HQ.out) HQ.out) Tryd.underlying28 rfl (sizePt _ (ptL_length _))
    · intro act w hb h
      have e0 := h (15, .agg (uc (ptL p))) (by simp)
      simp only [Array.getD_eq_getD_getElem?] at e0
      simp [go_sem, e0, sQuiet]
      exact C_np.out w (HP.out.step hb)
    · intro act w hb
      simp [go_sem, hzn]
    · intro act w hb
      simp [go_sem, hzn]
  · simp [headReads, headPut, specV, HeadSpec.val, HeadSpec.fresh, Act.put]
  · simp only [List.take_succ_cons, List.take_zero, List.drop_succ_cons, List.drop_zero, headEnd, HeadSpec.val, HeadSpec.fresh, Act.put, List.setIfInBounds_toArray, List.set_cons_succ, List.set_cons_zero]
    intro g6 hg6 _ g7 hg7 ng7 v1 hv1 hgs
    have ne_g6_g7 : g6 ≠ g7 := ng7 (g6, .cells zrow4 57) (by simp)
    have N_g6 := Lib.hid (show v1.heap[g6]? = some (.cells zrow4 57) from hgs (g6, .cells zrow4 57) (by simp))
    have N_g7 := Lib.hid (show v1.heap[g7]? = some (.cells zrow4 57) from hgs (g7, .cells zrow4 57) (by simp))
    have r6 := Lib.hid (Nat.lt_of_lt_of_le (blk_lt HR.out) hg6)
    have r7 := Lib.hid (Nat.lt_of_lt_of_le (blk_lt HR.out) hg7)
    have r67 := Lib.hid ne_g6_g7
    have M_g7 := Lib.hid (show (v1.setRow g6 (uc (numL zeroP))).heap[g7]? = some (.cells zrow4 57) from by rw [setRow_other _ _ _ _ (Ne.symm ne_g6_g7)]; exact N_g7.out)
    have hk : Below W0.heap.size W0 ((v1.setRow g6 (uc (numL zeroP))).setRow g7 (uc (numL p))) := below_setRow (below_setRow hv1 hg6 (uc (numL zeroP))) hg7 (uc (numL p))
    have k_g6 := Lib.hid (show ((v1.setRow g6 (uc (numL zeroP))).setRow g7 (uc (numL p))).heap[g6]? = some (.cells (uc (numL zeroP)) 57) from by rw [setRow_other _ _ _ _ ne_g6_g7]; exact setRow_heap _ g6 _ (uc (numL zeroP)) _ _ N_g6.out)
    have k_g7 := Lib.hid (show ((v1.setRow g6 (uc (numL zeroP))).setRow g7 (uc (numL p))).heap[g7]? = some (.cells (uc (numL p)) 57) from by exact setRow_heap _ g7 _ (uc (numL p)) _ _ M_g7.out)
    have hb1 := hb.trans (hk.mono hB.out)
    have hP1 := Lib.hid (HP.out.step hk)
    have kHQ := Lib.hid (blk_below hk (blk_lt HQ.out) HQ.out)
    have kHR := Lib.hid (blk_below hk (blk_lt HR.out) HR.out)
    have hB1 := Lib.hid (Nat.le_trans hB.out hk.size)
    have b_g6 := Lib.hid (Nat.le_trans hB.out hg6)
    have b_g7 := Lib.hid (Nat.le_trans hB.out hg7)
    clear HQ HR hv1 hgs hb HP hB hk hg6 hg7 ne_g6_g7 ng7
    go_wp2_with (first | (with_reducible refine wpList_store_row rfl 57 _ _ rfl g6 (uc (numL zeroP)) rfl rfl 57 _ N_g6.out (sizeNs _ (numL_length _)) (zrow4_size _ (numL_length _)) (uc_one _) ?_) | (with_reducible refine wpList_store_row rfl 57 _ _ rfl g7 (uc (numL p)) rfl rfl 57 _ M_g7.out (sizeNs _ (numL_length _)) (zrow4_size _ (numL_length _)) (uc_one _) ?_))
    generalize (World.setRow (World.setRow _ _ _) _ _) = W1 at *
    clear N_g6 N_g7 M_g7
    have HQ := kHQ
    have HR := kHR
    have H_g6 := k_g6
    have H_g7 := k_g7
    have hb := hb1; have HP := hP1; have hB := hB1
    clear hb1 hP1 hB1 kHQ kHR k_g6 k_g7
    try simp only [Act.put]
    clear C_z C_n0 C_np HQ
    go_loopw [8] (fun iv wr => ∃ n : Nat, n ≤ 256 ∧ iv = .int .i64 (255 - (n : Int)) ∧ wr.heap[B + 1]? = some (.cells zrow4 28) ∧ wr.heap[g6]? = some (.cells (uc (numL (mulP p l n))) 57) ∧ wr.heap[g7]? = some (.cells (uc (numL p)) 57) ∧ Below B w wr) (fun iv _ => (intOf iv + 1).toNat)
    case atStart => exact ⟨0, by omega, rfl, HR.out, by rw [HM0.out]; exact H_g6.out, H_g7.out, hb⟩
    case round =>
      clear HR H_g6 H_g7 hb hB HP
      obtain ⟨n, hn, rfl, hvr, hv6, hv7, hb⟩ := hrel
      have HR := Lib.hid hvr; have H_g6 := Lib.hid hv6; have H_g7 := Lib.hid hv7
      clear hvr hv6 hv7
      have hB : Hid (B ≤ wr.heap.size) := Lib.hid (by have := blk_lt HR.out; omega)
      have HP := Lib.hid (HT.out.below hb hTl.out)
      have hok := HOK.out n
      by_cases hlt : n < 256
      · obtain ⟨i, hi⟩ : ∃ i, i = 255 - n := ⟨_, rfl⟩
        have hii : (255 : Int) - (n : Int) = (i : Int) := by omega
        have hd : decide ((0 : Int) ≤ (i : Int)) = true := by simp
        have hi256 : i < 256 := by omega
        have HST := Lib.hid (HMS.out n)
        rw [← hi] at HST
        have hbt := bitP_two l i
        have C_b := Lib.hid (CB.out i hi256)
        rw [hii]
        generalize mulP p l n = q at *
        generalize bitP l i = t at *
        obtain ⟨d, ed⟩ : ∃ d, sumP q q = d := ⟨_, rfl⟩
        obtain ⟨x, ex⟩ : ∃ x, sumP d p = x := ⟨_, rfl⟩
        obtain ⟨r, er⟩ : ∃ r, (if t = 1 then x else d) = r := ⟨_, rfl⟩
        have HS3 : Hid (mulP p l (n + 1) = r) := Lib.hid (by rw [HST.out, ed, ex, er])
        have C_1 := Lib.hid (fun (W : World) (hW : PrmQ W) => CS.out q q W hok hok hW)
        rw [ed] at C_1
        have okd : d.Ok := ed ▸ sumP_ok _ _
        have okx : x.Ok := ex ▸ sumP_ok _ _
        have C_2 := Lib.hid (fun (W : World) (hW : PrmQ W) => CS.out d p W okd HPO.out hW)
        rw [ex] at C_2
        have C_o := Lib.hid (fun (W : World) (hW : PrmQ W) => CO.out d x t W okd okx hbt hW)
        rw [er] at C_o
        have C_s : Hid (∀ W : World, Calls Tryd.prog 28 #[.int .i64 (t : Int)] W fun e w' => e = .returned (.agg (uc (limN 4 t))) ∧ Below W.heap.size W w') := Lib.hid (fun W => smallPos_any t W (by omega))
        clear HST ed ex er okd okx hok hbt hi CB CO CP CS HOK HMS HM0 HPO
        go_wp2_with (with_reducible refine wpList_load_row rfl 57 _ rfl g6 rfl 57 _ (0, 0) _ H_g6.out Tryd.underlying57 rfl (sizeNs _ (numL_length _)) ?_)
        refine (C_1.out wr HP.out).mono ?_
        rintro e V1 ⟨rfl, bk⟩
        replace hb := hb.trans (bk.mono hB.out)
        replace hB := Lib.hid (Nat.le_trans hB.out bk.size)
        replace HR := Lib.hid (blk_below bk (blk_lt HR.out) HR.out)
        replace H_g6 := Lib.hid (blk_below bk (blk_lt H_g6.out) H_g6.out)
        replace H_g7 := Lib.hid (blk_below bk (blk_lt H_g7.out) H_g7.out)
        clear bk
        have k6 := Lib.hid (setRow_heap V1 g6 _ (uc (numL d)) _ _ H_g6.out)
        have k7 := Lib.hid ((setRow_other V1 g6 g7 (uc (numL d)) (Ne.symm r67.out)).trans H_g7.out)
        have kR := Lib.hid ((setRow_other V1 g6 (B + 1) (uc (numL d)) (by have := r6.out; omega)).trans HR.out)
        have kb : Below B w (V1.setRow g6 (uc (numL d))) := below_setRow hb (by have := r6.out; omega) _
        have kB : Hid (B ≤ (V1.setRow g6 (uc (numL d))).heap.size) := Lib.hid (by have := blk_lt kR.out; omega)
        have kP := Lib.hid (HT.out.below kb hTl.out)
        clear HR H_g7 hb hB HP
        go_wp2_with (with_reducible refine wpList_store_row rfl 57 _ _ rfl g6 (uc (numL d)) rfl rfl 57 _ H_g6.out (sizeNs _ (numL_length _)) (rows_size _ _ (numL_length _) (numL_length _)) (uc_one _) ?_)
        clear H_g6
        generalize (World.setRow _ _ _) = V2 at *
        have HR := kR; have H_g6 := k6; have H_g7 := k7; have hb := kb; have hB := kB; have HP := kP
        clear kR k6 k7 kb kB kP C_1
        try simp only [Act.put]
        refine wp_region_fresh 9 35 [.val (.agg (uc (numL d))) [(6, .pointer (some ⟨g6, 0, none⟩))],
      .val (.agg (uc (numL d))) [(6, .pointer (some ⟨g6, 0, none⟩))],
      .val (.agg (uc (numL p))) [(7, .pointer (some ⟨g7, 0, none⟩))],
      .val (.agg (uc (numL x))) [(25, .agg (uc (numL d))), (26, .agg (uc (numL p)))],
      .val (.string s) [(1, .string s)],
      .val (.int .i64 (i : Int)) [(8, .int .i64 (i : Int))],
      .val (.int .i64 (t : Int)) [(28, .string s), (29, .int .i64 (i : Int))],
      .val (.agg (uc (limN 4 t))) [(30, .int .i64 (t : Int))],
      .val (.agg (uc (numL r))) [(24, .agg (uc (numL d))), (27, .agg (uc (numL x))), (31, .agg (uc (limN 4 t)))]] (by kernel_rfl) (by kernel_rfl) rfl ?_ ?_ ?_
        · simp only [List.take_succ_cons, List.take_zero, headObl, specObl, HeadSpec.val, HeadSpec.fresh, and_true]
          refine ⟨?_, ?_, ?_, ?_, ?_, ?_, ?_, ?_, ?_⟩
          · intro act w hb h
            have e0 := h (6, .pointer (some ⟨g6, 0, none⟩)) (by simp)
            exact sQuiet_load_row 57 (.tmp 6) rfl (g6) e0 57 _ (0, 0) _ (blk_below hb (blk_lt H_g6.out) H_g6.out) Tryd.underlying57 rfl (sizeNs _ (numL_length _))
          · intro act w hb h
            have e0 := h (6, .pointer (some ⟨g6, 0, none⟩)) (by simp)
            exact sQuiet_load_row 57 (.tmp 6) rfl (g6) e0 57 _ (0, 0) _ (blk_below hb (blk_lt H_g6.out) H_g6.out) Tryd.underlying57 rfl (sizeNs _ (numL_length _))
          · intro act w hb h
            have e0 := h (7, .pointer (some ⟨g7, 0, none⟩)) (by simp)
            exact sQuiet_load_row 57 (.tmp 7) rfl (g7) e0 57 _ (0, 0) _ (blk_below hb (blk_lt H_g7.out) H_g7.out) Tryd.underlying57 rfl (sizeNs _ (numL_length _))
          · intro act w hb h
            have e0 := h (25, .agg (uc (numL d))) (by simp)
            have e1 := h (26, .agg (uc (numL p))) (by simp)
            simp only [Array.getD_eq_getD_getElem?] at e0 e1
            simp [go_sem, e0, e1, sQuiet]
            exact C_2.out w (HP.out.step hb)
          · intro act w hb h
            have e0 := h (1, .string s) (by simp)
            simp only [Array.getD_eq_getD_getElem?] at e0
            simp [go_sem, e0, sQuiet]
          · intro act w hb h
            have e0 := h (8, .int .i64 (i : Int)) (by simp)
            simp only [Array.getD_eq_getD_getElem?] at e0
            simp [go_sem, e0, sQuiet]
          · intro act w hb h
            have e0 := h (28, .string s) (by simp)
            have e1 := h (29, .int .i64 (i : Int)) (by simp)
            simp only [Array.getD_eq_getD_getElem?] at e0 e1
            simp [go_sem, e0, e1, sQuiet]
            exact C_b.out w
          · intro act w hb h
            have e0 := h (30, .int .i64 (t : Int)) (by simp)
            simp only [Array.getD_eq_getD_getElem?] at e0
            simp [go_sem, e0, sQuiet]
            exact C_s.out w
          · intro act w hb h
            have e0 := h (24, .agg (uc (numL d))) (by simp)
            have e1 := h (27, .agg (uc (numL x))) (by simp)
            have e2 := h (31, .agg (uc (limN 4 t))) (by simp)
            simp only [Array.getD_eq_getD_getElem?] at e0 e1 e2
            simp [go_sem, e0, e1, e2, sQuiet]
            exact C_o.out w (HP.out.step hb)
        · simp [headReads, headPut, specV, HeadSpec.val, HeadSpec.fresh, Act.put]
        · simp only [List.take_succ_cons, List.take_zero, List.drop_succ_cons, List.drop_zero, headEnd, HeadSpec.val, HeadSpec.fresh, Act.put, List.setIfInBounds_toArray, List.set_cons_succ, List.set_cons_zero]
          intro v1 hv1 hgs
          replace hb := hb.trans (hv1.mono hB.out)
          replace HR := Lib.hid (blk_below hv1 (blk_lt HR.out) HR.out)
          replace H_g6 := Lib.hid (blk_below hv1 (blk_lt H_g6.out) H_g6.out)
          replace H_g7 := Lib.hid (blk_below hv1 (blk_lt H_g7.out) H_g7.out)
          clear hv1 hgs C_2 C_o C_b C_s HP hB
          have k6 := Lib.hid (setRow_heap v1 g6 _ (uc (numL r)) _ _ H_g6.out)
          have k7 := Lib.hid ((setRow_other v1 g6 g7 (uc (numL r)) (Ne.symm r67.out)).trans H_g7.out)
          have kR := Lib.hid ((setRow_other v1 g6 (B + 1) (uc (numL r)) (by have := r6.out; omega)).trans HR.out)
          have kb : Below B w (v1.setRow g6 (uc (numL r))) := below_setRow hb (by have := r6.out; omega) _
          clear HR H_g7 hb
          go_wp2_with (with_reducible refine wpList_store_row rfl 57 _ _ rfl g6 (uc (numL r)) rfl rfl 57 _ H_g6.out (sizeNs _ (numL_length _)) (rows_size _ _ (numL_length _) (numL_length _)) (uc_one _) ?_)
          go_roundw
          case rel => exact ⟨n + 1, by omega, by go_num, kR.out, by rw [HS3.out]; exact k6.out, k7.out, kb⟩
          case measure => simp [intOf] <;> omega
      · have hd : decide ((0 : Int) ≤ (255 : Int) - (n : Int)) = false := by simp; omega
        obtain rfl : n = 256 := by omega
        have C_p := Lib.hid (fun (W : World) (hW : PrmQ W) => CP.out _ W hok hW)
        obtain ⟨q, hq⟩ : ∃ q, mulP p l 256 = q := ⟨_, rfl⟩
        rw [hq] at C_p H_g6
        have HQQ := Lib.hid hq
        clear hq hok CP CB CS CO HOK HMS HM0
        go_wp2_with (with_reducible refine wpList_load_row rfl 57 _ rfl g6 rfl 57 _ (0, 0) _ H_g6.out Tryd.underlying57 rfl (sizeNs _ (numL_length _)) ?_)
        refine (C_p.out wr HP.out).mono ?_
        rintro e V1 ⟨rfl, bk⟩
        replace hb := hb.trans (bk.mono hB.out)
        have HN := Lib.hid (blk_below bk (blk_lt HR.out) HR.out)
        clear HR H_g6 H_g7 HP hB bk
        go_wp2_with (with_reducible refine wpList_store_row rfl 28 _ _ rfl (B + 1) (uc (ptL q)) rfl rfl 28 _ HN.out (sizePt _ (ptL_length _)) (zrow4_size _ (ptL_length _)) (uc_one _) ?_)
        exact bodyPost_ret (results_row_tmpF (by rfl) _ _ (B + 1) 28 _ (0, 0) _ rfl (setRow_heap _ _ _ _ _ _ HN.out) Tryd.underlying28 rfl (sizePt _ (ptL_length _))) rfl ⟨by rw [HQQ.out]; rfl, by rw [HBB.out]; exact below_setRow hb (by omega) _⟩
theorem ptMulT_any (p : PtN) (s : ByteArray) (w : World) (hp : p.Ok) (hT : PrmQ w) :
    Calls Tryd.prog 20 #[.agg (uc (ptL p)), .string s] w fun e w' => e = .returned (.tuple #[.agg (uc (ptL (mulPT p s))), .int .i64 (mulET s)]) ∧ Below w.heap.size w w' := by
  by_cases h : s.size = 32
  · rw [mulPT, mulET, if_pos h, if_pos h]; exact ptMul_any p s w hp h hT
  · rw [mulPT, mulET, if_neg h, if_neg h]; exact ptMulBad_any p s w h
end Go.Proofs.YtcpdehfmlmmgiaaDoor
