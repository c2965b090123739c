/- The program's power of 250 bits that are 1. -/
import Derived.Test.YtfidcdkoggfjaaaDoorFldSq
import Derived.Test.YtfidcdkoggfjaaaDoorFresh
namespace Go.Proofs.YtfidcdkoggfjaaaDoor
open Go.RowKit Go.Sort
set_option maxRecDepth 100000
set_option linter.unusedSimpArgs false
set_option linter.unusedVariables false

/-- The power of so many bits that are 1. -/
def onesF (x n : Nat) : Nat := powF x (2 ^ n - 1)
theorem onesF_lt (x n : Nat) : onesF x n < pF := powF_lt _ _
theorem onesF_one (x : Nat) (hx : x < pF) : onesF x 1 = x := powF_one x hx
theorem onesF_add (x n m : Nat) : mulF (powF (onesF x n) (2 ^ m)) (onesF x m) = onesF x (n + m) := by
  rw [onesF, onesF, onesF, powF_pow, powF_mul]
  congr 1
  have h1 : 0 < 2 ^ n := Nat.pow_pos (by decide)
  have h2 : 0 < 2 ^ m := Nat.pow_pos (by decide)
  rw [Nat.pow_add, Nat.sub_mul, Nat.one_mul]
  have h3 : 2 ^ m ≤ 2 ^ n * 2 ^ m := Nat.le_mul_of_pos_left _ h1
  omega
theorem zerosF_size (x : Nat) : zeros4.size = (uc (limN 4 x)).size := by rw [uc_size, limN_length]; exact uc_size _
theorem sizeF' (x : Nat) : (Tryd.prog.info? 26).map (·.size) = some (uc (limN 4 x)).size := sizeF _ (limN_length _ _)

set_option maxHeartbeats 4000000 in
theorem ones_any (x : Nat) (w : World) (hx : x < pF) :
    Calls Tryd.prog 42 #[.agg (uc (limN 4 x))] w fun e w' => e = .returned (.agg (uc (limN 4 (onesF x 250)))) ∧ Below w.heap.size w w' := by
  obtain ⟨hz, hi⟩ := zero_of_info infoF
  have H1 := Lib.hid (blk_old (o := .cells zeros4 26) (blk_new w (.cells (uc (limN 4 x)) 26)))
  have H2 := Lib.hid (blk_new2 w (.cells (uc (limN 4 x)) 26) (.cells zeros4 26))
  have hb := below_new2 w (.cells (uc (limN 4 x)) 26) (.cells zeros4 26)
  have S1 := Lib.hid (fun W => squared_any (onesF x 1) 1 W (onesF_lt _ _) (by omega))
  have M1 := Lib.hid (fun W => mulF_any (powF (onesF x 1) (2 ^ 1)) (onesF x 1) W (powF_lt _ _) (onesF_lt _ _))
  rw [onesF_add, show 1 + 1 = 2 from rfl] at M1
  have I2 := Lib.hid (sizeF' (onesF x 2)); have Z2 := Lib.hid (zerosF_size (onesF x 2)); have O2 := Lib.hid (uc_one (limN 4 (onesF x 2)))
  have S2 := Lib.hid (fun W => squared_any (onesF x 2) 2 W (onesF_lt _ _) (by omega))
  have M2 := Lib.hid (fun W => mulF_any (powF (onesF x 2) (2 ^ 2)) (onesF x 2) W (powF_lt _ _) (onesF_lt _ _))
  rw [onesF_add, show 2 + 2 = 4 from rfl] at M2
  have I4 := Lib.hid (sizeF' (onesF x 4)); have Z4 := Lib.hid (zerosF_size (onesF x 4)); have O4 := Lib.hid (uc_one (limN 4 (onesF x 4)))
  have S3 := Lib.hid (fun W => squared_any (onesF x 4) 1 W (onesF_lt _ _) (by omega))
  have M3 := Lib.hid (fun W => mulF_any (powF (onesF x 4) (2 ^ 1)) (onesF x 1) W (powF_lt _ _) (onesF_lt _ _))
  rw [onesF_add, show 4 + 1 = 5 from rfl] at M3
  have I5 := Lib.hid (sizeF' (onesF x 5)); have Z5 := Lib.hid (zerosF_size (onesF x 5)); have O5 := Lib.hid (uc_one (limN 4 (onesF x 5)))
  have S4 := Lib.hid (fun W => squared_any (onesF x 5) 5 W (onesF_lt _ _) (by omega))
  have M4 := Lib.hid (fun W => mulF_any (powF (onesF x 5) (2 ^ 5)) (onesF x 5) W (powF_lt _ _) (onesF_lt _ _))
  rw [onesF_add, show 5 + 5 = 10 from rfl] at M4
  have I10 := Lib.hid (sizeF' (onesF x 10)); have Z10 := Lib.hid (zerosF_size (onesF x 10)); have O10 := Lib.hid (uc_one (limN 4 (onesF x 10)))
  have S5 := Lib.hid (fun W => squared_any (onesF x 10) 10 W (onesF_lt _ _) (by omega))
  have M5 := Lib.hid (fun W => mulF_any (powF (onesF x 10) (2 ^ 10)) (onesF x 10) W (powF_lt _ _) (onesF_lt _ _))
  rw [onesF_add, show 10 + 10 = 20 from rfl] at M5
  have I20 := Lib.hid (sizeF' (onesF x 20)); have Z20 := Lib.hid (zerosF_size (onesF x 20)); have O20 := Lib.hid (uc_one (limN 4 (onesF x 20)))
  have S6 := Lib.hid (fun W => squared_any (onesF x 20) 20 W (onesF_lt _ _) (by omega))
  have M6 := Lib.hid (fun W => mulF_any (powF (onesF x 20) (2 ^ 20)) (onesF x 20) W (powF_lt _ _) (onesF_lt _ _))
  rw [onesF_add, show 20 + 20 = 40 from rfl] at M6
  have I40 := Lib.hid (sizeF' (onesF x 40)); have Z40 := Lib.hid (zerosF_size (onesF x 40)); have O40 := Lib.hid (uc_one (limN 4 (onesF x 40)))
  have S7 := Lib.hid (fun W => squared_any (onesF x 40) 10 W (onesF_lt _ _) (by omega))
  have M7 := Lib.hid (fun W => mulF_any (powF (onesF x 40) (2 ^ 10)) (onesF x 10) W (powF_lt _ _) (onesF_lt _ _))
  rw [onesF_add, show 40 + 10 = 50 from rfl] at M7
  have I50 := Lib.hid (sizeF' (onesF x 50)); have Z50 := Lib.hid (zerosF_size (onesF x 50)); have O50 := Lib.hid (uc_one (limN 4 (onesF x 50)))
  have S8 := Lib.hid (fun W => squared_any (onesF x 50) 50 W (onesF_lt _ _) (by omega))
  have M8 := Lib.hid (fun W => mulF_any (powF (onesF x 50) (2 ^ 50)) (onesF x 50) W (powF_lt _ _) (onesF_lt _ _))
  rw [onesF_add, show 50 + 50 = 100 from rfl] at M8
  have I100 := Lib.hid (sizeF' (onesF x 100)); have Z100 := Lib.hid (zerosF_size (onesF x 100)); have O100 := Lib.hid (uc_one (limN 4 (onesF x 100)))
  have S9 := Lib.hid (fun W => squared_any (onesF x 100) 100 W (onesF_lt _ _) (by omega))
  have M9 := Lib.hid (fun W => mulF_any (powF (onesF x 100) (2 ^ 100)) (onesF x 100) W (powF_lt _ _) (onesF_lt _ _))
  rw [onesF_add, show 100 + 100 = 200 from rfl] at M9
  have I200 := Lib.hid (sizeF' (onesF x 200)); have Z200 := Lib.hid (zerosF_size (onesF x 200)); have O200 := Lib.hid (uc_one (limN 4 (onesF x 200)))
  have S10 := Lib.hid (fun W => squared_any (onesF x 200) 50 W (onesF_lt _ _) (by omega))
  have M10 := Lib.hid (fun W => mulF_any (powF (onesF x 200) (2 ^ 50)) (onesF x 50) W (powF_lt _ _) (onesF_lt _ _))
  rw [onesF_add, show 200 + 50 = 250 from rfl] at M10
  have I250 := Lib.hid (sizeF' (onesF x 250)); have Z250 := Lib.hid (zerosF_size (onesF x 250)); have O250 := Lib.hid (uc_one (limN 4 (onesF x 250)))
  have I1 := Lib.hid (sizeF' x)
  rw [onesF_one x hx] at S1 M1
  rw [onesF_one x hx] at M3
  clear hi hx
  go_enter Tryd.func42, Tryd.ntmps42
  go_upto_region 1 with fail
  generalize ((w.alloc _).alloc _) = W0 at *
  generalize hBB : w.heap.size = B at *
  have HBB := Lib.hid hBB
  clear hBB
  generalize powF x (2 ^ 1) = q1 at *
  generalize powF (onesF x 2) (2 ^ 2) = q2 at *
  generalize powF (onesF x 4) (2 ^ 1) = q3 at *
  generalize powF (onesF x 5) (2 ^ 5) = q4 at *
  generalize powF (onesF x 10) (2 ^ 10) = q5 at *
  generalize powF (onesF x 20) (2 ^ 20) = q6 at *
  generalize powF (onesF x 40) (2 ^ 10) = q7 at *
  generalize powF (onesF x 50) (2 ^ 50) = q8 at *
  generalize powF (onesF x 100) (2 ^ 100) = q9 at *
  generalize powF (onesF x 200) (2 ^ 50) = q10 at *
  generalize h2 : onesF x 2 = u2 at *
  generalize h4 : onesF x 4 = u4 at *
  generalize h5 : onesF x 5 = u5 at *
  generalize h10 : onesF x 10 = u10 at *
  generalize h20 : onesF x 20 = u20 at *
  generalize h40 : onesF x 40 = u40 at *
  generalize h50 : onesF x 50 = u50 at *
  generalize h100 : onesF x 100 = u100 at *
  generalize h200 : onesF x 200 = u200 at *
  generalize h250 : onesF x 250 = u250 at *
  have HU := Lib.hid h250
  clear h2 h4 h5 h10 h20 h40 h50 h100 h200 h250
  refine wp_region_fresh 5 52 [.val (.agg (uc (limN 4 x))) [(1, .pointer (some ⟨B, 0, none⟩))], .val (.agg (uc (limN 4 q1))) [(12, .agg (uc (limN 4 x)))], .val (.agg (uc (limN 4 x))) [(1, .pointer (some ⟨B, 0, none⟩))], .val (.agg (uc (limN 4 u2))) [(13, .agg (uc (limN 4 q1))), (14, .agg (uc (limN 4 x)))], .fresh (.cells zeros4 26)] (by kernel_rfl) (by kernel_rfl) rfl ?_ ?_ ?_
  · simp only [List.take_succ_cons, List.take_zero, headObl, specObl, HeadSpec.val, HeadSpec.fresh, and_true]
    refine ⟨?_, ?_, ?_, ?_, ?_⟩
    · intro a w hb h
      have e0 := h (1, .pointer (some ⟨B, 0, none⟩)) (by simp)
      exact sQuiet_load_row 26 (.tmp 1) rfl B e0 26 _ (0, 0) _ (blk_below hb (blk_lt H1.out) H1.out) Tryd.underlying26 rfl I1.out
    · intro a w hb h
      have e0 := h (12, .agg (uc (limN 4 x))) (by simp)
      simp only [Array.getD_eq_getD_getElem?] at e0
      simp [go_sem, e0, sQuiet]
      exact S1.out w
    · intro a w hb h
      have e0 := h (1, .pointer (some ⟨B, 0, none⟩)) (by simp)
      exact sQuiet_load_row 26 (.tmp 1) rfl B e0 26 _ (0, 0) _ (blk_below hb (blk_lt H1.out) H1.out) Tryd.underlying26 rfl I1.out
    · intro a w hb h
      have e0 := h (13, .agg (uc (limN 4 q1))) (by simp)
      have e1 := h (14, .agg (uc (limN 4 x))) (by simp)
      simp only [Array.getD_eq_getD_getElem?] at e0 e1
      simp [go_sem, e0, e1, sQuiet]
      exact M1.out w
    · intro a w hb
      simp [go_sem, hz]
  · simp [headReads, headPut, specV, HeadSpec.val, HeadSpec.fresh, Act.put]
  · simp only [List.take_succ_cons, List.take_zero, List.drop_succ_cons, List.drop_zero, headEnd, HeadSpec.val, HeadSpec.fresh, Act.put, List.setIfInBounds_toArray, List.set_cons_succ, List.set_cons_zero]
    intro g3 hgg3 _ v1 hv1 hgs
    have HN := Lib.hid (show v1.heap[g3]? = some (.cells zeros4 26) from hgs (g3, .cells zeros4 26) (by simp))
    have hb1 : Below B w v1 := hb.trans (hv1.mono (by have := blk_lt H1.out; omega))
    have HNN := Lib.hid (setRow_heap v1 (g3) _ (uc (limN 4 u2)) _ _ HN.out)
    have kH1 : Hid ((v1.setRow (g3) (uc (limN 4 u2))).heap[B]? = some (.cells (uc (limN 4 x)) 26)) := Lib.hid (by rw [setRow_other _ _ _ _ (by have := blk_lt H1.out; omega)]; exact blk_below hv1 (blk_lt H1.out) H1.out)
    have kH2 : Hid ((v1.setRow (g3) (uc (limN 4 u2))).heap[B + 1]? = some (.cells zeros4 26)) := Lib.hid (by rw [setRow_other _ _ _ _ (by have := blk_lt H2.out; omega)]; exact blk_below hv1 (blk_lt H2.out) H2.out)
    have hb2 : Below B w (v1.setRow (g3) (uc (limN 4 u2))) := below_setRow hb1 (by have := blk_lt H1.out; omega) _
    clear H1 H2 hb1 hv1 hgs hb
    go_wp2_with (with_reducible refine wpList_store_row rfl 26 _ _ rfl (g3) (uc (limN 4 u2)) rfl rfl 26 _ HN.out I2.out Z2.out O2.out ?_)
    generalize World.setRow _ _ _ = W1 at *
    have H1 := kH1
    have H2 := kH2
    have H3 := HNN
    have hb := hb2
    clear kH1 kH2 HNN HN hb2 S1 M1
    try simp only [Act.put]
    refine wp_region_fresh 5 52 [.val (.agg (uc (limN 4 u2))) [(3, .pointer (some ⟨g3, 0, none⟩))], .val (.agg (uc (limN 4 q2))) [(16, .agg (uc (limN 4 u2)))], .val (.agg (uc (limN 4 u2))) [(3, .pointer (some ⟨g3, 0, none⟩))], .val (.agg (uc (limN 4 u4))) [(17, .agg (uc (limN 4 q2))), (18, .agg (uc (limN 4 u2)))], .fresh (.cells zeros4 26)] (by kernel_rfl) (by kernel_rfl) rfl ?_ ?_ ?_
    · simp only [List.take_succ_cons, List.take_zero, headObl, specObl, HeadSpec.val, HeadSpec.fresh, and_true]
      refine ⟨?_, ?_, ?_, ?_, ?_⟩
      · intro a w hb h
        have e0 := h (3, .pointer (some ⟨g3, 0, none⟩)) (by simp)
        exact sQuiet_load_row 26 (.tmp 3) rfl g3 e0 26 _ (0, 0) _ (blk_below hb (blk_lt H3.out) H3.out) Tryd.underlying26 rfl I2.out
      · intro a w hb h
        have e0 := h (16, .agg (uc (limN 4 u2))) (by simp)
        simp only [Array.getD_eq_getD_getElem?] at e0
        simp [go_sem, e0, sQuiet]
        exact S2.out w
      · intro a w hb h
        have e0 := h (3, .pointer (some ⟨g3, 0, none⟩)) (by simp)
        exact sQuiet_load_row 26 (.tmp 3) rfl g3 e0 26 _ (0, 0) _ (blk_below hb (blk_lt H3.out) H3.out) Tryd.underlying26 rfl I2.out
      · intro a w hb h
        have e0 := h (17, .agg (uc (limN 4 q2))) (by simp)
        have e1 := h (18, .agg (uc (limN 4 u2))) (by simp)
        simp only [Array.getD_eq_getD_getElem?] at e0 e1
        simp [go_sem, e0, e1, sQuiet]
        exact M2.out w
      · intro a w hb
        simp [go_sem, hz]
    · simp [headReads, headPut, specV, HeadSpec.val, HeadSpec.fresh, Act.put]
    · simp only [List.take_succ_cons, List.take_zero, List.drop_succ_cons, List.drop_zero, headEnd, HeadSpec.val, HeadSpec.fresh, Act.put, List.setIfInBounds_toArray, List.set_cons_succ, List.set_cons_zero]
      intro g4 hgg4 _ v1 hv1 hgs
      have HN := Lib.hid (show v1.heap[g4]? = some (.cells zeros4 26) from hgs (g4, .cells zeros4 26) (by simp))
      have hb1 : Below B w v1 := hb.trans (hv1.mono (by have := blk_lt H1.out; omega))
      have HNN := Lib.hid (setRow_heap v1 (g4) _ (uc (limN 4 u4)) _ _ HN.out)
      have kH1 : Hid ((v1.setRow (g4) (uc (limN 4 u4))).heap[B]? = some (.cells (uc (limN 4 x)) 26)) := Lib.hid (by rw [setRow_other _ _ _ _ (by have := blk_lt H1.out; omega)]; exact blk_below hv1 (blk_lt H1.out) H1.out)
      have kH2 : Hid ((v1.setRow (g4) (uc (limN 4 u4))).heap[B + 1]? = some (.cells zeros4 26)) := Lib.hid (by rw [setRow_other _ _ _ _ (by have := blk_lt H2.out; omega)]; exact blk_below hv1 (blk_lt H2.out) H2.out)
      have hb2 : Below B w (v1.setRow (g4) (uc (limN 4 u4))) := below_setRow hb1 (by have := blk_lt H1.out; omega) _
      clear H1 H2 hb1 hv1 hgs hb
      go_wp2_with (with_reducible refine wpList_store_row rfl 26 _ _ rfl (g4) (uc (limN 4 u4)) rfl rfl 26 _ HN.out I4.out Z4.out O4.out ?_)
      generalize World.setRow _ _ _ = W2 at *
      have H1 := kH1
      have H2 := kH2
      have H4 := HNN
      have hb := hb2
      clear kH1 kH2 HNN HN hb2 S2 M2
      try simp only [Act.put]
      refine wp_region_fresh 5 52 [.val (.agg (uc (limN 4 u4))) [(4, .pointer (some ⟨g4, 0, none⟩))], .val (.agg (uc (limN 4 q3))) [(20, .agg (uc (limN 4 u4)))], .val (.agg (uc (limN 4 x))) [(1, .pointer (some ⟨B, 0, none⟩))], .val (.agg (uc (limN 4 u5))) [(21, .agg (uc (limN 4 q3))), (22, .agg (uc (limN 4 x)))], .fresh (.cells zeros4 26)] (by kernel_rfl) (by kernel_rfl) rfl ?_ ?_ ?_
      · simp only [List.take_succ_cons, List.take_zero, headObl, specObl, HeadSpec.val, HeadSpec.fresh, and_true]
        refine ⟨?_, ?_, ?_, ?_, ?_⟩
        · intro a w hb h
          have e0 := h (4, .pointer (some ⟨g4, 0, none⟩)) (by simp)
          exact sQuiet_load_row 26 (.tmp 4) rfl g4 e0 26 _ (0, 0) _ (blk_below hb (blk_lt H4.out) H4.out) Tryd.underlying26 rfl I4.out
        · intro a w hb h
          have e0 := h (20, .agg (uc (limN 4 u4))) (by simp)
          simp only [Array.getD_eq_getD_getElem?] at e0
          simp [go_sem, e0, sQuiet]
          exact S3.out w
        · intro a w hb h
          have e0 := h (1, .pointer (some ⟨B, 0, none⟩)) (by simp)
          exact sQuiet_load_row 26 (.tmp 1) rfl B e0 26 _ (0, 0) _ (blk_below hb (blk_lt H1.out) H1.out) Tryd.underlying26 rfl I1.out
        · intro a w hb h
          have e0 := h (21, .agg (uc (limN 4 q3))) (by simp)
          have e1 := h (22, .agg (uc (limN 4 x))) (by simp)
          simp only [Array.getD_eq_getD_getElem?] at e0 e1
          simp [go_sem, e0, e1, sQuiet]
          exact M3.out w
        · intro a w hb
          simp [go_sem, hz]
      · simp [headReads, headPut, specV, HeadSpec.val, HeadSpec.fresh, Act.put]
      · simp only [List.take_succ_cons, List.take_zero, List.drop_succ_cons, List.drop_zero, headEnd, HeadSpec.val, HeadSpec.fresh, Act.put, List.setIfInBounds_toArray, List.set_cons_succ, List.set_cons_zero]
        intro g5 hgg5 _ v1 hv1 hgs
        have HN := Lib.hid (show v1.heap[g5]? = some (.cells zeros4 26) from hgs (g5, .cells zeros4 26) (by simp))
        have hb1 : Below B w v1 := hb.trans (hv1.mono (by have := blk_lt H1.out; omega))
        have HNN := Lib.hid (setRow_heap v1 (g5) _ (uc (limN 4 u5)) _ _ HN.out)
        have kH1 : Hid ((v1.setRow (g5) (uc (limN 4 u5))).heap[B]? = some (.cells (uc (limN 4 x)) 26)) := Lib.hid (by rw [setRow_other _ _ _ _ (by have := blk_lt H1.out; omega)]; exact blk_below hv1 (blk_lt H1.out) H1.out)
        have kH2 : Hid ((v1.setRow (g5) (uc (limN 4 u5))).heap[B + 1]? = some (.cells zeros4 26)) := Lib.hid (by rw [setRow_other _ _ _ _ (by have := blk_lt H2.out; omega)]; exact blk_below hv1 (blk_lt H2.out) H2.out)
        have hb2 : Below B w (v1.setRow (g5) (uc (limN 4 u5))) := below_setRow hb1 (by have := blk_lt H1.out; omega) _
        clear H1 H2 hb1 hv1 hgs hb
        go_wp2_with (with_reducible refine wpList_store_row rfl 26 _ _ rfl (g5) (uc (limN 4 u5)) rfl rfl 26 _ HN.out I5.out Z5.out O5.out ?_)
        generalize World.setRow _ _ _ = W3 at *
        have H1 := kH1
        have H2 := kH2
        have H5 := HNN
        have hb := hb2
        clear kH1 kH2 HNN HN hb2 S3 M3
        try simp only [Act.put]
        refine wp_region_fresh 5 52 [.val (.agg (uc (limN 4 u5))) [(5, .pointer (some ⟨g5, 0, none⟩))], .val (.agg (uc (limN 4 q4))) [(24, .agg (uc (limN 4 u5)))], .val (.agg (uc (limN 4 u5))) [(5, .pointer (some ⟨g5, 0, none⟩))], .val (.agg (uc (limN 4 u10))) [(25, .agg (uc (limN 4 q4))), (26, .agg (uc (limN 4 u5)))], .fresh (.cells zeros4 26)] (by kernel_rfl) (by kernel_rfl) rfl ?_ ?_ ?_
        · simp only [List.take_succ_cons, List.take_zero, headObl, specObl, HeadSpec.val, HeadSpec.fresh, and_true]
          refine ⟨?_, ?_, ?_, ?_, ?_⟩
          · intro a w hb h
            have e0 := h (5, .pointer (some ⟨g5, 0, none⟩)) (by simp)
            exact sQuiet_load_row 26 (.tmp 5) rfl g5 e0 26 _ (0, 0) _ (blk_below hb (blk_lt H5.out) H5.out) Tryd.underlying26 rfl I5.out
          · intro a w hb h
            have e0 := h (24, .agg (uc (limN 4 u5))) (by simp)
            simp only [Array.getD_eq_getD_getElem?] at e0
            simp [go_sem, e0, sQuiet]
            exact S4.out w
          · intro a w hb h
            have e0 := h (5, .pointer (some ⟨g5, 0, none⟩)) (by simp)
            exact sQuiet_load_row 26 (.tmp 5) rfl g5 e0 26 _ (0, 0) _ (blk_below hb (blk_lt H5.out) H5.out) Tryd.underlying26 rfl I5.out
          · intro a w hb h
            have e0 := h (25, .agg (uc (limN 4 q4))) (by simp)
            have e1 := h (26, .agg (uc (limN 4 u5))) (by simp)
            simp only [Array.getD_eq_getD_getElem?] at e0 e1
            simp [go_sem, e0, e1, sQuiet]
            exact M4.out w
          · intro a w hb
            simp [go_sem, hz]
        · simp [headReads, headPut, specV, HeadSpec.val, HeadSpec.fresh, Act.put]
        · simp only [List.take_succ_cons, List.take_zero, List.drop_succ_cons, List.drop_zero, headEnd, HeadSpec.val, HeadSpec.fresh, Act.put, List.setIfInBounds_toArray, List.set_cons_succ, List.set_cons_zero]
          intro g6 hgg6 _ v1 hv1 hgs
          have HN := Lib.hid (show v1.heap[g6]? = some (.cells zeros4 26) from hgs (g6, .cells zeros4 26) (by simp))
          have hb1 : Below B w v1 := hb.trans (hv1.mono (by have := blk_lt H1.out; omega))
          have HNN := Lib.hid (setRow_heap v1 (g6) _ (uc (limN 4 u10)) _ _ HN.out)
          have kH1 : Hid ((v1.setRow (g6) (uc (limN 4 u10))).heap[B]? = some (.cells (uc (limN 4 x)) 26)) := Lib.hid (by rw [setRow_other _ _ _ _ (by have := blk_lt H1.out; omega)]; exact blk_below hv1 (blk_lt H1.out) H1.out)
          have kH2 : Hid ((v1.setRow (g6) (uc (limN 4 u10))).heap[B + 1]? = some (.cells zeros4 26)) := Lib.hid (by rw [setRow_other _ _ _ _ (by have := blk_lt H2.out; omega)]; exact blk_below hv1 (blk_lt H2.out) H2.out)
          have hb2 : Below B w (v1.setRow (g6) (uc (limN 4 u10))) := below_setRow hb1 (by have := blk_lt H1.out; omega) _
          clear H1 H2 hb1 hv1 hgs hb
          go_wp2_with (with_reducible refine wpList_store_row rfl 26 _ _ rfl (g6) (uc (limN 4 u10)) rfl rfl 26 _ HN.out I10.out Z10.out O10.out ?_)
          generalize World.setRow _ _ _ = W4 at *
          have H1 := kH1
          have H2 := kH2
          have H6 := HNN
          have hb := hb2
          clear kH1 kH2 HNN HN hb2 S4 M4
          try simp only [Act.put]
          refine wp_region_fresh 5 52 [.val (.agg (uc (limN 4 u10))) [(6, .pointer (some ⟨g6, 0, none⟩))], .val (.agg (uc (limN 4 q5))) [(28, .agg (uc (limN 4 u10)))], .val (.agg (uc (limN 4 u10))) [(6, .pointer (some ⟨g6, 0, none⟩))], .val (.agg (uc (limN 4 u20))) [(29, .agg (uc (limN 4 q5))), (30, .agg (uc (limN 4 u10)))], .fresh (.cells zeros4 26)] (by kernel_rfl) (by kernel_rfl) rfl ?_ ?_ ?_
          · simp only [List.take_succ_cons, List.take_zero, headObl, specObl, HeadSpec.val, HeadSpec.fresh, and_true]
            refine ⟨?_, ?_, ?_, ?_, ?_⟩
            · intro a w hb h
              have e0 := h (6, .pointer (some ⟨g6, 0, none⟩)) (by simp)
              exact sQuiet_load_row 26 (.tmp 6) rfl g6 e0 26 _ (0, 0) _ (blk_below hb (blk_lt H6.out) H6.out) Tryd.underlying26 rfl I10.out
            · intro a w hb h
              have e0 := h (28, .agg (uc (limN 4 u10))) (by simp)
              simp only [Array.getD_eq_getD_getElem?] at e0
              simp [go_sem, e0, sQuiet]
              exact S5.out w
            · intro a w hb h
              have e0 := h (6, .pointer (some ⟨g6, 0, none⟩)) (by simp)
              exact sQuiet_load_row 26 (.tmp 6) rfl g6 e0 26 _ (0, 0) _ (blk_below hb (blk_lt H6.out) H6.out) Tryd.underlying26 rfl I10.out
            · intro a w hb h
              have e0 := h (29, .agg (uc (limN 4 q5))) (by simp)
              have e1 := h (30, .agg (uc (limN 4 u10))) (by simp)
              simp only [Array.getD_eq_getD_getElem?] at e0 e1
              simp [go_sem, e0, e1, sQuiet]
              exact M5.out w
            · intro a w hb
              simp [go_sem, hz]
          · simp [headReads, headPut, specV, HeadSpec.val, HeadSpec.fresh, Act.put]
          · simp only [List.take_succ_cons, List.take_zero, List.drop_succ_cons, List.drop_zero, headEnd, HeadSpec.val, HeadSpec.fresh, Act.put, List.setIfInBounds_toArray, List.set_cons_succ, List.set_cons_zero]
            intro g7 hgg7 _ v1 hv1 hgs
            have HN := Lib.hid (show v1.heap[g7]? = some (.cells zeros4 26) from hgs (g7, .cells zeros4 26) (by simp))
            have hb1 : Below B w v1 := hb.trans (hv1.mono (by have := blk_lt H1.out; omega))
            have HNN := Lib.hid (setRow_heap v1 (g7) _ (uc (limN 4 u20)) _ _ HN.out)
            have kH1 : Hid ((v1.setRow (g7) (uc (limN 4 u20))).heap[B]? = some (.cells (uc (limN 4 x)) 26)) := Lib.hid (by rw [setRow_other _ _ _ _ (by have := blk_lt H1.out; omega)]; exact blk_below hv1 (blk_lt H1.out) H1.out)
            have kH2 : Hid ((v1.setRow (g7) (uc (limN 4 u20))).heap[B + 1]? = some (.cells zeros4 26)) := Lib.hid (by rw [setRow_other _ _ _ _ (by have := blk_lt H2.out; omega)]; exact blk_below hv1 (blk_lt H2.out) H2.out)
            have kH6 : Hid ((v1.setRow (g7) (uc (limN 4 u20))).heap[g6]? = some (.cells (uc (limN 4 u10)) 26)) := Lib.hid (by rw [setRow_other _ _ _ _ (by have := blk_lt H6.out; omega)]; exact blk_below hv1 (blk_lt H6.out) H6.out)
            have hb2 : Below B w (v1.setRow (g7) (uc (limN 4 u20))) := below_setRow hb1 (by have := blk_lt H1.out; omega) _
            clear H1 H2 H6 hb1 hv1 hgs hb
            go_wp2_with (with_reducible refine wpList_store_row rfl 26 _ _ rfl (g7) (uc (limN 4 u20)) rfl rfl 26 _ HN.out I20.out Z20.out O20.out ?_)
            generalize World.setRow _ _ _ = W5 at *
            have H1 := kH1
            have H2 := kH2
            have H6 := kH6
            have H7 := HNN
            have hb := hb2
            clear kH1 kH2 kH6 HNN HN hb2 S5 M5
            try simp only [Act.put]
            refine wp_region_fresh 5 52 [.val (.agg (uc (limN 4 u20))) [(7, .pointer (some ⟨g7, 0, none⟩))], .val (.agg (uc (limN 4 q6))) [(32, .agg (uc (limN 4 u20)))], .val (.agg (uc (limN 4 u20))) [(7, .pointer (some ⟨g7, 0, none⟩))], .val (.agg (uc (limN 4 u40))) [(33, .agg (uc (limN 4 q6))), (34, .agg (uc (limN 4 u20)))], .fresh (.cells zeros4 26)] (by kernel_rfl) (by kernel_rfl) rfl ?_ ?_ ?_
            · simp only [List.take_succ_cons, List.take_zero, headObl, specObl, HeadSpec.val, HeadSpec.fresh, and_true]
              refine ⟨?_, ?_, ?_, ?_, ?_⟩
              · intro a w hb h
                have e0 := h (7, .pointer (some ⟨g7, 0, none⟩)) (by simp)
                exact sQuiet_load_row 26 (.tmp 7) rfl g7 e0 26 _ (0, 0) _ (blk_below hb (blk_lt H7.out) H7.out) Tryd.underlying26 rfl I20.out
              · intro a w hb h
                have e0 := h (32, .agg (uc (limN 4 u20))) (by simp)
                simp only [Array.getD_eq_getD_getElem?] at e0
                simp [go_sem, e0, sQuiet]
                exact S6.out w
              · intro a w hb h
                have e0 := h (7, .pointer (some ⟨g7, 0, none⟩)) (by simp)
                exact sQuiet_load_row 26 (.tmp 7) rfl g7 e0 26 _ (0, 0) _ (blk_below hb (blk_lt H7.out) H7.out) Tryd.underlying26 rfl I20.out
              · intro a w hb h
                have e0 := h (33, .agg (uc (limN 4 q6))) (by simp)
                have e1 := h (34, .agg (uc (limN 4 u20))) (by simp)
                simp only [Array.getD_eq_getD_getElem?] at e0 e1
                simp [go_sem, e0, e1, sQuiet]
                exact M6.out w
              · intro a w hb
                simp [go_sem, hz]
            · simp [headReads, headPut, specV, HeadSpec.val, HeadSpec.fresh, Act.put]
            · simp only [List.take_succ_cons, List.take_zero, List.drop_succ_cons, List.drop_zero, headEnd, HeadSpec.val, HeadSpec.fresh, Act.put, List.setIfInBounds_toArray, List.set_cons_succ, List.set_cons_zero]
              intro g8 hgg8 _ v1 hv1 hgs
              have HN := Lib.hid (show v1.heap[g8]? = some (.cells zeros4 26) from hgs (g8, .cells zeros4 26) (by simp))
              have hb1 : Below B w v1 := hb.trans (hv1.mono (by have := blk_lt H1.out; omega))
              have HNN := Lib.hid (setRow_heap v1 (g8) _ (uc (limN 4 u40)) _ _ HN.out)
              have kH1 : Hid ((v1.setRow (g8) (uc (limN 4 u40))).heap[B]? = some (.cells (uc (limN 4 x)) 26)) := Lib.hid (by rw [setRow_other _ _ _ _ (by have := blk_lt H1.out; omega)]; exact blk_below hv1 (blk_lt H1.out) H1.out)
              have kH2 : Hid ((v1.setRow (g8) (uc (limN 4 u40))).heap[B + 1]? = some (.cells zeros4 26)) := Lib.hid (by rw [setRow_other _ _ _ _ (by have := blk_lt H2.out; omega)]; exact blk_below hv1 (blk_lt H2.out) H2.out)
              have kH6 : Hid ((v1.setRow (g8) (uc (limN 4 u40))).heap[g6]? = some (.cells (uc (limN 4 u10)) 26)) := Lib.hid (by rw [setRow_other _ _ _ _ (by have := blk_lt H6.out; omega)]; exact blk_below hv1 (blk_lt H6.out) H6.out)
              have hb2 : Below B w (v1.setRow (g8) (uc (limN 4 u40))) := below_setRow hb1 (by have := blk_lt H1.out; omega) _
              clear H1 H2 H6 hb1 hv1 hgs hb
              go_wp2_with (with_reducible refine wpList_store_row rfl 26 _ _ rfl (g8) (uc (limN 4 u40)) rfl rfl 26 _ HN.out I40.out Z40.out O40.out ?_)
              generalize World.setRow _ _ _ = W6 at *
              have H1 := kH1
              have H2 := kH2
              have H6 := kH6
              have H8 := HNN
              have hb := hb2
              clear kH1 kH2 kH6 HNN HN hb2 S6 M6
              try simp only [Act.put]
              refine wp_region_fresh 5 52 [.val (.agg (uc (limN 4 u40))) [(8, .pointer (some ⟨g8, 0, none⟩))], .val (.agg (uc (limN 4 q7))) [(36, .agg (uc (limN 4 u40)))], .val (.agg (uc (limN 4 u10))) [(6, .pointer (some ⟨g6, 0, none⟩))], .val (.agg (uc (limN 4 u50))) [(37, .agg (uc (limN 4 q7))), (38, .agg (uc (limN 4 u10)))], .fresh (.cells zeros4 26)] (by kernel_rfl) (by kernel_rfl) rfl ?_ ?_ ?_
              · simp only [List.take_succ_cons, List.take_zero, headObl, specObl, HeadSpec.val, HeadSpec.fresh, and_true]
                refine ⟨?_, ?_, ?_, ?_, ?_⟩
                · intro a w hb h
                  have e0 := h (8, .pointer (some ⟨g8, 0, none⟩)) (by simp)
                  exact sQuiet_load_row 26 (.tmp 8) rfl g8 e0 26 _ (0, 0) _ (blk_below hb (blk_lt H8.out) H8.out) Tryd.underlying26 rfl I40.out
                · intro a w hb h
                  have e0 := h (36, .agg (uc (limN 4 u40))) (by simp)
                  simp only [Array.getD_eq_getD_getElem?] at e0
                  simp [go_sem, e0, sQuiet]
                  exact S7.out w
                · intro a w hb h
                  have e0 := h (6, .pointer (some ⟨g6, 0, none⟩)) (by simp)
                  exact sQuiet_load_row 26 (.tmp 6) rfl g6 e0 26 _ (0, 0) _ (blk_below hb (blk_lt H6.out) H6.out) Tryd.underlying26 rfl I10.out
                · intro a w hb h
                  have e0 := h (37, .agg (uc (limN 4 q7))) (by simp)
                  have e1 := h (38, .agg (uc (limN 4 u10))) (by simp)
                  simp only [Array.getD_eq_getD_getElem?] at e0 e1
                  simp [go_sem, e0, e1, sQuiet]
                  exact M7.out w
                · intro a w hb
                  simp [go_sem, hz]
              · simp [headReads, headPut, specV, HeadSpec.val, HeadSpec.fresh, Act.put]
              · simp only [List.take_succ_cons, List.take_zero, List.drop_succ_cons, List.drop_zero, headEnd, HeadSpec.val, HeadSpec.fresh, Act.put, List.setIfInBounds_toArray, List.set_cons_succ, List.set_cons_zero]
                intro g9 hgg9 _ v1 hv1 hgs
                have HN := Lib.hid (show v1.heap[g9]? = some (.cells zeros4 26) from hgs (g9, .cells zeros4 26) (by simp))
                have hb1 : Below B w v1 := hb.trans (hv1.mono (by have := blk_lt H1.out; omega))
                have HNN := Lib.hid (setRow_heap v1 (g9) _ (uc (limN 4 u50)) _ _ HN.out)
                have kH1 : Hid ((v1.setRow (g9) (uc (limN 4 u50))).heap[B]? = some (.cells (uc (limN 4 x)) 26)) := Lib.hid (by rw [setRow_other _ _ _ _ (by have := blk_lt H1.out; omega)]; exact blk_below hv1 (blk_lt H1.out) H1.out)
                have kH2 : Hid ((v1.setRow (g9) (uc (limN 4 u50))).heap[B + 1]? = some (.cells zeros4 26)) := Lib.hid (by rw [setRow_other _ _ _ _ (by have := blk_lt H2.out; omega)]; exact blk_below hv1 (blk_lt H2.out) H2.out)
                have hb2 : Below B w (v1.setRow (g9) (uc (limN 4 u50))) := below_setRow hb1 (by have := blk_lt H1.out; omega) _
                clear H1 H2 hb1 hv1 hgs hb
                go_wp2_with (with_reducible refine wpList_store_row rfl 26 _ _ rfl (g9) (uc (limN 4 u50)) rfl rfl 26 _ HN.out I50.out Z50.out O50.out ?_)
                generalize World.setRow _ _ _ = W7 at *
                have H1 := kH1
                have H2 := kH2
                have H9 := HNN
                have hb := hb2
                clear kH1 kH2 HNN HN hb2 S7 M7
                try simp only [Act.put]
                refine wp_region_fresh 5 52 [.val (.agg (uc (limN 4 u50))) [(9, .pointer (some ⟨g9, 0, none⟩))], .val (.agg (uc (limN 4 q8))) [(40, .agg (uc (limN 4 u50)))], .val (.agg (uc (limN 4 u50))) [(9, .pointer (some ⟨g9, 0, none⟩))], .val (.agg (uc (limN 4 u100))) [(41, .agg (uc (limN 4 q8))), (42, .agg (uc (limN 4 u50)))], .fresh (.cells zeros4 26)] (by kernel_rfl) (by kernel_rfl) rfl ?_ ?_ ?_
                · simp only [List.take_succ_cons, List.take_zero, headObl, specObl, HeadSpec.val, HeadSpec.fresh, and_true]
                  refine ⟨?_, ?_, ?_, ?_, ?_⟩
                  · intro a w hb h
                    have e0 := h (9, .pointer (some ⟨g9, 0, none⟩)) (by simp)
                    exact sQuiet_load_row 26 (.tmp 9) rfl g9 e0 26 _ (0, 0) _ (blk_below hb (blk_lt H9.out) H9.out) Tryd.underlying26 rfl I50.out
                  · intro a w hb h
                    have e0 := h (40, .agg (uc (limN 4 u50))) (by simp)
                    simp only [Array.getD_eq_getD_getElem?] at e0
                    simp [go_sem, e0, sQuiet]
                    exact S8.out w
                  · intro a w hb h
                    have e0 := h (9, .pointer (some ⟨g9, 0, none⟩)) (by simp)
                    exact sQuiet_load_row 26 (.tmp 9) rfl g9 e0 26 _ (0, 0) _ (blk_below hb (blk_lt H9.out) H9.out) Tryd.underlying26 rfl I50.out
                  · intro a w hb h
                    have e0 := h (41, .agg (uc (limN 4 q8))) (by simp)
                    have e1 := h (42, .agg (uc (limN 4 u50))) (by simp)
                    simp only [Array.getD_eq_getD_getElem?] at e0 e1
                    simp [go_sem, e0, e1, sQuiet]
                    exact M8.out w
                  · intro a w hb
                    simp [go_sem, hz]
                · simp [headReads, headPut, specV, HeadSpec.val, HeadSpec.fresh, Act.put]
                · simp only [List.take_succ_cons, List.take_zero, List.drop_succ_cons, List.drop_zero, headEnd, HeadSpec.val, HeadSpec.fresh, Act.put, List.setIfInBounds_toArray, List.set_cons_succ, List.set_cons_zero]
                  intro g10 hgg10 _ v1 hv1 hgs
                  have HN := Lib.hid (show v1.heap[g10]? = some (.cells zeros4 26) from hgs (g10, .cells zeros4 26) (by simp))
                  have hb1 : Below B w v1 := hb.trans (hv1.mono (by have := blk_lt H1.out; omega))
                  have HNN := Lib.hid (setRow_heap v1 (g10) _ (uc (limN 4 u100)) _ _ HN.out)
                  have kH1 : Hid ((v1.setRow (g10) (uc (limN 4 u100))).heap[B]? = some (.cells (uc (limN 4 x)) 26)) := Lib.hid (by rw [setRow_other _ _ _ _ (by have := blk_lt H1.out; omega)]; exact blk_below hv1 (blk_lt H1.out) H1.out)
                  have kH2 : Hid ((v1.setRow (g10) (uc (limN 4 u100))).heap[B + 1]? = some (.cells zeros4 26)) := Lib.hid (by rw [setRow_other _ _ _ _ (by have := blk_lt H2.out; omega)]; exact blk_below hv1 (blk_lt H2.out) H2.out)
                  have kH9 : Hid ((v1.setRow (g10) (uc (limN 4 u100))).heap[g9]? = some (.cells (uc (limN 4 u50)) 26)) := Lib.hid (by rw [setRow_other _ _ _ _ (by have := blk_lt H9.out; omega)]; exact blk_below hv1 (blk_lt H9.out) H9.out)
                  have hb2 : Below B w (v1.setRow (g10) (uc (limN 4 u100))) := below_setRow hb1 (by have := blk_lt H1.out; omega) _
                  clear H1 H2 H9 hb1 hv1 hgs hb
                  go_wp2_with (with_reducible refine wpList_store_row rfl 26 _ _ rfl (g10) (uc (limN 4 u100)) rfl rfl 26 _ HN.out I100.out Z100.out O100.out ?_)
                  generalize World.setRow _ _ _ = W8 at *
                  have H1 := kH1
                  have H2 := kH2
                  have H9 := kH9
                  have H10 := HNN
                  have hb := hb2
                  clear kH1 kH2 kH9 HNN HN hb2 S8 M8
                  try simp only [Act.put]
                  refine wp_region_fresh 5 52 [.val (.agg (uc (limN 4 u100))) [(10, .pointer (some ⟨g10, 0, none⟩))], .val (.agg (uc (limN 4 q9))) [(44, .agg (uc (limN 4 u100)))], .val (.agg (uc (limN 4 u100))) [(10, .pointer (some ⟨g10, 0, none⟩))], .val (.agg (uc (limN 4 u200))) [(45, .agg (uc (limN 4 q9))), (46, .agg (uc (limN 4 u100)))], .fresh (.cells zeros4 26)] (by kernel_rfl) (by kernel_rfl) rfl ?_ ?_ ?_
                  · simp only [List.take_succ_cons, List.take_zero, headObl, specObl, HeadSpec.val, HeadSpec.fresh, and_true]
                    refine ⟨?_, ?_, ?_, ?_, ?_⟩
                    · intro a w hb h
                      have e0 := h (10, .pointer (some ⟨g10, 0, none⟩)) (by simp)
                      exact sQuiet_load_row 26 (.tmp 10) rfl g10 e0 26 _ (0, 0) _ (blk_below hb (blk_lt H10.out) H10.out) Tryd.underlying26 rfl I100.out
                    · intro a w hb h
                      have e0 := h (44, .agg (uc (limN 4 u100))) (by simp)
                      simp only [Array.getD_eq_getD_getElem?] at e0
                      simp [go_sem, e0, sQuiet]
                      exact S9.out w
                    · intro a w hb h
                      have e0 := h (10, .pointer (some ⟨g10, 0, none⟩)) (by simp)
                      exact sQuiet_load_row 26 (.tmp 10) rfl g10 e0 26 _ (0, 0) _ (blk_below hb (blk_lt H10.out) H10.out) Tryd.underlying26 rfl I100.out
                    · intro a w hb h
                      have e0 := h (45, .agg (uc (limN 4 q9))) (by simp)
                      have e1 := h (46, .agg (uc (limN 4 u100))) (by simp)
                      simp only [Array.getD_eq_getD_getElem?] at e0 e1
                      simp [go_sem, e0, e1, sQuiet]
                      exact M9.out w
                    · intro a w hb
                      simp [go_sem, hz]
                  · simp [headReads, headPut, specV, HeadSpec.val, HeadSpec.fresh, Act.put]
                  · simp only [List.take_succ_cons, List.take_zero, List.drop_succ_cons, List.drop_zero, headEnd, HeadSpec.val, HeadSpec.fresh, Act.put, List.setIfInBounds_toArray, List.set_cons_succ, List.set_cons_zero]
                    intro g11 hgg11 _ v1 hv1 hgs
                    have HN := Lib.hid (show v1.heap[g11]? = some (.cells zeros4 26) from hgs (g11, .cells zeros4 26) (by simp))
                    have hb1 : Below B w v1 := hb.trans (hv1.mono (by have := blk_lt H1.out; omega))
                    have HNN := Lib.hid (setRow_heap v1 (g11) _ (uc (limN 4 u200)) _ _ HN.out)
                    have kH1 : Hid ((v1.setRow (g11) (uc (limN 4 u200))).heap[B]? = some (.cells (uc (limN 4 x)) 26)) := Lib.hid (by rw [setRow_other _ _ _ _ (by have := blk_lt H1.out; omega)]; exact blk_below hv1 (blk_lt H1.out) H1.out)
                    have kH2 : Hid ((v1.setRow (g11) (uc (limN 4 u200))).heap[B + 1]? = some (.cells zeros4 26)) := Lib.hid (by rw [setRow_other _ _ _ _ (by have := blk_lt H2.out; omega)]; exact blk_below hv1 (blk_lt H2.out) H2.out)
                    have kH9 : Hid ((v1.setRow (g11) (uc (limN 4 u200))).heap[g9]? = some (.cells (uc (limN 4 u50)) 26)) := Lib.hid (by rw [setRow_other _ _ _ _ (by have := blk_lt H9.out; omega)]; exact blk_below hv1 (blk_lt H9.out) H9.out)
                    have hb2 : Below B w (v1.setRow (g11) (uc (limN 4 u200))) := below_setRow hb1 (by have := blk_lt H1.out; omega) _
                    clear H1 H2 H9 hb1 hv1 hgs hb
                    go_wp2_with (with_reducible refine wpList_store_row rfl 26 _ _ rfl (g11) (uc (limN 4 u200)) rfl rfl 26 _ HN.out I200.out Z200.out O200.out ?_)
                    generalize World.setRow _ _ _ = W9 at *
                    have H1 := kH1
                    have H2 := kH2
                    have H9 := kH9
                    have H11 := HNN
                    have hb := hb2
                    clear kH1 kH2 kH9 HNN HN hb2 S9 M9
                    try simp only [Act.put]
                    refine wp_region_fresh 4 52 [.val (.agg (uc (limN 4 u200))) [(11, .pointer (some ⟨g11, 0, none⟩))], .val (.agg (uc (limN 4 q10))) [(48, .agg (uc (limN 4 u200)))], .val (.agg (uc (limN 4 u50))) [(9, .pointer (some ⟨g9, 0, none⟩))], .val (.agg (uc (limN 4 u250))) [(49, .agg (uc (limN 4 q10))), (50, .agg (uc (limN 4 u50)))]] (by kernel_rfl) (by kernel_rfl) rfl ?_ ?_ ?_
                    · simp only [List.take_succ_cons, List.take_zero, headObl, specObl, HeadSpec.val, HeadSpec.fresh, and_true]
                      refine ⟨?_, ?_, ?_, ?_⟩
                      · intro a w hb h
                        have e0 := h (11, .pointer (some ⟨g11, 0, none⟩)) (by simp)
                        exact sQuiet_load_row 26 (.tmp 11) rfl g11 e0 26 _ (0, 0) _ (blk_below hb (blk_lt H11.out) H11.out) Tryd.underlying26 rfl I200.out
                      · intro a w hb h
                        have e0 := h (48, .agg (uc (limN 4 u200))) (by simp)
                        simp only [Array.getD_eq_getD_getElem?] at e0
                        simp [go_sem, e0, sQuiet]
                        exact S10.out w
                      · intro a w hb h
                        have e0 := h (9, .pointer (some ⟨g9, 0, none⟩)) (by simp)
                        exact sQuiet_load_row 26 (.tmp 9) rfl g9 e0 26 _ (0, 0) _ (blk_below hb (blk_lt H9.out) H9.out) Tryd.underlying26 rfl I50.out
                      · intro a w hb h
                        have e0 := h (49, .agg (uc (limN 4 q10))) (by simp)
                        have e1 := h (50, .agg (uc (limN 4 u50))) (by simp)
                        simp only [Array.getD_eq_getD_getElem?] at e0 e1
                        simp [go_sem, e0, e1, sQuiet]
                        exact M10.out w
                    · simp [headReads, headPut, specV, HeadSpec.val, HeadSpec.fresh, Act.put]
                    · simp only [List.take_succ_cons, List.take_zero, List.drop_succ_cons, List.drop_zero, headEnd, HeadSpec.val, HeadSpec.fresh, Act.put, List.setIfInBounds_toArray, List.set_cons_succ, List.set_cons_zero]
                      intro v1 hv1 hgs
                      have HN := Lib.hid (blk_below hv1 (blk_lt H2.out) H2.out)
                      have hb1 : Below B w v1 := hb.trans (hv1.mono (by have := blk_lt H1.out; omega))
                      have HNN := Lib.hid (setRow_heap v1 (B + 1) _ (uc (limN 4 u250)) _ _ HN.out)
                      have kH1 : Hid ((v1.setRow (B + 1) (uc (limN 4 u250))).heap[B]? = some (.cells (uc (limN 4 x)) 26)) := Lib.hid (by rw [setRow_other _ _ _ _ (by have := blk_lt H1.out; omega)]; exact blk_below hv1 (blk_lt H1.out) H1.out)
                      have hb2 : Below B w (v1.setRow (B + 1) (uc (limN 4 u250))) := below_setRow hb1 (by omega) _
                      clear H1 hb1 hv1 hgs hb
                      go_wp2_with (with_reducible refine wpList_store_row rfl 26 _ _ rfl (B + 1) (uc (limN 4 u250)) rfl rfl 26 _ HN.out I250.out Z250.out O250.out ?_)
                      exact bodyPost_ret (v := .agg (uc (limN 4 u250))) (results_cell_row (by rfl) _ _ (B + 1) 26 _ (0, 0) _ rfl HNN.out Tryd.underlying26 rfl I250.out) rfl ⟨by rw [HU.out], by rw [HBB.out]; exact hb2⟩
end Go.Proofs.YtfidcdkoggfjaaaDoor
