/- FieldLaws: for every three texts: sums and products of their numbers go in any order, products go over sums, differences are back from sums, once a number is it and no time is 0; the chapter's examples hold. No condition; the prime of package field lies as the program's text lays it. -/
import Derived.Test.YtfidcdkoggfjaaaDoorCards
import Derived.Test.YtfidcdkoggfjaaaDoorTie
import Derived.SevenTiedAt
import Derived.Test.YtfidcdkoggfjaaaDoorFldWake
import Derived.Test.YtfidcdkoggfjaaaDoorFresh
namespace Go.Proofs.YtfidcdkoggfjaaaDoor
open Go.ChangeShapes Go.WideShapes Go.ChangeAt Go.WideMaps Go.WideElems Go.RowKit
open Go.ChangeMaps (open_string shut_string)
set_option maxRecDepth 100000
set_option linter.unusedSimpArgs false
set_option linter.unusedVariables false

theorem ofAll (s : ByteArray) : ∃ (x : Nat) (q : Int), x < pF ∧ ∀ W, Calls Tryd.prog 15 #[.string s] W fun e w' => e = .returned (.tuple #[.agg (uc (limN 4 x)), .int .i64 q]) ∧ Below W.heap.size W w' := by
  by_cases h : s.size = 32
  · exact ⟨_, _, Nat.mod_lt _ pF_pos, fun W => of_any s W h⟩
  · exact ⟨_, _, pF_pos, fun W => ofBad_any s W h⟩
theorem other_text (s : ByteArray) : (s.toList != s.toList) = false := by simp
set_option maxHeartbeats 4000000 in
theorem fieldLaws_any (s0 s1 s2 : ByteArray) (w : World) (_ : s0.size ≤ maxLen) (_ : s1.size ≤ maxLen) (_ : s2.size ≤ maxLen) (hT : PrmQ w) :
    Calls Tryd.prog 8 #[.string s0, .string s1, .string s2] w fun e w' => e = .returned (.bool true) ∧ Below w.heap.size w w' := by
  by_cases h0 : s0.size = 32
  · by_cases h1 : s1.size = 32
    · by_cases h2 : s2.size = 32
      · have P0 := Lib.hid (fun W => of_any s0 W h0)
        have hx0 : leV s0.data.toList 32 % pF < pF := Nat.mod_lt _ pF_pos
        generalize leV s0.data.toList 32 % pF = x0 at *
        have t0 : ((s0.size : Int) != 32) = false := by simp [h0]
        have I0 := Lib.hid (sizeF' x0); have Z0 := Lib.hid (zerosF_size x0); have O0 := Lib.hid (uc_one (limN 4 x0))
        clear h0
        have P1 := Lib.hid (fun W => of_any s1 W h1)
        have hx1 : leV s1.data.toList 32 % pF < pF := Nat.mod_lt _ pF_pos
        generalize leV s1.data.toList 32 % pF = x1 at *
        have t1 : ((s1.size : Int) != 32) = false := by simp [h1]
        have I1 := Lib.hid (sizeF' x1); have Z1 := Lib.hid (zerosF_size x1); have O1 := Lib.hid (uc_one (limN 4 x1))
        clear h1
        have P2 := Lib.hid (fun W => of_any s2 W h2)
        have hx2 : leV s2.data.toList 32 % pF < pF := Nat.mod_lt _ pF_pos
        generalize leV s2.data.toList 32 % pF = x2 at *
        have t2 : ((s2.size : Int) != 32) = false := by simp [h2]
        have I2 := Lib.hid (sizeF' x2); have Z2 := Lib.hid (zerosF_size x2); have O2 := Lib.hid (uc_one (limN 4 x2))
        clear h2
        have A01 := Lib.hid (fun W => addF_any x0 x1 W hx0 hx1)
        have A10 := Lib.hid (fun W => addF_any x1 x0 W hx1 hx0)
        rw [addF_comm x1 x0] at A10
        have BA := Lib.hid (fun W => bytesF_any (addF x0 x1) W)
        have M01 := Lib.hid (fun W => mulF_any x0 x1 W hx0 hx1)
        have M10 := Lib.hid (fun W => mulF_any x1 x0 W hx1 hx0)
        rw [mulF_comm x1 x0] at M10
        have BM := Lib.hid (fun W => bytesF_any (mulF x0 x1) W)
        have A12 := Lib.hid (fun W => addF_any x1 x2 W hx1 hx2)
        have MA := Lib.hid (fun W => mulF_any x0 (addF x1 x2) W hx0 (addF_lt _ _))
        rw [mulF_add] at MA
        have M02 := Lib.hid (fun W => mulF_any x0 x2 W hx0 hx2)
        have AM := Lib.hid (fun W => addF_any (mulF x0 x1) (mulF x0 x2) W (mulF_lt _ _) (mulF_lt _ _))
        have BD := Lib.hid (fun W => bytesF_any (addF (mulF x0 x1) (mulF x0 x2)) W)
        have MM := Lib.hid (fun W => mulF_any (mulF x0 x1) x2 W (mulF_lt _ _) hx2)
        rw [mulF_assoc] at MM
        have M12 := Lib.hid (fun W => mulF_any x1 x2 W hx1 hx2)
        have MN := Lib.hid (fun W => mulF_any x0 (mulF x1 x2) W hx0 (mulF_lt _ _))
        have BN := Lib.hid (fun W => bytesF_any (mulF x0 (mulF x1 x2)) W)
        have S1 := Lib.hid (fun W hW => subF_any (addF x0 x1) x1 W (addF_lt _ _) hx1 hW)
        rw [sub_add x0 x1 hx0 hx1] at S1
        have B0 := Lib.hid (fun W => bytesF_any x0 W)
        have S0 := Lib.hid (fun W hW => subF_any x0 x0 W hx0 hx0 hW)
        rw [sub_self x0 hx0] at S0
        have BZ := Lib.hid (fun W => bytesF_any 0 W)
        have C0 := Lib.hid (fun W => smallPos_any 0 W (by decide))
        have C1 := Lib.hid (fun W => smallPos_any 1 W (by decide))
        have T1 := Lib.hid (fun W => mulF_any x0 1 W hx0 (by decide))
        rw [mul_one x0 hx0] at T1
        have T0 := Lib.hid (fun W => mulF_any x0 0 W hx0 pF_pos)
        rw [mul_zero x0] at T0
        have hl0 : ((⟨(leF x0 32).toArray⟩ : ByteArray).size : Int) = 32 := by show ((leF x0 32).length : Int) = 32; rw [leF_length]; rfl
        generalize mulF x0 (mulF x1 x2) = mn at *
        generalize addF (mulF x0 x1) (mulF x0 x2) = am at *
        generalize mulF x1 x2 = m12 at *
        generalize mulF x0 x2 = m02 at *
        generalize mulF x0 x1 = m01 at *
        generalize addF x1 x2 = a12 at *
        generalize addF x0 x1 = a01 at *
        generalize limN 4 0 = l0 at *
        generalize limN 4 1 = l1 at *
        generalize (⟨(leF a01 32).toArray⟩ : ByteArray) = za at *
        have eza := same_text za
        have fza := other_text za
        generalize (⟨(leF m01 32).toArray⟩ : ByteArray) = zm at *
        have ezm := same_text zm
        have fzm := other_text zm
        generalize (⟨(leF am 32).toArray⟩ : ByteArray) = zd at *
        have ezd := same_text zd
        have fzd := other_text zd
        generalize (⟨(leF mn 32).toArray⟩ : ByteArray) = zn at *
        have ezn := same_text zn
        have fzn := other_text zn
        generalize (⟨(leF x0 32).toArray⟩ : ByteArray) = zx at *
        have ezx := same_text zx
        have fzx := other_text zx
        generalize (⟨(leF 0 32).toArray⟩ : ByteArray) = zz at *
        have ezz := same_text zz
        have fzz := other_text zz
        have hd32 : ((zx.size : Int) != 32) = false := by rw [hl0]; rfl
        clear hl0
        obtain ⟨hz, _⟩ := zero_of_info infoF
        have HP := Lib.hid hT
        have hb := Below.refl w.heap.size w
        clear hT
        go_enter Tryd.func8, Tryd.ntmps8
        go_wp2_with fail
        refine (P0.out w).mono ?_
        rintro e W1 ⟨rfl, bk⟩
        have hb := hb.trans (bk.mono hb.size)
        have HP := Lib.hid (HP.out.step bk)
        clear bk
        have HN := Lib.hid (blk_new W1 (.cells zeros4 26))
        have bn := below_new W1 (.cells zeros4 26)
        go_wp2_with (with_reducible refine wpList_store_row rfl 26 _ _ rfl W1.heap.size (uc (limN 4 x0)) rfl rfl 26 _ HN.out I0.out Z0.out O0.out ?_)
        have qG0 := Lib.hid (setRow_heap _ W1.heap.size _ (uc (limN 4 x0)) _ _ HN.out)
        have bk := below_setRow bn (Nat.le_refl _) (uc (limN 4 x0))
        have hb := hb.trans (bk.mono hb.size)
        have HP := Lib.hid (HP.out.step bk)
        have G0 := qG0
        generalize (World.setRow (World.alloc _ _) _ _) = W2 at *
        generalize W1.heap.size = gG0 at *
        clear bk bn HN qG0
        refine (P1.out W2).mono ?_
        rintro e W3 ⟨rfl, bk⟩
        have hb := hb.trans (bk.mono hb.size)
        have HP := Lib.hid (HP.out.step bk)
        have G0 := Lib.hid (blk_below bk (blk_lt G0.out) G0.out)
        clear bk
        have HN := Lib.hid (blk_new W3 (.cells zeros4 26))
        have bn := below_new W3 (.cells zeros4 26)
        go_wp2_with (first | (with_reducible refine wpList_store_row rfl 26 _ _ rfl W3.heap.size (uc (limN 4 x1)) rfl rfl 26 _ HN.out I1.out Z1.out O1.out ?_) | (with_reducible refine wpList_load_row rfl 26 _ rfl gG0 rfl 26 _ (0, 0) _ G0.out Tryd.underlying26 rfl I0.out ?_) | ((with_reducible refine wpList_load_want ?hw 26 _ rfl gG0 rfl 26 _ (0, 0) _ G0.out Tryd.underlying26 rfl I0.out ?_); (case hw => rfl)))
        have qG1 := Lib.hid (setRow_heap _ W3.heap.size _ (uc (limN 4 x1)) _ _ HN.out)
        have bk := below_setRow bn (Nat.le_refl _) (uc (limN 4 x1))
        have hb := hb.trans (bk.mono hb.size)
        have HP := Lib.hid (HP.out.step bk)
        have G0 := Lib.hid (blk_below bk (blk_lt G0.out) G0.out)
        have G1 := qG1
        generalize (World.setRow (World.alloc _ _) _ _) = W4 at *
        generalize W3.heap.size = gG1 at *
        clear bk bn HN qG1
        refine (P2.out W4).mono ?_
        rintro e W5 ⟨rfl, bk⟩
        have hb := hb.trans (bk.mono hb.size)
        have HP := Lib.hid (HP.out.step bk)
        have G0 := Lib.hid (blk_below bk (blk_lt G0.out) G0.out)
        have G1 := Lib.hid (blk_below bk (blk_lt G1.out) G1.out)
        clear bk
        have HN := Lib.hid (blk_new W5 (.cells zeros4 26))
        have bn := below_new W5 (.cells zeros4 26)
        go_wp2_with (first | (with_reducible refine wpList_store_row rfl 26 _ _ rfl W5.heap.size (uc (limN 4 x2)) rfl rfl 26 _ HN.out I2.out Z2.out O2.out ?_) | (with_reducible refine wpList_load_row rfl 26 _ rfl gG0 rfl 26 _ (0, 0) _ G0.out Tryd.underlying26 rfl I0.out ?_) | ((with_reducible refine wpList_load_want ?hw 26 _ rfl gG0 rfl 26 _ (0, 0) _ G0.out Tryd.underlying26 rfl I0.out ?_); (case hw => rfl)) | (with_reducible refine wpList_load_row rfl 26 _ rfl gG1 rfl 26 _ (0, 0) _ G1.out Tryd.underlying26 rfl I1.out ?_) | ((with_reducible refine wpList_load_want ?hw 26 _ rfl gG1 rfl 26 _ (0, 0) _ G1.out Tryd.underlying26 rfl I1.out ?_); (case hw => rfl)))
        have qG2 := Lib.hid (setRow_heap _ W5.heap.size _ (uc (limN 4 x2)) _ _ HN.out)
        have bk := below_setRow bn (Nat.le_refl _) (uc (limN 4 x2))
        have hb := hb.trans (bk.mono hb.size)
        have HP := Lib.hid (HP.out.step bk)
        have G0 := Lib.hid (blk_below bk (blk_lt G0.out) G0.out)
        have G1 := Lib.hid (blk_below bk (blk_lt G1.out) G1.out)
        have G2 := qG2
        generalize (World.setRow (World.alloc _ _) _ _) = W6 at *
        generalize W5.heap.size = gG2 at *
        clear bk bn HN qG2
        refine wp_region_reads (by kernel_rfl) (by kernel_rfl) ?_
        repeat (first | go_big_quiet_step (first | with_reducible exact Calls.regrown_of (A01.out _) | with_reducible exact Calls.regrown_of (A10.out _) | with_reducible exact Calls.regrown_of (BA.out _) | with_reducible exact Calls.regrown_of (M01.out _) | with_reducible exact Calls.regrown_of (M10.out _) | with_reducible exact Calls.regrown_of (BM.out _) | with_reducible exact Calls.regrown_of (A12.out _) | with_reducible exact Calls.regrown_of (MA.out _) | with_reducible exact Calls.regrown_of (M02.out _) | with_reducible exact Calls.regrown_of (AM.out _) | with_reducible exact Calls.regrown_of (BD.out _) | with_reducible exact Calls.regrown_of (MM.out _) | with_reducible exact Calls.regrown_of (M12.out _) | with_reducible exact Calls.regrown_of (MN.out _) | with_reducible exact Calls.regrown_of (BN.out _)) | (refine arr_quiet_load rfl 26 _ rfl ⟨gG0, 0, none⟩ rfl _ (arr_row_regrown 26 gG0 26 _ (0, 0) _ G0.out Tryd.underlying26 rfl I0.out) ?_; simp only [Act.put, List.setIfInBounds_toArray, List.set_cons_succ, List.set_cons_zero]) | (refine arr_quiet_load rfl 26 _ rfl ⟨gG1, 0, none⟩ rfl _ (arr_row_regrown 26 gG1 26 _ (0, 0) _ G1.out Tryd.underlying26 rfl I1.out) ?_; simp only [Act.put, List.setIfInBounds_toArray, List.set_cons_succ, List.set_cons_zero]) | (refine arr_quiet_load rfl 26 _ rfl ⟨gG2, 0, none⟩ rfl _ (arr_row_regrown 26 gG2 26 _ (0, 0) _ G2.out Tryd.underlying26 rfl I2.out) ?_; simp only [Act.put, List.setIfInBounds_toArray, List.set_cons_succ, List.set_cons_zero]) | quiet_step (first | with_reducible exact Calls.regrown_of (A01.out _) | with_reducible exact Calls.regrown_of (A10.out _) | with_reducible exact Calls.regrown_of (BA.out _) | with_reducible exact Calls.regrown_of (M01.out _) | with_reducible exact Calls.regrown_of (M10.out _) | with_reducible exact Calls.regrown_of (BM.out _) | with_reducible exact Calls.regrown_of (A12.out _) | with_reducible exact Calls.regrown_of (MA.out _) | with_reducible exact Calls.regrown_of (M02.out _) | with_reducible exact Calls.regrown_of (AM.out _) | with_reducible exact Calls.regrown_of (BD.out _) | with_reducible exact Calls.regrown_of (MM.out _) | with_reducible exact Calls.regrown_of (M12.out _) | with_reducible exact Calls.regrown_of (MN.out _) | with_reducible exact Calls.regrown_of (BN.out _)))
        refine wpQuiet_nil ?_
        intro W7 bk
        have hb := hb.trans (bk.mono hb.size)
        have HP := Lib.hid (HP.out.step bk)
        have G0 := Lib.hid (blk_below bk (blk_lt G0.out) G0.out)
        have G1 := Lib.hid (blk_below bk (blk_lt G1.out) G1.out)
        have G2 := Lib.hid (blk_below bk (blk_lt G2.out) G2.out)
        clear bk
        go_wp2_with (first | (with_reducible refine wpList_load_row rfl 26 _ rfl gG0 rfl 26 _ (0, 0) _ G0.out Tryd.underlying26 rfl I0.out ?_) | ((with_reducible refine wpList_load_want ?hw 26 _ rfl gG0 rfl 26 _ (0, 0) _ G0.out Tryd.underlying26 rfl I0.out ?_); (case hw => rfl)) | (with_reducible refine wpList_load_row rfl 26 _ rfl gG1 rfl 26 _ (0, 0) _ G1.out Tryd.underlying26 rfl I1.out ?_) | ((with_reducible refine wpList_load_want ?hw 26 _ rfl gG1 rfl 26 _ (0, 0) _ G1.out Tryd.underlying26 rfl I1.out ?_); (case hw => rfl)) | (with_reducible refine wpList_load_row rfl 26 _ rfl gG2 rfl 26 _ (0, 0) _ G2.out Tryd.underlying26 rfl I2.out ?_) | ((with_reducible refine wpList_load_want ?hw 26 _ rfl gG2 rfl 26 _ (0, 0) _ G2.out Tryd.underlying26 rfl I2.out ?_); (case hw => rfl)))
        refine wp_region_reads (by kernel_rfl) (by kernel_rfl) ?_
        repeat (first | go_big_quiet_step (first | with_reducible exact Calls.regrown_of (A01.out _) | with_reducible exact Calls.regrown_of (S1.out _ (HP.out.step (below_regrown _ _ _))) | with_reducible exact Calls.regrown_of (B0.out _) | with_reducible exact Calls.regrown_of (S0.out _ (HP.out.step (below_regrown _ _ _))) | with_reducible exact Calls.regrown_of (BZ.out _) | with_reducible exact Calls.regrown_of (C0.out _)) | (refine arr_quiet_load rfl 26 _ rfl ⟨gG0, 0, none⟩ rfl _ (arr_row_regrown 26 gG0 26 _ (0, 0) _ G0.out Tryd.underlying26 rfl I0.out) ?_; simp only [Act.put, List.setIfInBounds_toArray, List.set_cons_succ, List.set_cons_zero]) | (refine arr_quiet_load rfl 26 _ rfl ⟨gG1, 0, none⟩ rfl _ (arr_row_regrown 26 gG1 26 _ (0, 0) _ G1.out Tryd.underlying26 rfl I1.out) ?_; simp only [Act.put, List.setIfInBounds_toArray, List.set_cons_succ, List.set_cons_zero]) | (refine arr_quiet_load rfl 26 _ rfl ⟨gG2, 0, none⟩ rfl _ (arr_row_regrown 26 gG2 26 _ (0, 0) _ G2.out Tryd.underlying26 rfl I2.out) ?_; simp only [Act.put, List.setIfInBounds_toArray, List.set_cons_succ, List.set_cons_zero]) | quiet_step (first | with_reducible exact Calls.regrown_of (A01.out _) | with_reducible exact Calls.regrown_of (S1.out _ (HP.out.step (below_regrown _ _ _))) | with_reducible exact Calls.regrown_of (B0.out _) | with_reducible exact Calls.regrown_of (S0.out _ (HP.out.step (below_regrown _ _ _))) | with_reducible exact Calls.regrown_of (BZ.out _) | with_reducible exact Calls.regrown_of (C0.out _)))
        refine wpQuiet_nil ?_
        intro W8 bk
        have hb := hb.trans (bk.mono hb.size)
        have HP := Lib.hid (HP.out.step bk)
        have G0 := Lib.hid (blk_below bk (blk_lt G0.out) G0.out)
        have G1 := Lib.hid (blk_below bk (blk_lt G1.out) G1.out)
        have G2 := Lib.hid (blk_below bk (blk_lt G2.out) G2.out)
        clear bk
        go_wp2_with (first | (with_reducible refine wpList_load_row rfl 26 _ rfl gG0 rfl 26 _ (0, 0) _ G0.out Tryd.underlying26 rfl I0.out ?_) | ((with_reducible refine wpList_load_want ?hw 26 _ rfl gG0 rfl 26 _ (0, 0) _ G0.out Tryd.underlying26 rfl I0.out ?_); (case hw => rfl)) | (with_reducible refine wpList_load_row rfl 26 _ rfl gG1 rfl 26 _ (0, 0) _ G1.out Tryd.underlying26 rfl I1.out ?_) | ((with_reducible refine wpList_load_want ?hw 26 _ rfl gG1 rfl 26 _ (0, 0) _ G1.out Tryd.underlying26 rfl I1.out ?_); (case hw => rfl)) | (with_reducible refine wpList_load_row rfl 26 _ rfl gG2 rfl 26 _ (0, 0) _ G2.out Tryd.underlying26 rfl I2.out ?_) | ((with_reducible refine wpList_load_want ?hw 26 _ rfl gG2 rfl 26 _ (0, 0) _ G2.out Tryd.underlying26 rfl I2.out ?_); (case hw => rfl)))
        refine wp_region_reads (by kernel_rfl) (by kernel_rfl) ?_
        repeat (first | go_big_quiet_step (first | with_reducible exact Calls.regrown_of (C1.out _) | with_reducible exact Calls.regrown_of (T1.out _) | with_reducible exact Calls.regrown_of (B0.out _) | with_reducible exact Calls.regrown_of (C0.out _) | with_reducible exact Calls.regrown_of (T0.out _) | with_reducible exact Calls.regrown_of (BZ.out _) | with_reducible exact Calls.regrown_of (fawake_any _ (HP.out.step (below_regrown _ _ _)))) | (refine arr_quiet_load rfl 26 _ rfl ⟨gG0, 0, none⟩ rfl _ (arr_row_regrown 26 gG0 26 _ (0, 0) _ G0.out Tryd.underlying26 rfl I0.out) ?_; simp only [Act.put, List.setIfInBounds_toArray, List.set_cons_succ, List.set_cons_zero]) | (refine arr_quiet_load rfl 26 _ rfl ⟨gG1, 0, none⟩ rfl _ (arr_row_regrown 26 gG1 26 _ (0, 0) _ G1.out Tryd.underlying26 rfl I1.out) ?_; simp only [Act.put, List.setIfInBounds_toArray, List.set_cons_succ, List.set_cons_zero]) | (refine arr_quiet_load rfl 26 _ rfl ⟨gG2, 0, none⟩ rfl _ (arr_row_regrown 26 gG2 26 _ (0, 0) _ G2.out Tryd.underlying26 rfl I2.out) ?_; simp only [Act.put, List.setIfInBounds_toArray, List.set_cons_succ, List.set_cons_zero]) | quiet_step (first | with_reducible exact Calls.regrown_of (C1.out _) | with_reducible exact Calls.regrown_of (T1.out _) | with_reducible exact Calls.regrown_of (B0.out _) | with_reducible exact Calls.regrown_of (C0.out _) | with_reducible exact Calls.regrown_of (T0.out _) | with_reducible exact Calls.regrown_of (BZ.out _) | with_reducible exact Calls.regrown_of (fawake_any _ (HP.out.step (below_regrown _ _ _)))))
        refine wpQuiet_nil ?_
        intro W9 bk
        have hb := hb.trans (bk.mono hb.size)
        have HP := Lib.hid (HP.out.step bk)
        have G0 := Lib.hid (blk_below bk (blk_lt G0.out) G0.out)
        have G1 := Lib.hid (blk_below bk (blk_lt G1.out) G1.out)
        have G2 := Lib.hid (blk_below bk (blk_lt G2.out) G2.out)
        clear bk
        go_wp2_with (first | (with_reducible refine wpList_load_row rfl 26 _ rfl gG0 rfl 26 _ (0, 0) _ G0.out Tryd.underlying26 rfl I0.out ?_) | ((with_reducible refine wpList_load_want ?hw 26 _ rfl gG0 rfl 26 _ (0, 0) _ G0.out Tryd.underlying26 rfl I0.out ?_); (case hw => rfl)) | (with_reducible refine wpList_load_row rfl 26 _ rfl gG1 rfl 26 _ (0, 0) _ G1.out Tryd.underlying26 rfl I1.out ?_) | ((with_reducible refine wpList_load_want ?hw 26 _ rfl gG1 rfl 26 _ (0, 0) _ G1.out Tryd.underlying26 rfl I1.out ?_); (case hw => rfl)) | (with_reducible refine wpList_load_row rfl 26 _ rfl gG2 rfl 26 _ (0, 0) _ G2.out Tryd.underlying26 rfl I2.out ?_) | ((with_reducible refine wpList_load_want ?hw 26 _ rfl gG2 rfl 26 _ (0, 0) _ G2.out Tryd.underlying26 rfl I2.out ?_); (case hw => rfl)))
        go_ret
        exact ⟨rfl, hb⟩
      · have P0 := Lib.hid (fun W => of_any s0 W h0)
        have hx0 : leV s0.data.toList 32 % pF < pF := Nat.mod_lt _ pF_pos
        generalize leV s0.data.toList 32 % pF = x0 at *
        have t0 : ((s0.size : Int) != 32) = false := by simp [h0]
        have I0 := Lib.hid (sizeF' x0); have Z0 := Lib.hid (zerosF_size x0); have O0 := Lib.hid (uc_one (limN 4 x0))
        clear h0
        have P1 := Lib.hid (fun W => of_any s1 W h1)
        have hx1 : leV s1.data.toList 32 % pF < pF := Nat.mod_lt _ pF_pos
        generalize leV s1.data.toList 32 % pF = x1 at *
        have t1 : ((s1.size : Int) != 32) = false := by simp [h1]
        have I1 := Lib.hid (sizeF' x1); have Z1 := Lib.hid (zerosF_size x1); have O1 := Lib.hid (uc_one (limN 4 x1))
        clear h1
        have P2 := Lib.hid (fun W => ofBad_any s2 W h2)
        have hx2 : 0 < pF := pF_pos
        obtain ⟨x2, hz2⟩ : ∃ x, x = 0 := ⟨_, rfl⟩
        rw [← hz2] at P2 hx2
        clear hz2
        have t2 : ((s2.size : Int) != 32) = true := by simp; omega
        have I2 := Lib.hid (sizeF' x2); have Z2 := Lib.hid (zerosF_size x2); have O2 := Lib.hid (uc_one (limN 4 x2))
        clear h2
        obtain ⟨hz, _⟩ := zero_of_info infoF
        have HP := Lib.hid hT
        have hb := Below.refl w.heap.size w
        clear hT
        go_enter Tryd.func8, Tryd.ntmps8
        go_wp2_with fail
        refine (P0.out w).mono ?_
        rintro e W1 ⟨rfl, bk⟩
        have hb := hb.trans (bk.mono hb.size)
        have HP := Lib.hid (HP.out.step bk)
        clear bk
        have HN := Lib.hid (blk_new W1 (.cells zeros4 26))
        have bn := below_new W1 (.cells zeros4 26)
        go_wp2_with (with_reducible refine wpList_store_row rfl 26 _ _ rfl W1.heap.size (uc (limN 4 x0)) rfl rfl 26 _ HN.out I0.out Z0.out O0.out ?_)
        have qG0 := Lib.hid (setRow_heap _ W1.heap.size _ (uc (limN 4 x0)) _ _ HN.out)
        have bk := below_setRow bn (Nat.le_refl _) (uc (limN 4 x0))
        have hb := hb.trans (bk.mono hb.size)
        have HP := Lib.hid (HP.out.step bk)
        have G0 := qG0
        generalize (World.setRow (World.alloc _ _) _ _) = W2 at *
        generalize W1.heap.size = gG0 at *
        clear bk bn HN qG0
        refine (P1.out W2).mono ?_
        rintro e W3 ⟨rfl, bk⟩
        have hb := hb.trans (bk.mono hb.size)
        have HP := Lib.hid (HP.out.step bk)
        have G0 := Lib.hid (blk_below bk (blk_lt G0.out) G0.out)
        clear bk
        have HN := Lib.hid (blk_new W3 (.cells zeros4 26))
        have bn := below_new W3 (.cells zeros4 26)
        go_wp2_with (first | (with_reducible refine wpList_store_row rfl 26 _ _ rfl W3.heap.size (uc (limN 4 x1)) rfl rfl 26 _ HN.out I1.out Z1.out O1.out ?_) | (with_reducible refine wpList_load_row rfl 26 _ rfl gG0 rfl 26 _ (0, 0) _ G0.out Tryd.underlying26 rfl I0.out ?_) | ((with_reducible refine wpList_load_want ?hw 26 _ rfl gG0 rfl 26 _ (0, 0) _ G0.out Tryd.underlying26 rfl I0.out ?_); (case hw => rfl)))
        have qG1 := Lib.hid (setRow_heap _ W3.heap.size _ (uc (limN 4 x1)) _ _ HN.out)
        have bk := below_setRow bn (Nat.le_refl _) (uc (limN 4 x1))
        have hb := hb.trans (bk.mono hb.size)
        have HP := Lib.hid (HP.out.step bk)
        have G0 := Lib.hid (blk_below bk (blk_lt G0.out) G0.out)
        have G1 := qG1
        generalize (World.setRow (World.alloc _ _) _ _) = W4 at *
        generalize W3.heap.size = gG1 at *
        clear bk bn HN qG1
        refine (P2.out W4).mono ?_
        rintro e W5 ⟨rfl, bk⟩
        have hb := hb.trans (bk.mono hb.size)
        have HP := Lib.hid (HP.out.step bk)
        have G0 := Lib.hid (blk_below bk (blk_lt G0.out) G0.out)
        have G1 := Lib.hid (blk_below bk (blk_lt G1.out) G1.out)
        clear bk
        have HN := Lib.hid (blk_new W5 (.cells zeros4 26))
        have bn := below_new W5 (.cells zeros4 26)
        go_wp2_with (first | (with_reducible refine wpList_store_row rfl 26 _ _ rfl W5.heap.size (uc (limN 4 x2)) rfl rfl 26 _ HN.out I2.out Z2.out O2.out ?_) | (with_reducible refine wpList_load_row rfl 26 _ rfl gG0 rfl 26 _ (0, 0) _ G0.out Tryd.underlying26 rfl I0.out ?_) | ((with_reducible refine wpList_load_want ?hw 26 _ rfl gG0 rfl 26 _ (0, 0) _ G0.out Tryd.underlying26 rfl I0.out ?_); (case hw => rfl)) | (with_reducible refine wpList_load_row rfl 26 _ rfl gG1 rfl 26 _ (0, 0) _ G1.out Tryd.underlying26 rfl I1.out ?_) | ((with_reducible refine wpList_load_want ?hw 26 _ rfl gG1 rfl 26 _ (0, 0) _ G1.out Tryd.underlying26 rfl I1.out ?_); (case hw => rfl)))
        have qG2 := Lib.hid (setRow_heap _ W5.heap.size _ (uc (limN 4 x2)) _ _ HN.out)
        have bk := below_setRow bn (Nat.le_refl _) (uc (limN 4 x2))
        have hb := hb.trans (bk.mono hb.size)
        have HP := Lib.hid (HP.out.step bk)
        have G0 := Lib.hid (blk_below bk (blk_lt G0.out) G0.out)
        have G1 := Lib.hid (blk_below bk (blk_lt G1.out) G1.out)
        have G2 := qG2
        generalize (World.setRow (World.alloc _ _) _ _) = W6 at *
        generalize W5.heap.size = gG2 at *
        clear bk bn HN qG2
        refine (fawake_any W6 HP.out).mono ?_
        rintro e W7 ⟨rfl, bk⟩
        have hb := hb.trans (bk.mono hb.size)
        have HP := Lib.hid (HP.out.step bk)
        have G0 := Lib.hid (blk_below bk (blk_lt G0.out) G0.out)
        have G1 := Lib.hid (blk_below bk (blk_lt G1.out) G1.out)
        have G2 := Lib.hid (blk_below bk (blk_lt G2.out) G2.out)
        clear bk
        go_wp2_with (first | (with_reducible refine wpList_load_row rfl 26 _ rfl gG0 rfl 26 _ (0, 0) _ G0.out Tryd.underlying26 rfl I0.out ?_) | ((with_reducible refine wpList_load_want ?hw 26 _ rfl gG0 rfl 26 _ (0, 0) _ G0.out Tryd.underlying26 rfl I0.out ?_); (case hw => rfl)) | (with_reducible refine wpList_load_row rfl 26 _ rfl gG1 rfl 26 _ (0, 0) _ G1.out Tryd.underlying26 rfl I1.out ?_) | ((with_reducible refine wpList_load_want ?hw 26 _ rfl gG1 rfl 26 _ (0, 0) _ G1.out Tryd.underlying26 rfl I1.out ?_); (case hw => rfl)) | (with_reducible refine wpList_load_row rfl 26 _ rfl gG2 rfl 26 _ (0, 0) _ G2.out Tryd.underlying26 rfl I2.out ?_) | ((with_reducible refine wpList_load_want ?hw 26 _ rfl gG2 rfl 26 _ (0, 0) _ G2.out Tryd.underlying26 rfl I2.out ?_); (case hw => rfl)))
        go_ret
        exact ⟨rfl, hb⟩
    · have P0 := Lib.hid (fun W => of_any s0 W h0)
      have hx0 : leV s0.data.toList 32 % pF < pF := Nat.mod_lt _ pF_pos
      generalize leV s0.data.toList 32 % pF = x0 at *
      have t0 : ((s0.size : Int) != 32) = false := by simp [h0]
      have I0 := Lib.hid (sizeF' x0); have Z0 := Lib.hid (zerosF_size x0); have O0 := Lib.hid (uc_one (limN 4 x0))
      clear h0
      have P1 := Lib.hid (fun W => ofBad_any s1 W h1)
      have hx1 : 0 < pF := pF_pos
      obtain ⟨x1, hz1⟩ : ∃ x, x = 0 := ⟨_, rfl⟩
      rw [← hz1] at P1 hx1
      clear hz1
      have t1 : ((s1.size : Int) != 32) = true := by simp; omega
      have I1 := Lib.hid (sizeF' x1); have Z1 := Lib.hid (zerosF_size x1); have O1 := Lib.hid (uc_one (limN 4 x1))
      clear h1
      obtain ⟨x2, q2, hx2, p2⟩ := ofAll s2
      have P2 := Lib.hid p2
      have I2 := Lib.hid (sizeF' x2); have Z2 := Lib.hid (zerosF_size x2); have O2 := Lib.hid (uc_one (limN 4 x2))
      clear p2
      obtain ⟨hz, _⟩ := zero_of_info infoF
      have HP := Lib.hid hT
      have hb := Below.refl w.heap.size w
      clear hT
      go_enter Tryd.func8, Tryd.ntmps8
      go_wp2_with fail
      refine (P0.out w).mono ?_
      rintro e W1 ⟨rfl, bk⟩
      have hb := hb.trans (bk.mono hb.size)
      have HP := Lib.hid (HP.out.step bk)
      clear bk
      have HN := Lib.hid (blk_new W1 (.cells zeros4 26))
      have bn := below_new W1 (.cells zeros4 26)
      go_wp2_with (with_reducible refine wpList_store_row rfl 26 _ _ rfl W1.heap.size (uc (limN 4 x0)) rfl rfl 26 _ HN.out I0.out Z0.out O0.out ?_)
      have qG0 := Lib.hid (setRow_heap _ W1.heap.size _ (uc (limN 4 x0)) _ _ HN.out)
      have bk := below_setRow bn (Nat.le_refl _) (uc (limN 4 x0))
      have hb := hb.trans (bk.mono hb.size)
      have HP := Lib.hid (HP.out.step bk)
      have G0 := qG0
      generalize (World.setRow (World.alloc _ _) _ _) = W2 at *
      generalize W1.heap.size = gG0 at *
      clear bk bn HN qG0
      refine (P1.out W2).mono ?_
      rintro e W3 ⟨rfl, bk⟩
      have hb := hb.trans (bk.mono hb.size)
      have HP := Lib.hid (HP.out.step bk)
      have G0 := Lib.hid (blk_below bk (blk_lt G0.out) G0.out)
      clear bk
      have HN := Lib.hid (blk_new W3 (.cells zeros4 26))
      have bn := below_new W3 (.cells zeros4 26)
      go_wp2_with (first | (with_reducible refine wpList_store_row rfl 26 _ _ rfl W3.heap.size (uc (limN 4 x1)) rfl rfl 26 _ HN.out I1.out Z1.out O1.out ?_) | (with_reducible refine wpList_load_row rfl 26 _ rfl gG0 rfl 26 _ (0, 0) _ G0.out Tryd.underlying26 rfl I0.out ?_) | ((with_reducible refine wpList_load_want ?hw 26 _ rfl gG0 rfl 26 _ (0, 0) _ G0.out Tryd.underlying26 rfl I0.out ?_); (case hw => rfl)))
      have qG1 := Lib.hid (setRow_heap _ W3.heap.size _ (uc (limN 4 x1)) _ _ HN.out)
      have bk := below_setRow bn (Nat.le_refl _) (uc (limN 4 x1))
      have hb := hb.trans (bk.mono hb.size)
      have HP := Lib.hid (HP.out.step bk)
      have G0 := Lib.hid (blk_below bk (blk_lt G0.out) G0.out)
      have G1 := qG1
      generalize (World.setRow (World.alloc _ _) _ _) = W4 at *
      generalize W3.heap.size = gG1 at *
      clear bk bn HN qG1
      refine (P2.out W4).mono ?_
      rintro e W5 ⟨rfl, bk⟩
      have hb := hb.trans (bk.mono hb.size)
      have HP := Lib.hid (HP.out.step bk)
      have G0 := Lib.hid (blk_below bk (blk_lt G0.out) G0.out)
      have G1 := Lib.hid (blk_below bk (blk_lt G1.out) G1.out)
      clear bk
      have HN := Lib.hid (blk_new W5 (.cells zeros4 26))
      have bn := below_new W5 (.cells zeros4 26)
      go_wp2_with (first | (with_reducible refine wpList_store_row rfl 26 _ _ rfl W5.heap.size (uc (limN 4 x2)) rfl rfl 26 _ HN.out I2.out Z2.out O2.out ?_) | (with_reducible refine wpList_load_row rfl 26 _ rfl gG0 rfl 26 _ (0, 0) _ G0.out Tryd.underlying26 rfl I0.out ?_) | ((with_reducible refine wpList_load_want ?hw 26 _ rfl gG0 rfl 26 _ (0, 0) _ G0.out Tryd.underlying26 rfl I0.out ?_); (case hw => rfl)) | (with_reducible refine wpList_load_row rfl 26 _ rfl gG1 rfl 26 _ (0, 0) _ G1.out Tryd.underlying26 rfl I1.out ?_) | ((with_reducible refine wpList_load_want ?hw 26 _ rfl gG1 rfl 26 _ (0, 0) _ G1.out Tryd.underlying26 rfl I1.out ?_); (case hw => rfl)))
      have qG2 := Lib.hid (setRow_heap _ W5.heap.size _ (uc (limN 4 x2)) _ _ HN.out)
      have bk := below_setRow bn (Nat.le_refl _) (uc (limN 4 x2))
      have hb := hb.trans (bk.mono hb.size)
      have HP := Lib.hid (HP.out.step bk)
      have G0 := Lib.hid (blk_below bk (blk_lt G0.out) G0.out)
      have G1 := Lib.hid (blk_below bk (blk_lt G1.out) G1.out)
      have G2 := qG2
      generalize (World.setRow (World.alloc _ _) _ _) = W6 at *
      generalize W5.heap.size = gG2 at *
      clear bk bn HN qG2
      refine (fawake_any W6 HP.out).mono ?_
      rintro e W7 ⟨rfl, bk⟩
      have hb := hb.trans (bk.mono hb.size)
      have HP := Lib.hid (HP.out.step bk)
      have G0 := Lib.hid (blk_below bk (blk_lt G0.out) G0.out)
      have G1 := Lib.hid (blk_below bk (blk_lt G1.out) G1.out)
      have G2 := Lib.hid (blk_below bk (blk_lt G2.out) G2.out)
      clear bk
      go_wp2_with (first | (with_reducible refine wpList_load_row rfl 26 _ rfl gG0 rfl 26 _ (0, 0) _ G0.out Tryd.underlying26 rfl I0.out ?_) | ((with_reducible refine wpList_load_want ?hw 26 _ rfl gG0 rfl 26 _ (0, 0) _ G0.out Tryd.underlying26 rfl I0.out ?_); (case hw => rfl)) | (with_reducible refine wpList_load_row rfl 26 _ rfl gG1 rfl 26 _ (0, 0) _ G1.out Tryd.underlying26 rfl I1.out ?_) | ((with_reducible refine wpList_load_want ?hw 26 _ rfl gG1 rfl 26 _ (0, 0) _ G1.out Tryd.underlying26 rfl I1.out ?_); (case hw => rfl)) | (with_reducible refine wpList_load_row rfl 26 _ rfl gG2 rfl 26 _ (0, 0) _ G2.out Tryd.underlying26 rfl I2.out ?_) | ((with_reducible refine wpList_load_want ?hw 26 _ rfl gG2 rfl 26 _ (0, 0) _ G2.out Tryd.underlying26 rfl I2.out ?_); (case hw => rfl)))
      go_ret
      exact ⟨rfl, hb⟩
  · have P0 := Lib.hid (fun W => ofBad_any s0 W h0)
    have hx0 : 0 < pF := pF_pos
    obtain ⟨x0, hz0⟩ : ∃ x, x = 0 := ⟨_, rfl⟩
    rw [← hz0] at P0 hx0
    clear hz0
    have t0 : ((s0.size : Int) != 32) = true := by simp; omega
    have I0 := Lib.hid (sizeF' x0); have Z0 := Lib.hid (zerosF_size x0); have O0 := Lib.hid (uc_one (limN 4 x0))
    clear h0
    obtain ⟨x1, q1, hx1, p1⟩ := ofAll s1
    have P1 := Lib.hid p1
    have I1 := Lib.hid (sizeF' x1); have Z1 := Lib.hid (zerosF_size x1); have O1 := Lib.hid (uc_one (limN 4 x1))
    clear p1
    obtain ⟨x2, q2, hx2, p2⟩ := ofAll s2
    have P2 := Lib.hid p2
    have I2 := Lib.hid (sizeF' x2); have Z2 := Lib.hid (zerosF_size x2); have O2 := Lib.hid (uc_one (limN 4 x2))
    clear p2
    obtain ⟨hz, _⟩ := zero_of_info infoF
    have HP := Lib.hid hT
    have hb := Below.refl w.heap.size w
    clear hT
    go_enter Tryd.func8, Tryd.ntmps8
    go_wp2_with fail
    refine (P0.out w).mono ?_
    rintro e W1 ⟨rfl, bk⟩
    have hb := hb.trans (bk.mono hb.size)
    have HP := Lib.hid (HP.out.step bk)
    clear bk
    have HN := Lib.hid (blk_new W1 (.cells zeros4 26))
    have bn := below_new W1 (.cells zeros4 26)
    go_wp2_with (with_reducible refine wpList_store_row rfl 26 _ _ rfl W1.heap.size (uc (limN 4 x0)) rfl rfl 26 _ HN.out I0.out Z0.out O0.out ?_)
    have qG0 := Lib.hid (setRow_heap _ W1.heap.size _ (uc (limN 4 x0)) _ _ HN.out)
    have bk := below_setRow bn (Nat.le_refl _) (uc (limN 4 x0))
    have hb := hb.trans (bk.mono hb.size)
    have HP := Lib.hid (HP.out.step bk)
    have G0 := qG0
    generalize (World.setRow (World.alloc _ _) _ _) = W2 at *
    generalize W1.heap.size = gG0 at *
    clear bk bn HN qG0
    refine (P1.out W2).mono ?_
    rintro e W3 ⟨rfl, bk⟩
    have hb := hb.trans (bk.mono hb.size)
    have HP := Lib.hid (HP.out.step bk)
    have G0 := Lib.hid (blk_below bk (blk_lt G0.out) G0.out)
    clear bk
    have HN := Lib.hid (blk_new W3 (.cells zeros4 26))
    have bn := below_new W3 (.cells zeros4 26)
    go_wp2_with (first | (with_reducible refine wpList_store_row rfl 26 _ _ rfl W3.heap.size (uc (limN 4 x1)) rfl rfl 26 _ HN.out I1.out Z1.out O1.out ?_) | (with_reducible refine wpList_load_row rfl 26 _ rfl gG0 rfl 26 _ (0, 0) _ G0.out Tryd.underlying26 rfl I0.out ?_) | ((with_reducible refine wpList_load_want ?hw 26 _ rfl gG0 rfl 26 _ (0, 0) _ G0.out Tryd.underlying26 rfl I0.out ?_); (case hw => rfl)))
    have qG1 := Lib.hid (setRow_heap _ W3.heap.size _ (uc (limN 4 x1)) _ _ HN.out)
    have bk := below_setRow bn (Nat.le_refl _) (uc (limN 4 x1))
    have hb := hb.trans (bk.mono hb.size)
    have HP := Lib.hid (HP.out.step bk)
    have G0 := Lib.hid (blk_below bk (blk_lt G0.out) G0.out)
    have G1 := qG1
    generalize (World.setRow (World.alloc _ _) _ _) = W4 at *
    generalize W3.heap.size = gG1 at *
    clear bk bn HN qG1
    refine (P2.out W4).mono ?_
    rintro e W5 ⟨rfl, bk⟩
    have hb := hb.trans (bk.mono hb.size)
    have HP := Lib.hid (HP.out.step bk)
    have G0 := Lib.hid (blk_below bk (blk_lt G0.out) G0.out)
    have G1 := Lib.hid (blk_below bk (blk_lt G1.out) G1.out)
    clear bk
    have HN := Lib.hid (blk_new W5 (.cells zeros4 26))
    have bn := below_new W5 (.cells zeros4 26)
    go_wp2_with (first | (with_reducible refine wpList_store_row rfl 26 _ _ rfl W5.heap.size (uc (limN 4 x2)) rfl rfl 26 _ HN.out I2.out Z2.out O2.out ?_) | (with_reducible refine wpList_load_row rfl 26 _ rfl gG0 rfl 26 _ (0, 0) _ G0.out Tryd.underlying26 rfl I0.out ?_) | ((with_reducible refine wpList_load_want ?hw 26 _ rfl gG0 rfl 26 _ (0, 0) _ G0.out Tryd.underlying26 rfl I0.out ?_); (case hw => rfl)) | (with_reducible refine wpList_load_row rfl 26 _ rfl gG1 rfl 26 _ (0, 0) _ G1.out Tryd.underlying26 rfl I1.out ?_) | ((with_reducible refine wpList_load_want ?hw 26 _ rfl gG1 rfl 26 _ (0, 0) _ G1.out Tryd.underlying26 rfl I1.out ?_); (case hw => rfl)))
    have qG2 := Lib.hid (setRow_heap _ W5.heap.size _ (uc (limN 4 x2)) _ _ HN.out)
    have bk := below_setRow bn (Nat.le_refl _) (uc (limN 4 x2))
    have hb := hb.trans (bk.mono hb.size)
    have HP := Lib.hid (HP.out.step bk)
    have G0 := Lib.hid (blk_below bk (blk_lt G0.out) G0.out)
    have G1 := Lib.hid (blk_below bk (blk_lt G1.out) G1.out)
    have G2 := qG2
    generalize (World.setRow (World.alloc _ _) _ _) = W6 at *
    generalize W5.heap.size = gG2 at *
    clear bk bn HN qG2
    refine (fawake_any W6 HP.out).mono ?_
    rintro e W7 ⟨rfl, bk⟩
    have hb := hb.trans (bk.mono hb.size)
    have HP := Lib.hid (HP.out.step bk)
    have G0 := Lib.hid (blk_below bk (blk_lt G0.out) G0.out)
    have G1 := Lib.hid (blk_below bk (blk_lt G1.out) G1.out)
    have G2 := Lib.hid (blk_below bk (blk_lt G2.out) G2.out)
    clear bk
    go_wp2_with (first | (with_reducible refine wpList_load_row rfl 26 _ rfl gG0 rfl 26 _ (0, 0) _ G0.out Tryd.underlying26 rfl I0.out ?_) | ((with_reducible refine wpList_load_want ?hw 26 _ rfl gG0 rfl 26 _ (0, 0) _ G0.out Tryd.underlying26 rfl I0.out ?_); (case hw => rfl)) | (with_reducible refine wpList_load_row rfl 26 _ rfl gG1 rfl 26 _ (0, 0) _ G1.out Tryd.underlying26 rfl I1.out ?_) | ((with_reducible refine wpList_load_want ?hw 26 _ rfl gG1 rfl 26 _ (0, 0) _ G1.out Tryd.underlying26 rfl I1.out ?_); (case hw => rfl)) | (with_reducible refine wpList_load_row rfl 26 _ rfl gG2 rfl 26 _ (0, 0) _ G2.out Tryd.underlying26 rfl I2.out ?_) | ((with_reducible refine wpList_load_want ?hw 26 _ rfl gG2 rfl 26 _ (0, 0) _ G2.out Tryd.underlying26 rfl I2.out ?_); (case hw => rfl)))
    go_ret
    exact ⟨rfl, hb⟩

theorem fieldLaws_lifted (os : Os) (started : os.Started) (H : Type) (enc : TypeId × Value → H) :
    ReturnsInHanded {} Tryd.checked os 8 .any (fun w args => (Rows.fieldLawsSpec.pre enc Tryd.prog Tryd.f8 [] false w args ∧ laidMetH Tryd.prog laid1 w) ∧ sizedMet enc Tryd.prog Tryd.f8 (OpenSpec.ofChange Rows.fieldLawsSpec) false w args)
      (Rows.fieldLawsSpec.post enc Tryd.prog Tryd.f8 false true false false) := by
  refine returnsInHanded_of_change_and (C := Tryd.checked) (X := fun w _ => laidMetH Tryd.prog laid1 w) (fun _ _ _ hh h => h.of_heap hh) own1 started (by kernel_rfl) Tryd.func8
    (ChangeSpec.witness_shaped (enc := enc) (C := Tryd.checked) (os := os) (X := fun w _ => laidMetH Tryd.prog laid1 w) false (World.doorLaid Tryd.prog 400 os) #[.string ⟨#[]⟩, .string ⟨#[]⟩, .string ⟨#[]⟩] 8 rfl (World.shaped_of_RefB (by kernel_rfl) (by kernel_rfl)) (by kernel_rfl) (by kernel_rfl) (by kernel_rfl) (door_met1 os _)) ?_
  intro W base args ds gs before hval0 hW _ _ hL _
  have hval : ∀ (j : Nat) t v, Tryd.f8.params[j]? = some t → args[j]? = some v → Value.okWide Tryd.prog W .any base t v := hval0
  have hW' := hW
  obtain ⟨p, q, hA0, hV, rfl, hfz, hnd⟩ := hW
  have hA : DataW.TrodAll enc Tryd.prog W 0 (fun _ => true) true Tryd.f8.params.toList args.toList ds p := hA0
  rw [Tryd.params8] at hA hval
  obtain ⟨v0, v1, v2, d0, d1, d2, p0, p1, p2, rfl, rfl, rfl, h0, h1, h2⟩ := trodAll_three hA
  obtain ⟨rfl, rfl⟩ := trodVars_none hV
  obtain ⟨s0, rfl, rfl, rfl, w0⟩ := open_string Tryd.underlying9 (hval 0 9 v0 rfl rfl) h0
  obtain ⟨s1, rfl, rfl, rfl, w1⟩ := open_string Tryd.underlying9 (hval 1 9 v1 rfl rfl) h1
  obtain ⟨s2, rfl, rfl, rfl, w2⟩ := open_string Tryd.underlying9 (hval 2 9 v2 rfl rfl) h2
  have hT := of_laid1 hL
  clear hA0 hval0
  simp only [List.append_nil] at hW'
  refine (fieldLaws_any s0 s1 s2 W w0 w1 w2 hT).mono fun e W' ⟨he, hb⟩ => ?_
  subst he
  refine ⟨_, rfl, _, _, _, [], [], [], hW', ?_, ?_, rfl, hb.frame _, fun h => by cases h⟩
  · exact trodAll_mk1 (shut_bool Tryd.underlying4 _)
  · exact trodAll_mk3 (shut_string Tryd.underlying9 w0) (shut_string Tryd.underlying9 w1) (shut_string Tryd.underlying9 w2)

theorem fieldLaws_holds : Rows.FieldLawsSaid :=
  OpenClaim.holds_of_wide 8 Tryd.f8 rfl rfl rfl rfl rfl rfl rfl ⟨rfl, rfl, rfl, rfl, rfl⟩ rfl rfl rfl rfl rfl (by kernel_rfl) Tryd.func8 (by kernel_rfl)
    (of_decide_eq_true (by kernel_rfl)) (by unfold Func.isWrapper; first | (rw [if_pos (by decide +kernel)]; kernel_rfl) | (rw [if_neg (by decide +kernel)]; exact ⟨rfl, rfl⟩))
    (fun os started H enc _ => fieldLaws_lifted os started H enc)

theorem fieldLaws_card : Rows.FieldLawsCardSaid :=
  Claim7.holds_tied_plain_at .later [] [.data] true (true, "dba20598ad203cc8d4eae559620b14cd2e22259d0cd38305137873b869c887c5") false
    fieldLaws_holds (fun _ h => by cases h) (by kernel_rfl) (fun _ h => by cases h) fieldLaws_row_tie rfl ⟨rfl, rfl⟩ (by kernel_rfl) rfl
    (fun f fn hf hfn => by
      obtain rfl : f = 8 := Option.some.inj ((show Tryd.prog.funcNamed "cresset/cressetlaw08.FieldLaws" = some 8 by kernel_rfl).symm.trans hf) |>.symm
      obtain rfl : fn = Tryd.f8 := (Option.some.inj (Tryd.func8.symm.trans hfn)).symm
      exact ⟨by kernel_rfl, fun j t ht => by
        rw [Tryd.params8] at ht
        have hm : t ∈ [9, 9, 9] := by simpa using Array.mem_of_getElem? ht
        have hall : ([9, 9, 9].all fun u => !Tryd.prog.wantsStandIn u) = true := by kernel_rfl
        exact (show Tryd.prog.wantsStandIn t = false by simpa using List.all_eq_true.1 hall t hm)⟩)
    (by kernel_rfl)
#print axioms fieldLaws_card
end Go.Proofs.YtfidcdkoggfjaaaDoor
