/- FieldMuls: for every two texts the program's product of their numbers is the reference's; the chapter's examples hold. No condition; the prime of package field lies as the program's text lays it. -/
import Derived.Test.YtfidcdkoggfjaaaDoorCards
import Derived.Test.YtfidcdkoggfjaaaDoorTie
import Derived.SevenTiedAt
import Derived.Test.YtfidcdkoggfjaaaDoorFldWake
import Derived.Test.YtfidcdkoggfjaaaDoorFrRoot
import Derived.Test.YtfidcdkoggfjaaaDoorFrOf
import Derived.Test.YtfidcdkoggfjaaaDoorFrBytes
namespace Go.Proofs.YtfidcdkoggfjaaaDoor
open Go.ChangeShapes Go.WideShapes Go.ChangeAt Go.WideMaps Go.WideElems Go.RowKit
open Go.ChangeMaps (open_string shut_string)
set_option maxRecDepth 100000
set_option linter.unusedSimpArgs false
set_option linter.unusedVariables false

set_option maxHeartbeats 4000000 in
theorem fieldMuls_any (s0 s1 : ByteArray) (w : World) (_ : s0.size ≤ maxLen) (_ : s1.size ≤ maxLen) (hT : PrmQ w) :
    Calls Tryd.prog 5 #[.string s0, .string s1] w fun e w' => e = .returned (.bool true) ∧ Below w.heap.size w w' := by
  by_cases h0 : s0.size = 32
  · by_cases h1 : s1.size = 32
    · have P0 := Lib.hid (fun W => of_any s0 W h0)
      have Q0 := Lib.hid (fun W => ofRef_any s0 W h0)
      have hx0 : leV s0.data.toList 32 % pF < pF := Nat.mod_lt _ pF_pos
      generalize leV s0.data.toList 32 % pF = x0 at *
      have t0 : ((s0.size : Int) != 32) = false := by simp [h0]
      have I0 := Lib.hid (sizeF' x0); have Z0 := Lib.hid (zerosF_size x0); have O0 := Lib.hid (uc_one (limN 4 x0))
      clear h0
      have P1 := Lib.hid (fun W => of_any s1 W h1)
      have Q1 := Lib.hid (fun W => ofRef_any s1 W h1)
      have hx1 : leV s1.data.toList 32 % pF < pF := Nat.mod_lt _ pF_pos
      generalize leV s1.data.toList 32 % pF = x1 at *
      have t1 : ((s1.size : Int) != 32) = false := by simp [h1]
      have I1 := Lib.hid (sizeF' x1); have Z1 := Lib.hid (zerosF_size x1); have O1 := Lib.hid (uc_one (limN 4 x1))
      clear h1
      have Cm := Lib.hid (fun W (hW : PrmQ W) => mulF_any x0 x1 W hx0 hx1)
      have Rm := Lib.hid (fun W da db ha hb => mulRef_any da db x0 x1 W hx0 hx1 ha hb)
      have Bm := Lib.hid (fun W => bytesF_any (mulF x0 x1) W)
      have Em := Lib.hid (fun W d h => bytesRef_any d (mulF x0 x1) W h)
      generalize mulF x0 x1 = rm at *
      generalize (⟨(leF rm 32).toArray⟩ : ByteArray) = zm at *
      have em := same_text zm
      obtain ⟨hz, _⟩ := zero_of_info infoF
      have HP := Lib.hid hT
      have hb := Below.refl w.heap.size w
      clear hT
      go_enter Tryd.func5, Tryd.ntmps5
      go_wp2_with fail
      refine (P0.out w).mono ?_
      rintro e W1 ⟨rfl, bk⟩
      have hb := hb.trans (bk.mono hb.size)
      have HP := Lib.hid (HP.out.step bk)
      clear bk
      have HN := Lib.hid (blk_new W1 (.cells zeros4 26))
      have bn := below_new W1 (.cells zeros4 26)
      go_wp2_with (with_reducible refine wpList_store_row rfl 26 _ _ rfl W1.heap.size (uc (limN 4 x0)) rfl rfl 26 _ HN.out I0.out Z0.out O0.out ?_)
      have qG0 := Lib.hid (setRow_heap _ W1.heap.size _ (uc (limN 4 x0)) _ _ HN.out)
      have bk := below_setRow bn (Nat.le_refl _) (uc (limN 4 x0))
      have hb := hb.trans (bk.mono hb.size)
      have HP := Lib.hid (HP.out.step bk)
      have G0 := qG0
      generalize (World.setRow (World.alloc _ _) _ _) = W2 at *
      generalize W1.heap.size = gG0 at *
      clear bk bn HN qG0
      refine (P1.out W2).mono ?_
      rintro e W3 ⟨rfl, bk⟩
      have hb := hb.trans (bk.mono hb.size)
      have HP := Lib.hid (HP.out.step bk)
      have G0 := Lib.hid (blk_below bk (blk_lt G0.out) G0.out)
      clear bk
      have HN := Lib.hid (blk_new W3 (.cells zeros4 26))
      have bn := below_new W3 (.cells zeros4 26)
      go_wp2_with (first | (with_reducible refine wpList_store_row rfl 26 _ _ rfl W3.heap.size (uc (limN 4 x1)) rfl rfl 26 _ HN.out I1.out Z1.out O1.out ?_) | (with_reducible refine wpList_load_row rfl 26 _ rfl gG0 rfl 26 _ (0, 0) _ G0.out Tryd.underlying26 rfl I0.out ?_) | ((with_reducible refine wpList_load_want ?hw 26 _ rfl gG0 rfl 26 _ (0, 0) _ G0.out Tryd.underlying26 rfl I0.out ?_); (case hw => rfl)))
      have qG1 := Lib.hid (setRow_heap _ W3.heap.size _ (uc (limN 4 x1)) _ _ HN.out)
      have bk := below_setRow bn (Nat.le_refl _) (uc (limN 4 x1))
      have hb := hb.trans (bk.mono hb.size)
      have HP := Lib.hid (HP.out.step bk)
      have G0 := Lib.hid (blk_below bk (blk_lt G0.out) G0.out)
      have G1 := qG1
      generalize (World.setRow (World.alloc _ _) _ _) = W4 at *
      generalize W3.heap.size = gG1 at *
      clear bk bn HN qG1
      refine (Q0.out W4).mono ?_
      rintro e W5 ⟨⟨vD0, rfl, qD0⟩, bk⟩
      have hb := hb.trans (bk.mono hb.size)
      have HP := Lib.hid (HP.out.step bk)
      have G0 := Lib.hid (blk_below bk (blk_lt G0.out) G0.out)
      have G1 := Lib.hid (blk_below bk (blk_lt G1.out) G1.out)
      have D0 := Lib.hid qD0
      clear bk qD0
      go_wp2_with (first | (with_reducible refine wpList_load_row rfl 26 _ rfl gG0 rfl 26 _ (0, 0) _ G0.out Tryd.underlying26 rfl I0.out ?_) | ((with_reducible refine wpList_load_want ?hw 26 _ rfl gG0 rfl 26 _ (0, 0) _ G0.out Tryd.underlying26 rfl I0.out ?_); (case hw => rfl)) | (with_reducible refine wpList_load_row rfl 26 _ rfl gG1 rfl 26 _ (0, 0) _ G1.out Tryd.underlying26 rfl I1.out ?_) | ((with_reducible refine wpList_load_want ?hw 26 _ rfl gG1 rfl 26 _ (0, 0) _ G1.out Tryd.underlying26 rfl I1.out ?_); (case hw => rfl)))
      refine (Q1.out W5).mono ?_
      rintro e W6 ⟨⟨vD1, rfl, qD1⟩, bk⟩
      have hb := hb.trans (bk.mono hb.size)
      have HP := Lib.hid (HP.out.step bk)
      have G0 := Lib.hid (blk_below bk (blk_lt G0.out) G0.out)
      have G1 := Lib.hid (blk_below bk (blk_lt G1.out) G1.out)
      have D0 := Lib.hid (D0.out.step bk)
      have D1 := Lib.hid qD1
      clear bk qD1
      go_wp2_with (first | (with_reducible refine wpList_load_row rfl 26 _ rfl gG0 rfl 26 _ (0, 0) _ G0.out Tryd.underlying26 rfl I0.out ?_) | ((with_reducible refine wpList_load_want ?hw 26 _ rfl gG0 rfl 26 _ (0, 0) _ G0.out Tryd.underlying26 rfl I0.out ?_); (case hw => rfl)) | (with_reducible refine wpList_load_row rfl 26 _ rfl gG1 rfl 26 _ (0, 0) _ G1.out Tryd.underlying26 rfl I1.out ?_) | ((with_reducible refine wpList_load_want ?hw 26 _ rfl gG1 rfl 26 _ (0, 0) _ G1.out Tryd.underlying26 rfl I1.out ?_); (case hw => rfl)))
      refine (Cm.out W6 HP.out).mono ?_
      rintro e W7 ⟨rfl, bk⟩
      have hb := hb.trans (bk.mono hb.size)
      have HP := Lib.hid (HP.out.step bk)
      have G0 := Lib.hid (blk_below bk (blk_lt G0.out) G0.out)
      have G1 := Lib.hid (blk_below bk (blk_lt G1.out) G1.out)
      have D0 := Lib.hid (D0.out.step bk)
      have D1 := Lib.hid (D1.out.step bk)
      clear bk
      go_wp2_with (first | (with_reducible refine wpList_load_row rfl 26 _ rfl gG0 rfl 26 _ (0, 0) _ G0.out Tryd.underlying26 rfl I0.out ?_) | ((with_reducible refine wpList_load_want ?hw 26 _ rfl gG0 rfl 26 _ (0, 0) _ G0.out Tryd.underlying26 rfl I0.out ?_); (case hw => rfl)) | (with_reducible refine wpList_load_row rfl 26 _ rfl gG1 rfl 26 _ (0, 0) _ G1.out Tryd.underlying26 rfl I1.out ?_) | ((with_reducible refine wpList_load_want ?hw 26 _ rfl gG1 rfl 26 _ (0, 0) _ G1.out Tryd.underlying26 rfl I1.out ?_); (case hw => rfl)))
      refine (Bm.out W7).mono ?_
      rintro e W8 ⟨rfl, bk⟩
      have hb := hb.trans (bk.mono hb.size)
      have HP := Lib.hid (HP.out.step bk)
      have G0 := Lib.hid (blk_below bk (blk_lt G0.out) G0.out)
      have G1 := Lib.hid (blk_below bk (blk_lt G1.out) G1.out)
      have D0 := Lib.hid (D0.out.step bk)
      have D1 := Lib.hid (D1.out.step bk)
      clear bk
      go_wp2_with (first | (with_reducible refine wpList_load_row rfl 26 _ rfl gG0 rfl 26 _ (0, 0) _ G0.out Tryd.underlying26 rfl I0.out ?_) | ((with_reducible refine wpList_load_want ?hw 26 _ rfl gG0 rfl 26 _ (0, 0) _ G0.out Tryd.underlying26 rfl I0.out ?_); (case hw => rfl)) | (with_reducible refine wpList_load_row rfl 26 _ rfl gG1 rfl 26 _ (0, 0) _ G1.out Tryd.underlying26 rfl I1.out ?_) | ((with_reducible refine wpList_load_want ?hw 26 _ rfl gG1 rfl 26 _ (0, 0) _ G1.out Tryd.underlying26 rfl I1.out ?_); (case hw => rfl)))
      refine (Rm.out W8 _ _ D0.out D1.out).mono ?_
      rintro e W9 ⟨⟨vDm, rfl, qDm⟩, bk⟩
      have hb := hb.trans (bk.mono hb.size)
      have HP := Lib.hid (HP.out.step bk)
      have G0 := Lib.hid (blk_below bk (blk_lt G0.out) G0.out)
      have G1 := Lib.hid (blk_below bk (blk_lt G1.out) G1.out)
      have D0 := Lib.hid (D0.out.step bk)
      have D1 := Lib.hid (D1.out.step bk)
      have Dm := Lib.hid qDm
      clear bk qDm
      go_wp2_with (first | (with_reducible refine wpList_load_row rfl 26 _ rfl gG0 rfl 26 _ (0, 0) _ G0.out Tryd.underlying26 rfl I0.out ?_) | ((with_reducible refine wpList_load_want ?hw 26 _ rfl gG0 rfl 26 _ (0, 0) _ G0.out Tryd.underlying26 rfl I0.out ?_); (case hw => rfl)) | (with_reducible refine wpList_load_row rfl 26 _ rfl gG1 rfl 26 _ (0, 0) _ G1.out Tryd.underlying26 rfl I1.out ?_) | ((with_reducible refine wpList_load_want ?hw 26 _ rfl gG1 rfl 26 _ (0, 0) _ G1.out Tryd.underlying26 rfl I1.out ?_); (case hw => rfl)))
      refine (Em.out W9 _ Dm.out).mono ?_
      rintro e W10 ⟨rfl, bk⟩
      have hb := hb.trans (bk.mono hb.size)
      have HP := Lib.hid (HP.out.step bk)
      have G0 := Lib.hid (blk_below bk (blk_lt G0.out) G0.out)
      have G1 := Lib.hid (blk_below bk (blk_lt G1.out) G1.out)
      have D0 := Lib.hid (D0.out.step bk)
      have D1 := Lib.hid (D1.out.step bk)
      have Dm := Lib.hid (Dm.out.step bk)
      clear bk
      go_wp2_with (first | (with_reducible refine wpList_load_row rfl 26 _ rfl gG0 rfl 26 _ (0, 0) _ G0.out Tryd.underlying26 rfl I0.out ?_) | ((with_reducible refine wpList_load_want ?hw 26 _ rfl gG0 rfl 26 _ (0, 0) _ G0.out Tryd.underlying26 rfl I0.out ?_); (case hw => rfl)) | (with_reducible refine wpList_load_row rfl 26 _ rfl gG1 rfl 26 _ (0, 0) _ G1.out Tryd.underlying26 rfl I1.out ?_) | ((with_reducible refine wpList_load_want ?hw 26 _ rfl gG1 rfl 26 _ (0, 0) _ G1.out Tryd.underlying26 rfl I1.out ?_); (case hw => rfl)))
      refine (fawake_any W10 HP.out).mono ?_
      rintro e W11 ⟨rfl, bk⟩
      have hb := hb.trans (bk.mono hb.size)
      have HP := Lib.hid (HP.out.step bk)
      have G0 := Lib.hid (blk_below bk (blk_lt G0.out) G0.out)
      have G1 := Lib.hid (blk_below bk (blk_lt G1.out) G1.out)
      have D0 := Lib.hid (D0.out.step bk)
      have D1 := Lib.hid (D1.out.step bk)
      have Dm := Lib.hid (Dm.out.step bk)
      clear bk
      go_wp2_with (first | (with_reducible refine wpList_load_row rfl 26 _ rfl gG0 rfl 26 _ (0, 0) _ G0.out Tryd.underlying26 rfl I0.out ?_) | ((with_reducible refine wpList_load_want ?hw 26 _ rfl gG0 rfl 26 _ (0, 0) _ G0.out Tryd.underlying26 rfl I0.out ?_); (case hw => rfl)) | (with_reducible refine wpList_load_row rfl 26 _ rfl gG1 rfl 26 _ (0, 0) _ G1.out Tryd.underlying26 rfl I1.out ?_) | ((with_reducible refine wpList_load_want ?hw 26 _ rfl gG1 rfl 26 _ (0, 0) _ G1.out Tryd.underlying26 rfl I1.out ?_); (case hw => rfl)))
      go_ret
      exact ⟨rfl, hb⟩
    · have P0 := Lib.hid (fun W => of_any s0 W h0)
      have Q0 := Lib.hid (fun W => ofRef_any s0 W h0)
      have hx0 : leV s0.data.toList 32 % pF < pF := Nat.mod_lt _ pF_pos
      generalize leV s0.data.toList 32 % pF = x0 at *
      have t0 : ((s0.size : Int) != 32) = false := by simp [h0]
      have I0 := Lib.hid (sizeF' x0); have Z0 := Lib.hid (zerosF_size x0); have O0 := Lib.hid (uc_one (limN 4 x0))
      clear h0
      have P1 := Lib.hid (fun W => ofBad_any s1 W h1)
      have Q1 := Lib.hid (fun W => ofRefBad_any s1 W h1)
      have hx1 : 0 < pF := pF_pos
      obtain ⟨x1, hz1⟩ : ∃ x, x = 0 := ⟨_, rfl⟩
      rw [← hz1] at P1 hx1 Q1
      clear hz1
      have t1 : ((s1.size : Int) != 32) = true := by simp; omega
      have I1 := Lib.hid (sizeF' x1); have Z1 := Lib.hid (zerosF_size x1); have O1 := Lib.hid (uc_one (limN 4 x1))
      clear h1
      obtain ⟨hz, _⟩ := zero_of_info infoF
      have HP := Lib.hid hT
      have hb := Below.refl w.heap.size w
      clear hT
      go_enter Tryd.func5, Tryd.ntmps5
      go_wp2_with fail
      refine (P0.out w).mono ?_
      rintro e W1 ⟨rfl, bk⟩
      have hb := hb.trans (bk.mono hb.size)
      have HP := Lib.hid (HP.out.step bk)
      clear bk
      have HN := Lib.hid (blk_new W1 (.cells zeros4 26))
      have bn := below_new W1 (.cells zeros4 26)
      go_wp2_with (with_reducible refine wpList_store_row rfl 26 _ _ rfl W1.heap.size (uc (limN 4 x0)) rfl rfl 26 _ HN.out I0.out Z0.out O0.out ?_)
      have qG0 := Lib.hid (setRow_heap _ W1.heap.size _ (uc (limN 4 x0)) _ _ HN.out)
      have bk := below_setRow bn (Nat.le_refl _) (uc (limN 4 x0))
      have hb := hb.trans (bk.mono hb.size)
      have HP := Lib.hid (HP.out.step bk)
      have G0 := qG0
      generalize (World.setRow (World.alloc _ _) _ _) = W2 at *
      generalize W1.heap.size = gG0 at *
      clear bk bn HN qG0
      refine (P1.out W2).mono ?_
      rintro e W3 ⟨rfl, bk⟩
      have hb := hb.trans (bk.mono hb.size)
      have HP := Lib.hid (HP.out.step bk)
      have G0 := Lib.hid (blk_below bk (blk_lt G0.out) G0.out)
      clear bk
      have HN := Lib.hid (blk_new W3 (.cells zeros4 26))
      have bn := below_new W3 (.cells zeros4 26)
      go_wp2_with (first | (with_reducible refine wpList_store_row rfl 26 _ _ rfl W3.heap.size (uc (limN 4 x1)) rfl rfl 26 _ HN.out I1.out Z1.out O1.out ?_) | (with_reducible refine wpList_load_row rfl 26 _ rfl gG0 rfl 26 _ (0, 0) _ G0.out Tryd.underlying26 rfl I0.out ?_) | ((with_reducible refine wpList_load_want ?hw 26 _ rfl gG0 rfl 26 _ (0, 0) _ G0.out Tryd.underlying26 rfl I0.out ?_); (case hw => rfl)))
      have qG1 := Lib.hid (setRow_heap _ W3.heap.size _ (uc (limN 4 x1)) _ _ HN.out)
      have bk := below_setRow bn (Nat.le_refl _) (uc (limN 4 x1))
      have hb := hb.trans (bk.mono hb.size)
      have HP := Lib.hid (HP.out.step bk)
      have G0 := Lib.hid (blk_below bk (blk_lt G0.out) G0.out)
      have G1 := qG1
      generalize (World.setRow (World.alloc _ _) _ _) = W4 at *
      generalize W3.heap.size = gG1 at *
      clear bk bn HN qG1
      refine (Q0.out W4).mono ?_
      rintro e W5 ⟨⟨vD0, rfl, qD0⟩, bk⟩
      have hb := hb.trans (bk.mono hb.size)
      have HP := Lib.hid (HP.out.step bk)
      have G0 := Lib.hid (blk_below bk (blk_lt G0.out) G0.out)
      have G1 := Lib.hid (blk_below bk (blk_lt G1.out) G1.out)
      have D0 := Lib.hid qD0
      clear bk qD0
      go_wp2_with (first | (with_reducible refine wpList_load_row rfl 26 _ rfl gG0 rfl 26 _ (0, 0) _ G0.out Tryd.underlying26 rfl I0.out ?_) | ((with_reducible refine wpList_load_want ?hw 26 _ rfl gG0 rfl 26 _ (0, 0) _ G0.out Tryd.underlying26 rfl I0.out ?_); (case hw => rfl)) | (with_reducible refine wpList_load_row rfl 26 _ rfl gG1 rfl 26 _ (0, 0) _ G1.out Tryd.underlying26 rfl I1.out ?_) | ((with_reducible refine wpList_load_want ?hw 26 _ rfl gG1 rfl 26 _ (0, 0) _ G1.out Tryd.underlying26 rfl I1.out ?_); (case hw => rfl)))
      refine (Q1.out W5).mono ?_
      rintro e W6 ⟨⟨vD1, rfl, qD1⟩, bk⟩
      have hb := hb.trans (bk.mono hb.size)
      have HP := Lib.hid (HP.out.step bk)
      have G0 := Lib.hid (blk_below bk (blk_lt G0.out) G0.out)
      have G1 := Lib.hid (blk_below bk (blk_lt G1.out) G1.out)
      have D0 := Lib.hid (D0.out.step bk)
      have D1 := Lib.hid qD1
      clear bk qD1
      go_wp2_with (first | (with_reducible refine wpList_load_row rfl 26 _ rfl gG0 rfl 26 _ (0, 0) _ G0.out Tryd.underlying26 rfl I0.out ?_) | ((with_reducible refine wpList_load_want ?hw 26 _ rfl gG0 rfl 26 _ (0, 0) _ G0.out Tryd.underlying26 rfl I0.out ?_); (case hw => rfl)) | (with_reducible refine wpList_load_row rfl 26 _ rfl gG1 rfl 26 _ (0, 0) _ G1.out Tryd.underlying26 rfl I1.out ?_) | ((with_reducible refine wpList_load_want ?hw 26 _ rfl gG1 rfl 26 _ (0, 0) _ G1.out Tryd.underlying26 rfl I1.out ?_); (case hw => rfl)))
      refine (fawake_any W6 HP.out).mono ?_
      rintro e W7 ⟨rfl, bk⟩
      have hb := hb.trans (bk.mono hb.size)
      have HP := Lib.hid (HP.out.step bk)
      have G0 := Lib.hid (blk_below bk (blk_lt G0.out) G0.out)
      have G1 := Lib.hid (blk_below bk (blk_lt G1.out) G1.out)
      have D0 := Lib.hid (D0.out.step bk)
      have D1 := Lib.hid (D1.out.step bk)
      clear bk
      go_wp2_with (first | (with_reducible refine wpList_load_row rfl 26 _ rfl gG0 rfl 26 _ (0, 0) _ G0.out Tryd.underlying26 rfl I0.out ?_) | ((with_reducible refine wpList_load_want ?hw 26 _ rfl gG0 rfl 26 _ (0, 0) _ G0.out Tryd.underlying26 rfl I0.out ?_); (case hw => rfl)) | (with_reducible refine wpList_load_row rfl 26 _ rfl gG1 rfl 26 _ (0, 0) _ G1.out Tryd.underlying26 rfl I1.out ?_) | ((with_reducible refine wpList_load_want ?hw 26 _ rfl gG1 rfl 26 _ (0, 0) _ G1.out Tryd.underlying26 rfl I1.out ?_); (case hw => rfl)))
      go_ret
      exact ⟨rfl, hb⟩
  · by_cases h1 : s1.size = 32
    · have P0 := Lib.hid (fun W => ofBad_any s0 W h0)
      have Q0 := Lib.hid (fun W => ofRefBad_any s0 W h0)
      have hx0 : 0 < pF := pF_pos
      obtain ⟨x0, hz0⟩ : ∃ x, x = 0 := ⟨_, rfl⟩
      rw [← hz0] at P0 hx0 Q0
      clear hz0
      have t0 : ((s0.size : Int) != 32) = true := by simp; omega
      have I0 := Lib.hid (sizeF' x0); have Z0 := Lib.hid (zerosF_size x0); have O0 := Lib.hid (uc_one (limN 4 x0))
      clear h0
      have P1 := Lib.hid (fun W => of_any s1 W h1)
      have Q1 := Lib.hid (fun W => ofRef_any s1 W h1)
      have hx1 : leV s1.data.toList 32 % pF < pF := Nat.mod_lt _ pF_pos
      generalize leV s1.data.toList 32 % pF = x1 at *
      have t1 : ((s1.size : Int) != 32) = false := by simp [h1]
      have I1 := Lib.hid (sizeF' x1); have Z1 := Lib.hid (zerosF_size x1); have O1 := Lib.hid (uc_one (limN 4 x1))
      clear h1
      obtain ⟨hz, _⟩ := zero_of_info infoF
      have HP := Lib.hid hT
      have hb := Below.refl w.heap.size w
      clear hT
      go_enter Tryd.func5, Tryd.ntmps5
      go_wp2_with fail
      refine (P0.out w).mono ?_
      rintro e W1 ⟨rfl, bk⟩
      have hb := hb.trans (bk.mono hb.size)
      have HP := Lib.hid (HP.out.step bk)
      clear bk
      have HN := Lib.hid (blk_new W1 (.cells zeros4 26))
      have bn := below_new W1 (.cells zeros4 26)
      go_wp2_with (with_reducible refine wpList_store_row rfl 26 _ _ rfl W1.heap.size (uc (limN 4 x0)) rfl rfl 26 _ HN.out I0.out Z0.out O0.out ?_)
      have qG0 := Lib.hid (setRow_heap _ W1.heap.size _ (uc (limN 4 x0)) _ _ HN.out)
      have bk := below_setRow bn (Nat.le_refl _) (uc (limN 4 x0))
      have hb := hb.trans (bk.mono hb.size)
      have HP := Lib.hid (HP.out.step bk)
      have G0 := qG0
      generalize (World.setRow (World.alloc _ _) _ _) = W2 at *
      generalize W1.heap.size = gG0 at *
      clear bk bn HN qG0
      refine (P1.out W2).mono ?_
      rintro e W3 ⟨rfl, bk⟩
      have hb := hb.trans (bk.mono hb.size)
      have HP := Lib.hid (HP.out.step bk)
      have G0 := Lib.hid (blk_below bk (blk_lt G0.out) G0.out)
      clear bk
      have HN := Lib.hid (blk_new W3 (.cells zeros4 26))
      have bn := below_new W3 (.cells zeros4 26)
      go_wp2_with (first | (with_reducible refine wpList_store_row rfl 26 _ _ rfl W3.heap.size (uc (limN 4 x1)) rfl rfl 26 _ HN.out I1.out Z1.out O1.out ?_) | (with_reducible refine wpList_load_row rfl 26 _ rfl gG0 rfl 26 _ (0, 0) _ G0.out Tryd.underlying26 rfl I0.out ?_) | ((with_reducible refine wpList_load_want ?hw 26 _ rfl gG0 rfl 26 _ (0, 0) _ G0.out Tryd.underlying26 rfl I0.out ?_); (case hw => rfl)))
      have qG1 := Lib.hid (setRow_heap _ W3.heap.size _ (uc (limN 4 x1)) _ _ HN.out)
      have bk := below_setRow bn (Nat.le_refl _) (uc (limN 4 x1))
      have hb := hb.trans (bk.mono hb.size)
      have HP := Lib.hid (HP.out.step bk)
      have G0 := Lib.hid (blk_below bk (blk_lt G0.out) G0.out)
      have G1 := qG1
      generalize (World.setRow (World.alloc _ _) _ _) = W4 at *
      generalize W3.heap.size = gG1 at *
      clear bk bn HN qG1
      refine (Q0.out W4).mono ?_
      rintro e W5 ⟨⟨vD0, rfl, qD0⟩, bk⟩
      have hb := hb.trans (bk.mono hb.size)
      have HP := Lib.hid (HP.out.step bk)
      have G0 := Lib.hid (blk_below bk (blk_lt G0.out) G0.out)
      have G1 := Lib.hid (blk_below bk (blk_lt G1.out) G1.out)
      have D0 := Lib.hid qD0
      clear bk qD0
      go_wp2_with (first | (with_reducible refine wpList_load_row rfl 26 _ rfl gG0 rfl 26 _ (0, 0) _ G0.out Tryd.underlying26 rfl I0.out ?_) | ((with_reducible refine wpList_load_want ?hw 26 _ rfl gG0 rfl 26 _ (0, 0) _ G0.out Tryd.underlying26 rfl I0.out ?_); (case hw => rfl)) | (with_reducible refine wpList_load_row rfl 26 _ rfl gG1 rfl 26 _ (0, 0) _ G1.out Tryd.underlying26 rfl I1.out ?_) | ((with_reducible refine wpList_load_want ?hw 26 _ rfl gG1 rfl 26 _ (0, 0) _ G1.out Tryd.underlying26 rfl I1.out ?_); (case hw => rfl)))
      refine (Q1.out W5).mono ?_
      rintro e W6 ⟨⟨vD1, rfl, qD1⟩, bk⟩
      have hb := hb.trans (bk.mono hb.size)
      have HP := Lib.hid (HP.out.step bk)
      have G0 := Lib.hid (blk_below bk (blk_lt G0.out) G0.out)
      have G1 := Lib.hid (blk_below bk (blk_lt G1.out) G1.out)
      have D0 := Lib.hid (D0.out.step bk)
      have D1 := Lib.hid qD1
      clear bk qD1
      go_wp2_with (first | (with_reducible refine wpList_load_row rfl 26 _ rfl gG0 rfl 26 _ (0, 0) _ G0.out Tryd.underlying26 rfl I0.out ?_) | ((with_reducible refine wpList_load_want ?hw 26 _ rfl gG0 rfl 26 _ (0, 0) _ G0.out Tryd.underlying26 rfl I0.out ?_); (case hw => rfl)) | (with_reducible refine wpList_load_row rfl 26 _ rfl gG1 rfl 26 _ (0, 0) _ G1.out Tryd.underlying26 rfl I1.out ?_) | ((with_reducible refine wpList_load_want ?hw 26 _ rfl gG1 rfl 26 _ (0, 0) _ G1.out Tryd.underlying26 rfl I1.out ?_); (case hw => rfl)))
      refine (fawake_any W6 HP.out).mono ?_
      rintro e W7 ⟨rfl, bk⟩
      have hb := hb.trans (bk.mono hb.size)
      have HP := Lib.hid (HP.out.step bk)
      have G0 := Lib.hid (blk_below bk (blk_lt G0.out) G0.out)
      have G1 := Lib.hid (blk_below bk (blk_lt G1.out) G1.out)
      have D0 := Lib.hid (D0.out.step bk)
      have D1 := Lib.hid (D1.out.step bk)
      clear bk
      go_wp2_with (first | (with_reducible refine wpList_load_row rfl 26 _ rfl gG0 rfl 26 _ (0, 0) _ G0.out Tryd.underlying26 rfl I0.out ?_) | ((with_reducible refine wpList_load_want ?hw 26 _ rfl gG0 rfl 26 _ (0, 0) _ G0.out Tryd.underlying26 rfl I0.out ?_); (case hw => rfl)) | (with_reducible refine wpList_load_row rfl 26 _ rfl gG1 rfl 26 _ (0, 0) _ G1.out Tryd.underlying26 rfl I1.out ?_) | ((with_reducible refine wpList_load_want ?hw 26 _ rfl gG1 rfl 26 _ (0, 0) _ G1.out Tryd.underlying26 rfl I1.out ?_); (case hw => rfl)))
      go_ret
      exact ⟨rfl, hb⟩
    · have P0 := Lib.hid (fun W => ofBad_any s0 W h0)
      have Q0 := Lib.hid (fun W => ofRefBad_any s0 W h0)
      have hx0 : 0 < pF := pF_pos
      obtain ⟨x0, hz0⟩ : ∃ x, x = 0 := ⟨_, rfl⟩
      rw [← hz0] at P0 hx0 Q0
      clear hz0
      have t0 : ((s0.size : Int) != 32) = true := by simp; omega
      have I0 := Lib.hid (sizeF' x0); have Z0 := Lib.hid (zerosF_size x0); have O0 := Lib.hid (uc_one (limN 4 x0))
      clear h0
      have P1 := Lib.hid (fun W => ofBad_any s1 W h1)
      have Q1 := Lib.hid (fun W => ofRefBad_any s1 W h1)
      have hx1 : 0 < pF := pF_pos
      obtain ⟨x1, hz1⟩ : ∃ x, x = 0 := ⟨_, rfl⟩
      rw [← hz1] at P1 hx1 Q1
      clear hz1
      have t1 : ((s1.size : Int) != 32) = true := by simp; omega
      have I1 := Lib.hid (sizeF' x1); have Z1 := Lib.hid (zerosF_size x1); have O1 := Lib.hid (uc_one (limN 4 x1))
      clear h1
      obtain ⟨hz, _⟩ := zero_of_info infoF
      have HP := Lib.hid hT
      have hb := Below.refl w.heap.size w
      clear hT
      go_enter Tryd.func5, Tryd.ntmps5
      go_wp2_with fail
      refine (P0.out w).mono ?_
      rintro e W1 ⟨rfl, bk⟩
      have hb := hb.trans (bk.mono hb.size)
      have HP := Lib.hid (HP.out.step bk)
      clear bk
      have HN := Lib.hid (blk_new W1 (.cells zeros4 26))
      have bn := below_new W1 (.cells zeros4 26)
      go_wp2_with (with_reducible refine wpList_store_row rfl 26 _ _ rfl W1.heap.size (uc (limN 4 x0)) rfl rfl 26 _ HN.out I0.out Z0.out O0.out ?_)
      have qG0 := Lib.hid (setRow_heap _ W1.heap.size _ (uc (limN 4 x0)) _ _ HN.out)
      have bk := below_setRow bn (Nat.le_refl _) (uc (limN 4 x0))
      have hb := hb.trans (bk.mono hb.size)
      have HP := Lib.hid (HP.out.step bk)
      have G0 := qG0
      generalize (World.setRow (World.alloc _ _) _ _) = W2 at *
      generalize W1.heap.size = gG0 at *
      clear bk bn HN qG0
      refine (P1.out W2).mono ?_
      rintro e W3 ⟨rfl, bk⟩
      have hb := hb.trans (bk.mono hb.size)
      have HP := Lib.hid (HP.out.step bk)
      have G0 := Lib.hid (blk_below bk (blk_lt G0.out) G0.out)
      clear bk
      have HN := Lib.hid (blk_new W3 (.cells zeros4 26))
      have bn := below_new W3 (.cells zeros4 26)
      go_wp2_with (first | (with_reducible refine wpList_store_row rfl 26 _ _ rfl W3.heap.size (uc (limN 4 x1)) rfl rfl 26 _ HN.out I1.out Z1.out O1.out ?_) | (with_reducible refine wpList_load_row rfl 26 _ rfl gG0 rfl 26 _ (0, 0) _ G0.out Tryd.underlying26 rfl I0.out ?_) | ((with_reducible refine wpList_load_want ?hw 26 _ rfl gG0 rfl 26 _ (0, 0) _ G0.out Tryd.underlying26 rfl I0.out ?_); (case hw => rfl)))
      have qG1 := Lib.hid (setRow_heap _ W3.heap.size _ (uc (limN 4 x1)) _ _ HN.out)
      have bk := below_setRow bn (Nat.le_refl _) (uc (limN 4 x1))
      have hb := hb.trans (bk.mono hb.size)
      have HP := Lib.hid (HP.out.step bk)
      have G0 := Lib.hid (blk_below bk (blk_lt G0.out) G0.out)
      have G1 := qG1
      generalize (World.setRow (World.alloc _ _) _ _) = W4 at *
      generalize W3.heap.size = gG1 at *
      clear bk bn HN qG1
      refine (Q0.out W4).mono ?_
      rintro e W5 ⟨⟨vD0, rfl, qD0⟩, bk⟩
      have hb := hb.trans (bk.mono hb.size)
      have HP := Lib.hid (HP.out.step bk)
      have G0 := Lib.hid (blk_below bk (blk_lt G0.out) G0.out)
      have G1 := Lib.hid (blk_below bk (blk_lt G1.out) G1.out)
      have D0 := Lib.hid qD0
      clear bk qD0
      go_wp2_with (first | (with_reducible refine wpList_load_row rfl 26 _ rfl gG0 rfl 26 _ (0, 0) _ G0.out Tryd.underlying26 rfl I0.out ?_) | ((with_reducible refine wpList_load_want ?hw 26 _ rfl gG0 rfl 26 _ (0, 0) _ G0.out Tryd.underlying26 rfl I0.out ?_); (case hw => rfl)) | (with_reducible refine wpList_load_row rfl 26 _ rfl gG1 rfl 26 _ (0, 0) _ G1.out Tryd.underlying26 rfl I1.out ?_) | ((with_reducible refine wpList_load_want ?hw 26 _ rfl gG1 rfl 26 _ (0, 0) _ G1.out Tryd.underlying26 rfl I1.out ?_); (case hw => rfl)))
      refine (Q1.out W5).mono ?_
      rintro e W6 ⟨⟨vD1, rfl, qD1⟩, bk⟩
      have hb := hb.trans (bk.mono hb.size)
      have HP := Lib.hid (HP.out.step bk)
      have G0 := Lib.hid (blk_below bk (blk_lt G0.out) G0.out)
      have G1 := Lib.hid (blk_below bk (blk_lt G1.out) G1.out)
      have D0 := Lib.hid (D0.out.step bk)
      have D1 := Lib.hid qD1
      clear bk qD1
      go_wp2_with (first | (with_reducible refine wpList_load_row rfl 26 _ rfl gG0 rfl 26 _ (0, 0) _ G0.out Tryd.underlying26 rfl I0.out ?_) | ((with_reducible refine wpList_load_want ?hw 26 _ rfl gG0 rfl 26 _ (0, 0) _ G0.out Tryd.underlying26 rfl I0.out ?_); (case hw => rfl)) | (with_reducible refine wpList_load_row rfl 26 _ rfl gG1 rfl 26 _ (0, 0) _ G1.out Tryd.underlying26 rfl I1.out ?_) | ((with_reducible refine wpList_load_want ?hw 26 _ rfl gG1 rfl 26 _ (0, 0) _ G1.out Tryd.underlying26 rfl I1.out ?_); (case hw => rfl)))
      refine (fawake_any W6 HP.out).mono ?_
      rintro e W7 ⟨rfl, bk⟩
      have hb := hb.trans (bk.mono hb.size)
      have HP := Lib.hid (HP.out.step bk)
      have G0 := Lib.hid (blk_below bk (blk_lt G0.out) G0.out)
      have G1 := Lib.hid (blk_below bk (blk_lt G1.out) G1.out)
      have D0 := Lib.hid (D0.out.step bk)
      have D1 := Lib.hid (D1.out.step bk)
      clear bk
      go_wp2_with (first | (with_reducible refine wpList_load_row rfl 26 _ rfl gG0 rfl 26 _ (0, 0) _ G0.out Tryd.underlying26 rfl I0.out ?_) | ((with_reducible refine wpList_load_want ?hw 26 _ rfl gG0 rfl 26 _ (0, 0) _ G0.out Tryd.underlying26 rfl I0.out ?_); (case hw => rfl)) | (with_reducible refine wpList_load_row rfl 26 _ rfl gG1 rfl 26 _ (0, 0) _ G1.out Tryd.underlying26 rfl I1.out ?_) | ((with_reducible refine wpList_load_want ?hw 26 _ rfl gG1 rfl 26 _ (0, 0) _ G1.out Tryd.underlying26 rfl I1.out ?_); (case hw => rfl)))
      go_ret
      exact ⟨rfl, hb⟩

theorem fieldMuls_lifted (os : Os) (started : os.Started) (H : Type) (enc : TypeId × Value → H) :
    ReturnsInHanded {} Tryd.checked os 5 .any (fun w args => (Rows.fieldMulsSpec.pre enc Tryd.prog Tryd.f5 [] false w args ∧ laidMetH Tryd.prog laid1 w) ∧ sizedMet enc Tryd.prog Tryd.f5 (OpenSpec.ofChange Rows.fieldMulsSpec) false w args)
      (Rows.fieldMulsSpec.post enc Tryd.prog Tryd.f5 false true false false) := by
  refine returnsInHanded_of_change_and (C := Tryd.checked) (X := fun w _ => laidMetH Tryd.prog laid1 w) (fun _ _ _ hh h => h.of_heap hh) own1 started (by kernel_rfl) Tryd.func5
    (ChangeSpec.witness_shaped (enc := enc) (C := Tryd.checked) (os := os) (X := fun w _ => laidMetH Tryd.prog laid1 w) false (World.doorLaid Tryd.prog 400 os) #[.string ⟨#[]⟩, .string ⟨#[]⟩] 8 rfl (World.shaped_of_RefB (by kernel_rfl) (by kernel_rfl)) (by kernel_rfl) (by kernel_rfl) (by kernel_rfl) (door_met1 os _)) ?_
  intro W base args ds gs before hval0 hW _ _ hL _
  have hval : ∀ (j : Nat) t v, Tryd.f5.params[j]? = some t → args[j]? = some v → Value.okWide Tryd.prog W .any base t v := hval0
  have hW' := hW
  obtain ⟨p, q, hA0, hV, rfl, hfz, hnd⟩ := hW
  have hA : DataW.TrodAll enc Tryd.prog W 0 (fun _ => true) true Tryd.f5.params.toList args.toList ds p := hA0
  rw [Tryd.params5] at hA hval
  obtain ⟨v0, v1, d0, d1, p0, p1, rfl, rfl, rfl, h0, h1⟩ := trodAll_two hA
  obtain ⟨rfl, rfl⟩ := trodVars_none hV
  obtain ⟨s0, rfl, rfl, rfl, w0⟩ := open_string Tryd.underlying9 (hval 0 9 v0 rfl rfl) h0
  obtain ⟨s1, rfl, rfl, rfl, w1⟩ := open_string Tryd.underlying9 (hval 1 9 v1 rfl rfl) h1
  have hT := of_laid1 hL
  clear hA0 hval0
  simp only [List.append_nil] at hW'
  refine (fieldMuls_any s0 s1 W w0 w1 hT).mono fun e W' ⟨he, hb⟩ => ?_
  subst he
  refine ⟨_, rfl, _, _, _, [], [], [], hW', ?_, ?_, rfl, hb.frame _, fun h => by cases h⟩
  · exact trodAll_mk1 (shut_bool Tryd.underlying4 _)
  · exact trodAll_mk2 (shut_string Tryd.underlying9 w0) (shut_string Tryd.underlying9 w1)

theorem fieldMuls_holds : Rows.FieldMulsSaid :=
  OpenClaim.holds_of_wide 5 Tryd.f5 rfl rfl rfl rfl rfl rfl rfl ⟨rfl, rfl, rfl, rfl, rfl⟩ rfl rfl rfl rfl rfl (by kernel_rfl) Tryd.func5 (by kernel_rfl)
    (of_decide_eq_true (by kernel_rfl)) (by unfold Func.isWrapper; first | (rw [if_pos (by decide +kernel)]; kernel_rfl) | (rw [if_neg (by decide +kernel)]; exact ⟨rfl, rfl⟩))
    (fun os started H enc _ => fieldMuls_lifted os started H enc)

theorem fieldMuls_card : Rows.FieldMulsCardSaid :=
  Claim7.holds_tied_plain_at .later [] [.data] true (true, "dba20598ad203cc8d4eae559620b14cd2e22259d0cd38305137873b869c887c5") false
    fieldMuls_holds (fun _ h => by cases h) (by kernel_rfl) (fun _ h => by cases h) fieldMuls_row_tie rfl ⟨rfl, rfl⟩ (by kernel_rfl) rfl
    (fun f fn hf hfn => by
      obtain rfl : f = 5 := Option.some.inj ((show Tryd.prog.funcNamed "cresset/cressetlaw08.FieldMuls" = some 5 by kernel_rfl).symm.trans hf) |>.symm
      obtain rfl : fn = Tryd.f5 := (Option.some.inj (Tryd.func5.symm.trans hfn)).symm
      exact ⟨by kernel_rfl, fun j t ht => by
        rw [Tryd.params5] at ht
        have hm : t ∈ [9, 9] := by simpa using Array.mem_of_getElem? ht
        have hall : ([9, 9].all fun u => !Tryd.prog.wantsStandIn u) = true := by kernel_rfl
        exact (show Tryd.prog.wantsStandIn t = false by simpa using List.all_eq_true.1 hall t hm)⟩)
    (by kernel_rfl)
#print axioms fieldMuls_card
end Go.Proofs.YtfidcdkoggfjaaaDoor
