/- The chapter's examples. -/
import Derived.Test.YtfidcdkoggfjaaaDoorFldOf
import Derived.Test.YtfidcdkoggfjaaaDoorFldLaid
import Derived.Test.YtfidcdkoggfjaaaDoorPair
namespace Go.Proofs.YtfidcdkoggfjaaaDoor
open Go.RowKit Go.Sort
set_option maxRecDepth 100000
set_option linter.unusedSimpArgs false
set_option linter.unusedVariables false

theorem wf64 (n : Int) (h : (Lit.int .i64 n).wf = true) : -9223372036854775808 ≤ n ∧ n < 9223372036854775808 := by
  simp [Lit.wf, IntKind.min, IntKind.max, IntKind.bits, IntKind.signed] at h
  omega
theorem same_text (s : ByteArray) : (s.toList == s.toList) = true := by simp
theorem one_text : (⟨(leF 1 32).toArray⟩ : ByteArray).size = 32 ∧ (⟨(leF 1 32).toArray⟩ : ByteArray).data.toList.getD 0 0 = 1 := by decide +kernel
set_option maxHeartbeats 4000000 in
theorem fawake_any (w : World) (hT : PrmQ w) :
    Calls Tryd.prog 21 #[] w fun e w' => e = .returned (.bool true) ∧ Below w.heap.size w w' := by
  obtain ⟨hz, hi⟩ := zero_of_info infoF
  have HP := Lib.hid hT
  have hb := Below.refl w.heap.size w
  have C4 := Lib.hid (fun W => smallPos_any 4 W (by decide))
  have C2 := Lib.hid (fun W => smallPos_any 2 W (by decide))
  have C1 := Lib.hid (fun W => smallPos_any 1 W (by decide))
  have CN := Lib.hid (fun W hW => smallNeg_any (-1) W (by decide) (by decide) hW)
  have R4 := Lib.hid (fun W hW => rootF_any 4 W (by decide) hW)
  have R2 := Lib.hid (fun W hW => rootF_any 2 W (by decide) hW)
  rw [example_root4] at R4
  rw [example_root2] at R2
  have R4 : Hid (∀ W, PrmQ W → Calls Tryd.prog 30 #[.agg (uc (limN 4 4))] W fun e w' => e = .returned (.tuple #[.agg (uc (limN 4 2)), .bool true]) ∧ Below W.heap.size W w') := R4
  have R2 : Hid (∀ W, PrmQ W → Calls Tryd.prog 30 #[.agg (uc (limN 4 2))] W fun e w' => e = .returned (.tuple #[.agg (uc (limN 4 0)), .bool false]) ∧ Below W.heap.size W w') := R2
  have B1 := Lib.hid (fun W => bytesF_any 1 W)
  have B2 := Lib.hid (fun W => bytesF_any 2 W)
  have A1 := Lib.hid (fun W => addF_any (smallF (-1)) 2 W (smallF_lt _) (by decide))
  rw [show addF (smallF (-1)) 2 = 1 by decide] at A1
  have V1 := Lib.hid (fun W => invF_any 2 W (by decide))
  have M1 := Lib.hid (fun W => mulF_any (invF 2) 2 W (powF_lt _ _) (by decide))
  rw [example_inv] at M1
  obtain ⟨hs32, hs0⟩ := one_text
  have I2 := Lib.hid (sizeF' 2); have Z2 := Lib.hid (zerosF_size 2); have O2 := Lib.hid (uc_one (limN 4 2))
  have I0 := Lib.hid (sizeF' 0); have Z0 := Lib.hid (zerosF_size 0); have O0 := Lib.hid (uc_one (limN 4 0))
  generalize limN 4 4 = l4 at *
  generalize limN 4 2 = l2 at *
  generalize limN 4 1 = l1 at *
  generalize limN 4 0 = l0 at *
  generalize limN 4 (smallF (-1)) = ln at *
  generalize limN 4 (invF 2) = lv at *
  generalize (⟨(leF 1 32).toArray⟩ : ByteArray) = s1 at *
  generalize (⟨(leF 2 32).toArray⟩ : ByteArray) = s2 at *
  have e1 := same_text s1; have e2 := same_text s2
  have hd32 : ((s1.size : Int) == 32) = true := by rw [hs32]; rfl
  have hpos : (0 : Int) < (s1.size : Int) := by omega
  have hp2 : 0 < s1.size := by omega
  have h01 : ∀ h, s1[0]'h = 1 := fun h => by
    rw [List.getD_eq_getElem?_getD, Array.getElem?_toList, Array.getElem?_eq_getElem h] at hs0
    show s1.data[0] = 1
    simpa using hs0
  have h02 : ∀ h, ((s1[0]'h).toNat : Int) = 1 := fun h => by rw [h01 h]; rfl
  clear hs0 hs32 hi hT
  go_enter Tryd.func21, Tryd.ntmps21
  go_wp2_with fail
  refine (C4.out w).mono ?_
  rintro e W1 ⟨rfl, bk⟩
  have hb := hb.trans (bk.mono hb.size)
  have HP := Lib.hid (HP.out.step bk)
  clear bk
  go_wp2_with fail
  refine (R4.out W1 HP.out).mono ?_
  rintro e W2 ⟨rfl, bk⟩
  have hb := hb.trans (bk.mono hb.size)
  have HP := Lib.hid (HP.out.step bk)
  clear bk
  have HN := Lib.hid (blk_new W2 (.cells zeros4 26))
  have bn := below_new W2 (.cells zeros4 26)
  go_wp2_with (with_reducible refine wpList_store_row rfl 26 _ _ rfl W2.heap.size (uc l2) rfl rfl 26 _ HN.out I2.out Z2.out O2.out ?_)
  have G1 := Lib.hid (setRow_heap _ W2.heap.size _ (uc l2) _ _ HN.out)
  have bk := below_setRow bn (Nat.le_refl _) (uc l2)
  have hb := hb.trans (bk.mono hb.size)
  have HP := Lib.hid (HP.out.step bk)
  generalize (World.setRow (World.alloc _ _) _ _) = W3 at *
  generalize W2.heap.size = gG1 at *
  clear bk bn HN
  refine (C2.out W3).mono ?_
  rintro e W4 ⟨rfl, bk⟩
  have hb := hb.trans (bk.mono hb.size)
  have HP := Lib.hid (HP.out.step bk)
  have G1 := Lib.hid (blk_below bk (blk_lt G1.out) G1.out)
  clear bk
  go_wp2_with fail
  refine (R2.out W4 HP.out).mono ?_
  rintro e W5 ⟨rfl, bk⟩
  have hb := hb.trans (bk.mono hb.size)
  have HP := Lib.hid (HP.out.step bk)
  have G1 := Lib.hid (blk_below bk (blk_lt G1.out) G1.out)
  clear bk
  have HN := Lib.hid (blk_new W5 (.cells zeros4 26))
  have bn := below_new W5 (.cells zeros4 26)
  go_wp2_with (with_reducible refine wpList_store_row rfl 26 _ _ rfl W5.heap.size (uc l0) rfl rfl 26 _ HN.out I0.out Z0.out O0.out ?_)
  have G2 := Lib.hid (setRow_heap _ W5.heap.size _ (uc l0) _ _ HN.out)
  have bk := below_setRow bn (Nat.le_refl _) (uc l0)
  have hb := hb.trans (bk.mono hb.size)
  have HP := Lib.hid (HP.out.step bk)
  have G1 := Lib.hid (blk_below bk (blk_lt G1.out) G1.out)
  generalize (World.setRow (World.alloc _ _) _ _) = W6 at *
  generalize W5.heap.size = gG2 at *
  clear bk bn HN
  clear G2
  refine (C1.out W6).mono ?_
  rintro e W7 ⟨rfl, bk⟩
  have hb := hb.trans (bk.mono hb.size)
  have HP := Lib.hid (HP.out.step bk)
  have G1 := Lib.hid (blk_below bk (blk_lt G1.out) G1.out)
  clear bk
  go_wp2_with fail
  refine (B1.out W7).mono ?_
  rintro e W8 ⟨rfl, bk⟩
  have hb := hb.trans (bk.mono hb.size)
  have HP := Lib.hid (HP.out.step bk)
  have G1 := Lib.hid (blk_below bk (blk_lt G1.out) G1.out)
  clear bk
  go_wp2_with fail
  refine (CN.out W8 HP.out).mono ?_
  rintro e W9 ⟨rfl, bk⟩
  have hb := hb.trans (bk.mono hb.size)
  have HP := Lib.hid (HP.out.step bk)
  have G1 := Lib.hid (blk_below bk (blk_lt G1.out) G1.out)
  clear bk
  go_wp2_with fail
  refine (C2.out W9).mono ?_
  rintro e W10 ⟨rfl, bk⟩
  have hb := hb.trans (bk.mono hb.size)
  have HP := Lib.hid (HP.out.step bk)
  have G1 := Lib.hid (blk_below bk (blk_lt G1.out) G1.out)
  clear bk
  go_wp2_with fail
  refine (A1.out W10).mono ?_
  rintro e W11 ⟨rfl, bk⟩
  have hb := hb.trans (bk.mono hb.size)
  have HP := Lib.hid (HP.out.step bk)
  have G1 := Lib.hid (blk_below bk (blk_lt G1.out) G1.out)
  clear bk
  go_wp2_with fail
  refine (B1.out W11).mono ?_
  rintro e W12 ⟨rfl, bk⟩
  have hb := hb.trans (bk.mono hb.size)
  have HP := Lib.hid (HP.out.step bk)
  have G1 := Lib.hid (blk_below bk (blk_lt G1.out) G1.out)
  clear bk
  go_wp2_with fail
  refine (C2.out W12).mono ?_
  rintro e W13 ⟨rfl, bk⟩
  have hb := hb.trans (bk.mono hb.size)
  have HP := Lib.hid (HP.out.step bk)
  have G1 := Lib.hid (blk_below bk (blk_lt G1.out) G1.out)
  clear bk
  go_wp2_with fail
  refine (V1.out W13).mono ?_
  rintro e W14 ⟨rfl, bk⟩
  have hb := hb.trans (bk.mono hb.size)
  have HP := Lib.hid (HP.out.step bk)
  have G1 := Lib.hid (blk_below bk (blk_lt G1.out) G1.out)
  clear bk
  go_wp2_with fail
  refine (C2.out W14).mono ?_
  rintro e W15 ⟨rfl, bk⟩
  have hb := hb.trans (bk.mono hb.size)
  have HP := Lib.hid (HP.out.step bk)
  have G1 := Lib.hid (blk_below bk (blk_lt G1.out) G1.out)
  clear bk
  go_wp2_with fail
  refine (M1.out W15).mono ?_
  rintro e W16 ⟨rfl, bk⟩
  have hb := hb.trans (bk.mono hb.size)
  have HP := Lib.hid (HP.out.step bk)
  have G1 := Lib.hid (blk_below bk (blk_lt G1.out) G1.out)
  clear bk
  go_wp2_with fail
  refine (B1.out W16).mono ?_
  rintro e W17 ⟨rfl, bk⟩
  have hb := hb.trans (bk.mono hb.size)
  have HP := Lib.hid (HP.out.step bk)
  have G1 := Lib.hid (blk_below bk (blk_lt G1.out) G1.out)
  clear bk
  go_wp2_with ((with_reducible refine wpList_load_want ?hw 26 _ rfl gG1 rfl 26 _ (0, 0) _ G1.out Tryd.underlying26 rfl I2.out ?_); (case hw => rfl))
  refine (B2.out W17).mono ?_
  rintro e W18 ⟨rfl, bk⟩
  have hb := hb.trans (bk.mono hb.size)
  have HP := Lib.hid (HP.out.step bk)
  have G1 := Lib.hid (blk_below bk (blk_lt G1.out) G1.out)
  clear bk
  go_wp2_with fail
  refine (C2.out W18).mono ?_
  rintro e W19 ⟨rfl, bk⟩
  have hb := hb.trans (bk.mono hb.size)
  have HP := Lib.hid (HP.out.step bk)
  have G1 := Lib.hid (blk_below bk (blk_lt G1.out) G1.out)
  clear bk
  go_wp2_with fail
  refine (B2.out W19).mono ?_
  rintro e W20 ⟨rfl, bk⟩
  have hb := hb.trans (bk.mono hb.size)
  have HP := Lib.hid (HP.out.step bk)
  have G1 := Lib.hid (blk_below bk (blk_lt G1.out) G1.out)
  clear bk
  go_wp2_with fail
  go_ret
  exact ⟨rfl, hb⟩
end Go.Proofs.YtfidcdkoggfjaaaDoor
