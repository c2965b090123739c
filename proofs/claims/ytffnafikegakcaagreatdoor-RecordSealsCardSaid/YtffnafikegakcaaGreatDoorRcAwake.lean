/- The chapter's examples. -/
import Derived.Test.YtffnafikegakcaaGreatDoorRcNext
namespace Go.Proofs.YtffnafikegakcaaGreatDoor
open Go.RowKit Go.Sort
set_option maxRecDepth 100000
set_option linter.unusedSimpArgs false
set_option linter.unusedVariables false

theorem aw_frame : frO 22 ⟨#[97, 98]⟩ = (⟨#[22, 3, 3, 0, 2, 97, 98]⟩, 0) := by kernel_rfl
theorem aw_feed1 : feedE ⟨[], 0⟩ ⟨#[22, 3]⟩ = 0 ∧ feedS ⟨[], 0⟩ ⟨#[22, 3]⟩ = ⟨[22, 3], 0⟩ := ⟨by kernel_rfl, by kernel_rfl⟩
theorem aw_next1 : nextA ⟨[22, 3], 0⟩ = .returned (.tuple #[.int .i64 0, .string emB, .int .i64 33]) ∧ nextS ⟨[22, 3], 0⟩ = ⟨[22, 3], 0⟩ := ⟨by kernel_rfl, by kernel_rfl⟩
theorem aw_feed2 : feedE ⟨[22, 3], 0⟩ ⟨#[4]⟩ = 0 ∧ feedS ⟨[22, 3], 0⟩ ⟨#[4]⟩ = ⟨[22, 3, 4], 0⟩ := ⟨by kernel_rfl, by kernel_rfl⟩
theorem aw_next2 : nextA ⟨[22, 3, 4], 0⟩ = .returned (.tuple #[.int .i64 0, .string emB, .int .i64 11]) := by kernel_rfl

set_option maxHeartbeats 2000000 in
theorem rcawake_any (w : World) :
    Calls Tryz.prog 10 #[] w fun e w' => e = .returned (.bool true) ∧ Below w.heap.size w w' := by
  have CF := Lib.hid (frame_any 22 ⟨#[97, 98]⟩ w (by decide))
  rw [aw_frame] at CF
  go_enter Tryz.func10, Tryz.ntmps10
  go_wp2_with fail
  refine CF.out.mono ?_
  rintro e W1 ⟨rfl, hb1⟩
  clear CF
  go_wp2_with fail
  refine (newReader_any W1).mono ?_
  rintro e W2 ⟨rfl, hr2, hb2, hlt⟩
  obtain ⟨b, hb⟩ : ∃ b, b = W1.heap.size := ⟨_, rfl⟩
  obtain ⟨base, hba⟩ : ∃ base, base = W2.heap.size := ⟨_, rfl⟩
  have HR2 := Lib.hid (hr2 base)
  rw [← hb] at HR2 hlt ⊢
  rw [← hba] at hlt
  have HB := Lib.hid (show Below w.heap.size w W2 from hb1.trans (hb2.mono hb1.size))
  have HW := Lib.hid (show w.heap.size ≤ b by rw [hb]; exact hb1.size)
  have HBA := Lib.hid hba
  clear hr2 hb hba hb1 hb2
  go_wp2_with fail
  refine (feed_any b base _ _ W2 HR2.out hlt (by rw [HBA.out]; exact Nat.le_refl _) (by decide)).mono ?_
  rw [aw_feed1.1, aw_feed1.2]
  rintro e W3 ⟨rfl, hr3, hx3⟩
  have HR3 := Lib.hid hr3; have HX3 := Lib.hid hx3
  clear hr3 hx3 HR2
  go_wp2_with fail
  refine (rcNext_any b base _ W3 HR3.out hlt (by rw [HBA.out]; exact HX3.out.size) (by decide)).mono ?_
  rw [aw_next1.1, aw_next1.2]
  rintro e W4 ⟨rfl, hr4, hx4⟩
  have HR4 := Lib.hid hr4; have HX4 := Lib.hid (HX3.out.trans hx4)
  clear hr4 hx4 HR3 HX3
  go_wp2_with fail
  refine (feed_any b base _ _ W4 HR4.out hlt (by rw [HBA.out]; exact HX4.out.size) (by decide)).mono ?_
  rw [aw_feed2.1, aw_feed2.2]
  rintro e W5 ⟨rfl, hr5, hx5⟩
  have HR5 := Lib.hid hr5; have HX5 := Lib.hid (HX4.out.trans hx5)
  clear hr5 hx5 HR4 HX4
  go_wp2_with fail
  refine (rcNext_any b base _ W5 HR5.out hlt (by rw [HBA.out]; exact HX5.out.size) (by decide)).mono ?_
  rw [aw_next2]
  rintro e W6 ⟨rfl, hr6, hx6⟩
  have HX6 := Lib.hid (HX5.out.trans hx6)
  clear hr6 hx6 HR5 HX5
  go_wp2_with fail
  go_ret
  have h6 := HX6.out.below (B := w.heap.size) HW.out (Nat.le_trans HW.out (Nat.le_of_lt hlt))
  exact ⟨rfl, HB.out.trans h6⟩
end Go.Proofs.YtffnafikegakcaaGreatDoor
