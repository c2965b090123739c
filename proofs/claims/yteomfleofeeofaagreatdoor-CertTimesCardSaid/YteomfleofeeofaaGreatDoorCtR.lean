/- Times: the reference's isTime, leap, month, digits, Time; Times: the reference's Time; Names, and which time a text says: the reference's isName, at; Parts of certificates: the reference's thing, algorithm, named, whole, in; The inner part of a certificate, and whether its fields are right: the reference's right, inner; What bytes say, as far as it can be told: the reference's parts; The reference's Make and Print, over whatever the reference's signatures and digests are; The reference's Read, over whatever the reference's signatures are; The reference's Allow, over whatever the reference's signatures and digests are. -/
import Derived.Test.YteomfleofeeofaaGreatDoorCtA
import Derived.Test.YteomfleofeeofaaGreatDoorDerS
namespace Go.Proofs.YteomfleofeeofaaGreatDoor
section
open Go.RowKit Go.Sort
set_option maxRecDepth 100000
set_option linter.unusedSimpArgs false
set_option linter.unusedVariables false

theorem risTime_any (n : Int) (w : World) : Calls Tryz.prog 25 #[.int .i64 n] w fun e w' => e = .returned (.bool (isTm n)) ∧ Below w.heap.size w w' := by
  have hb := Below.refl w.heap.size w
  by_cases h0 : 0 ≤ n
  · have d0 : decide (0 ≤ n) = true := decide_eq_true h0
    by_cases h1 : n ≤ 253402300799
    · have d1 : decide (n ≤ 253402300799) = true := decide_eq_true h1
      rw [isTm, d0, d1]
      go_enter Tryz.func25, Tryz.ntmps25
      go_wp2_with fail
      go_ret
      exact ⟨rfl, hb⟩
    · have d1 : decide (n ≤ 253402300799) = false := decide_eq_false h1
      rw [isTm, d0, d1]
      go_enter Tryz.func25, Tryz.ntmps25
      go_wp2_with fail
      go_ret
      exact ⟨rfl, hb⟩
  · have d0 : decide (0 ≤ n) = false := decide_eq_false h0
    rw [isTm, d0, Bool.false_and]
    go_enter Tryz.func25, Tryz.ntmps25
    go_wp2_with fail
    go_ret
    exact ⟨rfl, hb⟩
theorem rleap_any (y : Nat) (w : World) (hy : y ≤ 100000) : Calls Tryz.prog 26 #[.int .i64 (y : Int)] w fun e w' => e = .returned (.bool (leapN y)) ∧ Below w.heap.size w w' := by
  have hb := Below.refl w.heap.size w
  by_cases h4 : y % 4 = 0
  · have d4 : ((y : Int) % 4 == 0) = true := by simp; omega
    by_cases h1 : y % 100 = 0
    · have d1 : ((y : Int) % 100 != 0) = false := by simp; omega
      by_cases h2 : y % 400 = 0
      · have d2 : ((y : Int) % 400 == 0) = true := by simp; omega
        have HL : Hid (leapN y = true) := Lib.hid ((leapN_iff y).2 (by omega))
        clear h4 h1 h2
        go_enter Tryz.func26, Tryz.ntmps26
        go_wp2_with fail
        go_ret
        exact ⟨by rw [HL.out]; rfl, hb⟩
      · have d2 : ((y : Int) % 400 == 0) = false := by simp; omega
        have HL : Hid (leapN y = false) := Lib.hid (by rw [← Bool.not_eq_true, leapN_iff]; omega)
        clear h4 h1 h2
        go_enter Tryz.func26, Tryz.ntmps26
        go_wp2_with fail
        go_ret
        exact ⟨by rw [HL.out]; rfl, hb⟩
    · have d1 : ((y : Int) % 100 != 0) = true := by simp; omega
      have HL : Hid (leapN y = true) := Lib.hid ((leapN_iff y).2 (by omega))
      clear h4 h1
      go_enter Tryz.func26, Tryz.ntmps26
      go_wp2_with fail
      go_ret
      exact ⟨by rw [HL.out]; rfl, hb⟩
  · have d4 : ((y : Int) % 4 == 0) = false := by simp; omega
    by_cases h2 : y % 400 = 0
    · exact absurd h2 (by omega)
    · have d2 : ((y : Int) % 400 == 0) = false := by simp; omega
      have HL : Hid (leapN y = false) := Lib.hid (by rw [← Bool.not_eq_true, leapN_iff]; omega)
      clear h4 h2
      go_enter Tryz.func26, Tryz.ntmps26
      go_wp2_with fail
      go_ret
      exact ⟨by rw [HL.out]; rfl, hb⟩
theorem rmonth0_any (y : Nat) (w : World) (hy : y ≤ 100000) : Calls Tryz.prog 27 #[.int .i64 (y : Int), .int .i64 1] w fun e w' => e = .returned (.int .i64 ((mlen (leapN y) 0 : Nat) : Int)) ∧ Below w.heap.size w w' := by
  have hb := Below.refl w.heap.size w
  have c0 : (w.alloc (.cells #[.int .i64 31, .int .i64 28, .int .i64 31, .int .i64 30, .int .i64 31, .int .i64 30, .int .i64 31, .int .i64 31, .int .i64 30, .int .i64 31, .int .i64 30, .int .i64 31] 3)).cell? ⟨w.heap.size, 0, none⟩ = some (.int .i64 31) := by rw [cell_of_row _ w.heap.size 0 _ 3 (0, 0) (blk_new w _)]; rfl
  replace hb := hb.trans ((below_new w (.cells #[.int .i64 31, .int .i64 28, .int .i64 31, .int .i64 30, .int .i64 31, .int .i64 30, .int .i64 31, .int .i64 31, .int .i64 30, .int .i64 31, .int .i64 30, .int .i64 31] 3)).mono hb.size)
  have HM : Hid (mlen (leapN y) 0 = 31) := Lib.hid (by rw [mlen, if_neg (by omega)]; rfl)
  go_enter Tryz.func27, Tryz.ntmps27
  go_wp2_with fail
  go_ret
  exact ⟨by rw [HM.out]; rfl, hb⟩
theorem rmonth1_any (y : Nat) (w : World) (hy : y ≤ 100000) : Calls Tryz.prog 27 #[.int .i64 (y : Int), .int .i64 2] w fun e w' => e = .returned (.int .i64 ((mlen (leapN y) 1 : Nat) : Int)) ∧ Below w.heap.size w w' := by
  have hb := Below.refl w.heap.size w
  have CL := Lib.hid (fun W => rleap_any y W hy)
  cases hl : leapN y with
  | true =>
    rw [hl] at CL
    clear hl
    go_enter Tryz.func27, Tryz.ntmps27
    go_wp2_with fail
    refine (CL.out w).mono ?_
    rintro e W1 ⟨rfl, bk⟩
    replace hb := hb.trans (bk.mono hb.size)
    clear bk
    go_wp2_with fail
    go_ret
    exact ⟨rfl, hb⟩
  | false =>
    rw [hl] at CL
    clear hl
    go_enter Tryz.func27, Tryz.ntmps27
    go_wp2_with fail
    refine (CL.out w).mono ?_
    rintro e W1 ⟨rfl, bk⟩
    replace hb := hb.trans (bk.mono hb.size)
    clear bk
    have c0 : (W1.alloc (.cells #[.int .i64 31, .int .i64 28, .int .i64 31, .int .i64 30, .int .i64 31, .int .i64 30, .int .i64 31, .int .i64 31, .int .i64 30, .int .i64 31, .int .i64 30, .int .i64 31] 3)).cell? ⟨W1.heap.size, 1, none⟩ = some (.int .i64 28) := by rw [cell_of_row _ W1.heap.size 1 _ 3 (0, 0) (blk_new W1 _)]; rfl
    replace hb := hb.trans ((below_new W1 (.cells #[.int .i64 31, .int .i64 28, .int .i64 31, .int .i64 30, .int .i64 31, .int .i64 30, .int .i64 31, .int .i64 31, .int .i64 30, .int .i64 31, .int .i64 30, .int .i64 31] 3)).mono hb.size)
    go_wp2_with fail
    go_ret
    exact ⟨rfl, hb⟩
theorem rmonth2_any (y : Nat) (w : World) (hy : y ≤ 100000) : Calls Tryz.prog 27 #[.int .i64 (y : Int), .int .i64 3] w fun e w' => e = .returned (.int .i64 ((mlen (leapN y) 2 : Nat) : Int)) ∧ Below w.heap.size w w' := by
  have hb := Below.refl w.heap.size w
  have c0 : (w.alloc (.cells #[.int .i64 31, .int .i64 28, .int .i64 31, .int .i64 30, .int .i64 31, .int .i64 30, .int .i64 31, .int .i64 31, .int .i64 30, .int .i64 31, .int .i64 30, .int .i64 31] 3)).cell? ⟨w.heap.size, 2, none⟩ = some (.int .i64 31) := by rw [cell_of_row _ w.heap.size 2 _ 3 (0, 0) (blk_new w _)]; rfl
  replace hb := hb.trans ((below_new w (.cells #[.int .i64 31, .int .i64 28, .int .i64 31, .int .i64 30, .int .i64 31, .int .i64 30, .int .i64 31, .int .i64 31, .int .i64 30, .int .i64 31, .int .i64 30, .int .i64 31] 3)).mono hb.size)
  have HM : Hid (mlen (leapN y) 2 = 31) := Lib.hid (by rw [mlen, if_neg (by omega)]; rfl)
  go_enter Tryz.func27, Tryz.ntmps27
  go_wp2_with fail
  go_ret
  exact ⟨by rw [HM.out]; rfl, hb⟩
theorem rmonth3_any (y : Nat) (w : World) (hy : y ≤ 100000) : Calls Tryz.prog 27 #[.int .i64 (y : Int), .int .i64 4] w fun e w' => e = .returned (.int .i64 ((mlen (leapN y) 3 : Nat) : Int)) ∧ Below w.heap.size w w' := by
  have hb := Below.refl w.heap.size w
  have c0 : (w.alloc (.cells #[.int .i64 31, .int .i64 28, .int .i64 31, .int .i64 30, .int .i64 31, .int .i64 30, .int .i64 31, .int .i64 31, .int .i64 30, .int .i64 31, .int .i64 30, .int .i64 31] 3)).cell? ⟨w.heap.size, 3, none⟩ = some (.int .i64 30) := by rw [cell_of_row _ w.heap.size 3 _ 3 (0, 0) (blk_new w _)]; rfl
  replace hb := hb.trans ((below_new w (.cells #[.int .i64 31, .int .i64 28, .int .i64 31, .int .i64 30, .int .i64 31, .int .i64 30, .int .i64 31, .int .i64 31, .int .i64 30, .int .i64 31, .int .i64 30, .int .i64 31] 3)).mono hb.size)
  have HM : Hid (mlen (leapN y) 3 = 30) := Lib.hid (by rw [mlen, if_neg (by omega)]; rfl)
  go_enter Tryz.func27, Tryz.ntmps27
  go_wp2_with fail
  go_ret
  exact ⟨by rw [HM.out]; rfl, hb⟩
theorem rmonth4_any (y : Nat) (w : World) (hy : y ≤ 100000) : Calls Tryz.prog 27 #[.int .i64 (y : Int), .int .i64 5] w fun e w' => e = .returned (.int .i64 ((mlen (leapN y) 4 : Nat) : Int)) ∧ Below w.heap.size w w' := by
  have hb := Below.refl w.heap.size w
  have c0 : (w.alloc (.cells #[.int .i64 31, .int .i64 28, .int .i64 31, .int .i64 30, .int .i64 31, .int .i64 30, .int .i64 31, .int .i64 31, .int .i64 30, .int .i64 31, .int .i64 30, .int .i64 31] 3)).cell? ⟨w.heap.size, 4, none⟩ = some (.int .i64 31) := by rw [cell_of_row _ w.heap.size 4 _ 3 (0, 0) (blk_new w _)]; rfl
  replace hb := hb.trans ((below_new w (.cells #[.int .i64 31, .int .i64 28, .int .i64 31, .int .i64 30, .int .i64 31, .int .i64 30, .int .i64 31, .int .i64 31, .int .i64 30, .int .i64 31, .int .i64 30, .int .i64 31] 3)).mono hb.size)
  have HM : Hid (mlen (leapN y) 4 = 31) := Lib.hid (by rw [mlen, if_neg (by omega)]; rfl)
  go_enter Tryz.func27, Tryz.ntmps27
  go_wp2_with fail
  go_ret
  exact ⟨by rw [HM.out]; rfl, hb⟩
theorem rmonth5_any (y : Nat) (w : World) (hy : y ≤ 100000) : Calls Tryz.prog 27 #[.int .i64 (y : Int), .int .i64 6] w fun e w' => e = .returned (.int .i64 ((mlen (leapN y) 5 : Nat) : Int)) ∧ Below w.heap.size w w' := by
  have hb := Below.refl w.heap.size w
  have c0 : (w.alloc (.cells #[.int .i64 31, .int .i64 28, .int .i64 31, .int .i64 30, .int .i64 31, .int .i64 30, .int .i64 31, .int .i64 31, .int .i64 30, .int .i64 31, .int .i64 30, .int .i64 31] 3)).cell? ⟨w.heap.size, 5, none⟩ = some (.int .i64 30) := by rw [cell_of_row _ w.heap.size 5 _ 3 (0, 0) (blk_new w _)]; rfl
  replace hb := hb.trans ((below_new w (.cells #[.int .i64 31, .int .i64 28, .int .i64 31, .int .i64 30, .int .i64 31, .int .i64 30, .int .i64 31, .int .i64 31, .int .i64 30, .int .i64 31, .int .i64 30, .int .i64 31] 3)).mono hb.size)
  have HM : Hid (mlen (leapN y) 5 = 30) := Lib.hid (by rw [mlen, if_neg (by omega)]; rfl)
  go_enter Tryz.func27, Tryz.ntmps27
  go_wp2_with fail
  go_ret
  exact ⟨by rw [HM.out]; rfl, hb⟩
theorem rmonth6_any (y : Nat) (w : World) (hy : y ≤ 100000) : Calls Tryz.prog 27 #[.int .i64 (y : Int), .int .i64 7] w fun e w' => e = .returned (.int .i64 ((mlen (leapN y) 6 : Nat) : Int)) ∧ Below w.heap.size w w' := by
  have hb := Below.refl w.heap.size w
  have c0 : (w.alloc (.cells #[.int .i64 31, .int .i64 28, .int .i64 31, .int .i64 30, .int .i64 31, .int .i64 30, .int .i64 31, .int .i64 31, .int .i64 30, .int .i64 31, .int .i64 30, .int .i64 31] 3)).cell? ⟨w.heap.size, 6, none⟩ = some (.int .i64 31) := by rw [cell_of_row _ w.heap.size 6 _ 3 (0, 0) (blk_new w _)]; rfl
  replace hb := hb.trans ((below_new w (.cells #[.int .i64 31, .int .i64 28, .int .i64 31, .int .i64 30, .int .i64 31, .int .i64 30, .int .i64 31, .int .i64 31, .int .i64 30, .int .i64 31, .int .i64 30, .int .i64 31] 3)).mono hb.size)
  have HM : Hid (mlen (leapN y) 6 = 31) := Lib.hid (by rw [mlen, if_neg (by omega)]; rfl)
  go_enter Tryz.func27, Tryz.ntmps27
  go_wp2_with fail
  go_ret
  exact ⟨by rw [HM.out]; rfl, hb⟩
theorem rmonth7_any (y : Nat) (w : World) (hy : y ≤ 100000) : Calls Tryz.prog 27 #[.int .i64 (y : Int), .int .i64 8] w fun e w' => e = .returned (.int .i64 ((mlen (leapN y) 7 : Nat) : Int)) ∧ Below w.heap.size w w' := by
  have hb := Below.refl w.heap.size w
  have c0 : (w.alloc (.cells #[.int .i64 31, .int .i64 28, .int .i64 31, .int .i64 30, .int .i64 31, .int .i64 30, .int .i64 31, .int .i64 31, .int .i64 30, .int .i64 31, .int .i64 30, .int .i64 31] 3)).cell? ⟨w.heap.size, 7, none⟩ = some (.int .i64 31) := by rw [cell_of_row _ w.heap.size 7 _ 3 (0, 0) (blk_new w _)]; rfl
  replace hb := hb.trans ((below_new w (.cells #[.int .i64 31, .int .i64 28, .int .i64 31, .int .i64 30, .int .i64 31, .int .i64 30, .int .i64 31, .int .i64 31, .int .i64 30, .int .i64 31, .int .i64 30, .int .i64 31] 3)).mono hb.size)
  have HM : Hid (mlen (leapN y) 7 = 31) := Lib.hid (by rw [mlen, if_neg (by omega)]; rfl)
  go_enter Tryz.func27, Tryz.ntmps27
  go_wp2_with fail
  go_ret
  exact ⟨by rw [HM.out]; rfl, hb⟩
theorem rmonth8_any (y : Nat) (w : World) (hy : y ≤ 100000) : Calls Tryz.prog 27 #[.int .i64 (y : Int), .int .i64 9] w fun e w' => e = .returned (.int .i64 ((mlen (leapN y) 8 : Nat) : Int)) ∧ Below w.heap.size w w' := by
  have hb := Below.refl w.heap.size w
  have c0 : (w.alloc (.cells #[.int .i64 31, .int .i64 28, .int .i64 31, .int .i64 30, .int .i64 31, .int .i64 30, .int .i64 31, .int .i64 31, .int .i64 30, .int .i64 31, .int .i64 30, .int .i64 31] 3)).cell? ⟨w.heap.size, 8, none⟩ = some (.int .i64 30) := by rw [cell_of_row _ w.heap.size 8 _ 3 (0, 0) (blk_new w _)]; rfl
  replace hb := hb.trans ((below_new w (.cells #[.int .i64 31, .int .i64 28, .int .i64 31, .int .i64 30, .int .i64 31, .int .i64 30, .int .i64 31, .int .i64 31, .int .i64 30, .int .i64 31, .int .i64 30, .int .i64 31] 3)).mono hb.size)
  have HM : Hid (mlen (leapN y) 8 = 30) := Lib.hid (by rw [mlen, if_neg (by omega)]; rfl)
  go_enter Tryz.func27, Tryz.ntmps27
  go_wp2_with fail
  go_ret
  exact ⟨by rw [HM.out]; rfl, hb⟩
theorem rmonth9_any (y : Nat) (w : World) (hy : y ≤ 100000) : Calls Tryz.prog 27 #[.int .i64 (y : Int), .int .i64 10] w fun e w' => e = .returned (.int .i64 ((mlen (leapN y) 9 : Nat) : Int)) ∧ Below w.heap.size w w' := by
  have hb := Below.refl w.heap.size w
  have c0 : (w.alloc (.cells #[.int .i64 31, .int .i64 28, .int .i64 31, .int .i64 30, .int .i64 31, .int .i64 30, .int .i64 31, .int .i64 31, .int .i64 30, .int .i64 31, .int .i64 30, .int .i64 31] 3)).cell? ⟨w.heap.size, 9, none⟩ = some (.int .i64 31) := by rw [cell_of_row _ w.heap.size 9 _ 3 (0, 0) (blk_new w _)]; rfl
  replace hb := hb.trans ((below_new w (.cells #[.int .i64 31, .int .i64 28, .int .i64 31, .int .i64 30, .int .i64 31, .int .i64 30, .int .i64 31, .int .i64 31, .int .i64 30, .int .i64 31, .int .i64 30, .int .i64 31] 3)).mono hb.size)
  have HM : Hid (mlen (leapN y) 9 = 31) := Lib.hid (by rw [mlen, if_neg (by omega)]; rfl)
  go_enter Tryz.func27, Tryz.ntmps27
  go_wp2_with fail
  go_ret
  exact ⟨by rw [HM.out]; rfl, hb⟩
theorem rmonth10_any (y : Nat) (w : World) (hy : y ≤ 100000) : Calls Tryz.prog 27 #[.int .i64 (y : Int), .int .i64 11] w fun e w' => e = .returned (.int .i64 ((mlen (leapN y) 10 : Nat) : Int)) ∧ Below w.heap.size w w' := by
  have hb := Below.refl w.heap.size w
  have c0 : (w.alloc (.cells #[.int .i64 31, .int .i64 28, .int .i64 31, .int .i64 30, .int .i64 31, .int .i64 30, .int .i64 31, .int .i64 31, .int .i64 30, .int .i64 31, .int .i64 30, .int .i64 31] 3)).cell? ⟨w.heap.size, 10, none⟩ = some (.int .i64 30) := by rw [cell_of_row _ w.heap.size 10 _ 3 (0, 0) (blk_new w _)]; rfl
  replace hb := hb.trans ((below_new w (.cells #[.int .i64 31, .int .i64 28, .int .i64 31, .int .i64 30, .int .i64 31, .int .i64 30, .int .i64 31, .int .i64 31, .int .i64 30, .int .i64 31, .int .i64 30, .int .i64 31] 3)).mono hb.size)
  have HM : Hid (mlen (leapN y) 10 = 30) := Lib.hid (by rw [mlen, if_neg (by omega)]; rfl)
  go_enter Tryz.func27, Tryz.ntmps27
  go_wp2_with fail
  go_ret
  exact ⟨by rw [HM.out]; rfl, hb⟩
theorem rmonth11_any (y : Nat) (w : World) (hy : y ≤ 100000) : Calls Tryz.prog 27 #[.int .i64 (y : Int), .int .i64 12] w fun e w' => e = .returned (.int .i64 ((mlen (leapN y) 11 : Nat) : Int)) ∧ Below w.heap.size w w' := by
  have hb := Below.refl w.heap.size w
  have c0 : (w.alloc (.cells #[.int .i64 31, .int .i64 28, .int .i64 31, .int .i64 30, .int .i64 31, .int .i64 30, .int .i64 31, .int .i64 31, .int .i64 30, .int .i64 31, .int .i64 30, .int .i64 31] 3)).cell? ⟨w.heap.size, 11, none⟩ = some (.int .i64 31) := by rw [cell_of_row _ w.heap.size 11 _ 3 (0, 0) (blk_new w _)]; rfl
  replace hb := hb.trans ((below_new w (.cells #[.int .i64 31, .int .i64 28, .int .i64 31, .int .i64 30, .int .i64 31, .int .i64 30, .int .i64 31, .int .i64 31, .int .i64 30, .int .i64 31, .int .i64 30, .int .i64 31] 3)).mono hb.size)
  have HM : Hid (mlen (leapN y) 11 = 31) := Lib.hid (by rw [mlen, if_neg (by omega)]; rfl)
  go_enter Tryz.func27, Tryz.ntmps27
  go_wp2_with fail
  go_ret
  exact ⟨by rw [HM.out]; rfl, hb⟩
theorem rmonth_any (y j : Nat) (w : World) (hy : y ≤ 100000) (hj : j < 12) (m : Int) (hm : m = (j : Int) + 1) : Calls Tryz.prog 27 #[.int .i64 (y : Int), .int .i64 m] w fun e w' => e = .returned (.int .i64 ((mlen (leapN y) j : Nat) : Int)) ∧ Below w.heap.size w w' := by
  subst hm
  match j, hj with
  | 0, _ => exact rmonth0_any y w hy
  | 1, _ => exact rmonth1_any y w hy
  | 2, _ => exact rmonth2_any y w hy
  | 3, _ => exact rmonth3_any y w hy
  | 4, _ => exact rmonth4_any y w hy
  | 5, _ => exact rmonth5_any y w hy
  | 6, _ => exact rmonth6_any y w hy
  | 7, _ => exact rmonth7_any y w hy
  | 8, _ => exact rmonth8_any y w hy
  | 9, _ => exact rmonth9_any y w hy
  | 10, _ => exact rmonth10_any y w hy
  | 11, _ => exact rmonth11_any y w hy
  | j + 12, h => omega
set_option maxHeartbeats 2000000 in
theorem rdigits_any (n k : Nat) (w : World) (hn : n < 9223372036854775808) (hk : k ≤ 20) : Calls Tryz.prog 28 #[.int .i64 (n : Int), .int .i64 (k : Int)] w fun e w' => e = .returned (.string ⟨(digL k n).toArray⟩) ∧ Below w.heap.size w w' := by
  have hb := Below.refl w.heap.size w
  obtain ⟨G, hGG⟩ : ∃ G, digL k n = G := ⟨_, rfl⟩
  have HGG := Lib.hid hGG
  clear hGG
  go_enter Tryz.func28, Tryz.ntmps28
  go_wp2_with fail
  go_loopw [0, 5, 6] (fun nv ov iv wr => ∃ (i m : Nat) (l : List UInt8), i ≤ k ∧ l.length = i ∧ m ≤ n ∧ nv = .int .i64 (m : Int) ∧ ov = .string ⟨l.toArray⟩ ∧ iv = .int .i64 (i : Int) ∧ Hid (digL (k - i) m ++ l = G) ∧ Below w.heap.size w wr) (fun _ _ iv _ => k - (intOf iv).toNat)
  case atStart => exact ⟨0, n, [], by omega, rfl, Nat.le_refl _, rfl, rfl, rfl, Lib.hid (by rw [List.append_nil]; exact HGG.out), hb⟩
  case round =>
    clear hb
    obtain ⟨i, m, l, hik, hl, hmn, rfl, rfl, rfl, HG, hb⟩ := hrel
    by_cases hlt : i < k
    · have hd : decide ((i : Int) < (k : Int)) = true := by simp; omega
      have HG2 : Hid (digL (k - (i + 1)) (m / 10) ++ (UInt8.ofNat (48 + m % 10) :: l) = G) := Lib.hid (by
        have := HG.out
        rw [show k - i = (k - (i + 1)) + 1 by omega, digL, List.append_assoc] at this
        exact this)
      have hx : ((UInt8.ofNat (48 + m % 10)).toNat : Int) = 48 + (m : Int) % 10 := by rw [cell_byte _ (by omega)]; simp
      generalize UInt8.ofNat (48 + m % 10) = b at *
      have ht := text_row (wr.alloc (.cells #[.int .u8 (48 + (m : Int) % 10)] 5)) wr.heap.size 1 1 [b] rfl (by rw [blk_new]; rw [← hx]; rfl)
      have hsum : (⟨#[b]⟩ : ByteArray).size + (⟨l.toArray⟩ : ByteArray).size ≤ 9223372036854775807 := by
        show 1 + l.length ≤ _
        omega
      have HCAT : Hid ((⟨#[b]⟩ : ByteArray) ++ ⟨l.toArray⟩ = ⟨(b :: l).toArray⟩) := Lib.hid (by
        apply ByteArray.ext
        apply Array.toList_inj.1
        rw [ByteArray.data_append, Array.toList_append]
        rfl)
      have hb2 := hb.trans ((below_new wr (.cells #[.int .u8 (48 + (m : Int) % 10)] 5)).mono hb.size)
      have HL := Lib.hid hl
      rw [show (⟨[b].toArray⟩ : ByteArray) = ⟨#[b]⟩ from rfl] at ht
      obtain ⟨pb, hpb⟩ : ∃ pb, (⟨#[b]⟩ : ByteArray) = pb := ⟨_, rfl⟩
      obtain ⟨lb, hlb⟩ : ∃ lb, (⟨l.toArray⟩ : ByteArray) = lb := ⟨_, rfl⟩
      rw [hpb, hlb] at HCAT hsum
      rw [hpb] at ht
      rw [hlb]
      clear hpb hlb hx hb HG hl
      go_wp2_with fail
      go_roundw
      case rel => exact ⟨i + 1, m / 10, b :: l, by omega, by simp; exact HL.out, by omega, by first | rfl | (congr 1; unfold wrap64; omega), by rw [← HCAT.out], by go_num, HG2, hb2⟩
      case measure => simp [intOf]; omega
    · have hd : decide ((i : Int) < (k : Int)) = false := by simp; omega
      obtain rfl : i = k := by omega
      have HE : Hid (l = G) := Lib.hid (by have := HG.out; rw [Nat.sub_self] at this; exact this)
      have HLL : Hid ((⟨l.toArray⟩ : ByteArray) = ⟨(digL i n).toArray⟩) := Lib.hid (by rw [HGG.out, HE.out])
      generalize (⟨l.toArray⟩ : ByteArray) = L at *
      clear HG HE
      go_wp2_with fail
      go_ret
      exact ⟨by first | (rw [HLL.out]; done) | (rw [HLL.out]; rfl), hb⟩
end

section
open Go.RowKit Go.Sort
set_option maxRecDepth 100000
set_option linter.unusedSimpArgs false
set_option linter.unusedVariables false

theorem rdig2_any (z : Int) (w : World) (h0 : 0 ≤ z) (h1 : z ≤ 1000000) : Calls Tryz.prog 28 #[.int .i64 z, .int .i64 2] w fun e w' => e = .returned (.string (dgB 2 z)) ∧ Below w.heap.size w w' := by
  have h := rdigits_any z.toNat 2 w (by omega) (by omega)
  rwa [show ((z.toNat : Nat) : Int) = z by omega] at h
theorem rdig4_any (z : Int) (w : World) (h0 : 0 ≤ z) (h1 : z ≤ 1000000) : Calls Tryz.prog 28 #[.int .i64 z, .int .i64 4] w fun e w' => e = .returned (.string (dgB 4 z)) ∧ Below w.heap.size w w' := by
  have h := rdigits_any z.toNat 4 w (by omega) (by omega)
  rwa [show ((z.toNat : Nat) : Int) = z by omega] at h
set_option maxHeartbeats 16000000 in
theorem rTime_any (n : Int) (w : World) (h0 : -9223372036854775808 ≤ n) (h1 : n ≤ 9223372036854775807) :
    Calls Tryz.prog 11 #[.int .i64 n] w fun e w' => e = .returned (.tuple #[.string (timX n), .int .i64 (timE n)]) ∧ Below w.heap.size w w' := by
  have hb := Below.refl w.heap.size w
  have CT := Lib.hid (fun W => risTime_any n W)
  by_cases ht : isTm n = true
  · obtain ⟨n0, n1⟩ := (isTm_iff n).1 ht
    obtain ⟨N, rfl⟩ : ∃ N : Nat, n = (N : Int) := ⟨n.toNat, by omega⟩
    have HX : Hid (timX (N : Int) = timB N ∧ timE (N : Int) = 0) := Lib.hid ⟨by rw [timX, if_pos ht]; rfl, if_pos ht⟩
    rw [ht] at CT
    obtain ⟨D, hD⟩ : ∃ D, N / 86400 = D := ⟨_, rfl⟩
    have hD1 : (N : Int) / 86400 = (D : Int) := by omega
    have hDm : D ≤ 2932896 := by omega
    have HD := Lib.hid hD
    obtain ⟨sv, hsv⟩ : ∃ sv : Int, (N : Int) % 86400 = sv := ⟨_, rfl⟩
    have hs0 : 0 ≤ sv ∧ sv < 86400 := by omega
    have HSV := Lib.hid hsv
    have HN := Lib.hid n1
    clear ht n0 n1 h0 h1 hD
    go_enter Tryz.func11, Tryz.ntmps11
    go_wp2_with fail
    refine (CT.out w).mono ?_
    rintro e W1 ⟨rfl, bk⟩
    replace hb := hb.trans (bk.mono hb.size)
    clear bk CT
    go_wp2_with fail
    try rw [hD1]
    try rw [hsv]
    clear hD1 hsv
    go_loopw [4, 6, 7] (fun dv yv lv wr => ∃ (k r y : Nat), ydays k + r = D ∧ y = 1970 + k ∧ k ≤ 8029 ∧ dv = .int .i64 (r : Int) ∧ yv = .int .i64 (y : Int) ∧ Below w.heap.size w wr) (fun dv _ _ _ => (intOf dv).toNat)
    case atStart => exact ⟨0, D, 1970, by show 0 + D = D; omega, rfl, by omega, rfl, rfl, hb⟩
    case round =>
      clear hb
      obtain ⟨k, r, y, hk, hy, hk2, rfl, rfl, hb⟩ := hrel
      have CL := Lib.hid (fun W => rleap_any y W (by omega))
      have hyl := ylen_le k
      have HYL : Hid (ylen k = if leapN y = true then 366 else 365) := Lib.hid (by rw [ylen, hy])
      have HYK := Lib.hid hy
      have HKR := Lib.hid hk
      have hr9 : r ≤ 2932896 := by omega
      have hy9 : y ≤ 100000 := by omega
      cases hl : leapN y with
      | true =>
        rw [hl] at HYL CL
        clear hl hk hy
        have hyd : ylen k = 366 := HYL.out
        clear HYL
        have HYD := Lib.hid hyd
        clear hyd hyl
        go_wp2_with fail
        refine (CL.out wr).mono ?_
        rintro e W2 ⟨rfl, bk⟩
        replace hb := hb.trans (bk.mono hb.size)
        clear bk CL
        by_cases hlt : r < 366
        · have hd : decide ((r : Int) < 366) = true := by simp; omega
          have HYR : Hid (yrOf D = (k, r)) := Lib.hid (yr_of D k r hDm HKR.out (by rw [HYD.out]; exact hlt))
          obtain ⟨lp, hlp⟩ : ∃ lp, leapN (1970 + k) = lp := ⟨_, rfl⟩
          have HLP := Lib.hid hlp
          have HRL : Hid (r < mdays lp 12) := Lib.hid (by rw [← hlp, mdays_year, HYD.out]; exact hlt)
          have hy2 : y ≤ 100000 := by have := HYK.out; omega
          have hyk := HYK.out
          rw [show leapN (1970 + k) = leapN y by rw [hyk]] at hlp
          have CMO := Lib.hid (fun (j : Nat) (hj : j < 12) (m : Int) (hm : m = (j : Int) + 1) W => rmonth_any y j W hy2 hj m hm)
          rw [hlp] at CMO
          clear hlp hyk HYD
          go_wp2_with fail
          go_loopw [4, 8] (fun dv mv wr => ∃ (j e : Nat), mdays lp j + e = r ∧ j < 12 ∧ dv = .int .i64 (e : Int) ∧ mv = .int .i64 ((j : Int) + 1) ∧ Below w.heap.size w wr) (fun dv _ _ => (intOf dv).toNat)
          case atStart => exact ⟨0, r, by show 0 + r = r; omega, by omega, rfl, rfl, hb⟩
          case round =>
            clear hb
            obtain ⟨j, e, hje, hj12, rfl, rfl, hb⟩ := hrel
            have CM := Lib.hid (CMO.out j hj12 ((j : Int) + 1) rfl)
            have hml := mlen_le lp j
            have HML : Hid (28 ≤ mlen lp j) := Lib.hid (mlen_ge lp j hj12)
            obtain ⟨ml, hmm⟩ : ∃ ml, mlen lp j = ml := ⟨_, rfl⟩
            rw [hmm] at CM hml HML
            have HMM := Lib.hid hmm
            have HJE := Lib.hid hje
            have he4 : e ≤ 400 := by omega
            clear hmm hje
            have wj : wrap64 ((j : Int) + 1 + 1) = (j : Int) + 1 + 1 := by unfold wrap64; omega
            by_cases hge : ml ≤ e
            · have hdg : decide ((ml : Int) ≤ (e : Int)) = true := by simp; omega
              have HJN : Hid (j + 1 < 12) := Lib.hid (by
                by_cases c : j = 11
                · exfalso
                  have a := HRL.out; have b := HJE.out; have d := HMM.out
                  subst c
                  rw [show mdays lp 12 = mdays lp 11 + mlen lp 11 from rfl] at a
                  omega
                · omega)
              have HJE2 : Hid (mdays lp (j + 1) + (e - ml) = r) := Lib.hid (by rw [mdays, HMM.out]; have := HJE.out; omega)
              have hme : 28 ≤ ml := HML.out
              clear HJE
              go_wp2_with fail
              refine (CM.out _).mono ?_
              rintro ee W3 ⟨rfl, bk⟩
              replace hb := hb.trans (bk.mono hb.size)
              clear bk
              go_wp2_with fail
              refine (CM.out _).mono ?_
              rintro ee W4 ⟨rfl, bk⟩
              replace hb := hb.trans (bk.mono hb.size)
              clear bk CM
              go_wp2_with fail
              go_roundw
              case rel => exact ⟨j + 1, e - ml, HJE2.out, HJN.out, by first | (congr 1; unfold wrap64; omega) | (congr 1; omega), by first | (congr 1; unfold wrap64; omega) | (congr 1; omega) | rfl, hb⟩
              case measure => simp [intOf]; (try unfold wrap64); omega
            · have hdg : decide ((ml : Int) ≤ (e : Int)) = false := by simp; omega
              have HMO : Hid (moOf D = (j, e)) := Lib.hid (mo_of D j e hDm (by rw [HYR.out]; simp only; rw [HLP.out]; exact HJE.out) (by rw [HYR.out]; simp only; rw [HLP.out, HMM.out]; omega))
              have hyk2 : (y : Int) = ((1970 + k : Nat) : Int) := by rw [HYK.out]
              have HTB : Hid (timB N = dgB 4 (y : Int) ++ dgB 2 ((j : Int) + 1) ++ dgB 2 ((e : Int) + 1) ++ dgB 2 (sv / 3600) ++ dgB 2 (sv / 60 % 60) ++ dgB 2 (sv % 60) ++ ⟨#[90]⟩) := Lib.hid (by rw [hyk2, ← HSV.out]; exact timB_parts N k r j e (by have := HN.out; omega) (by rw [HD.out]; exact HYR.out) (by rw [HD.out]; exact HMO.out))
              have C1 := Lib.hid (fun W => rdig4_any (y : Int) W (by omega) (by omega))
              have C2 := Lib.hid (fun W => rdig2_any ((j : Int) + 1) W (by omega) (by omega))
              have C3 := Lib.hid (fun W => rdig2_any ((e : Int) + 1) W (by omega) (by omega))
              have C4 := Lib.hid (fun W => rdig2_any (sv / 3600) W (by omega) (by omega))
              have C5 := Lib.hid (fun W => rdig2_any (sv / 60 % 60) W (by omega) (by omega))
              have C6 := Lib.hid (fun W => rdig2_any (sv % 60) W (by omega) (by omega))
              have z1 := dgB_size 4 (y : Int); have z2 := dgB_size 2 ((j : Int) + 1); have z3 := dgB_size 2 ((e : Int) + 1); have z4 := dgB_size 2 (sv / 3600); have z5 := dgB_size 2 (sv / 60 % 60); have z6 := dgB_size 2 (sv % 60)
              generalize dgB 4 (y : Int) = A1 at *
              generalize dgB 2 ((j : Int) + 1) = A2 at *
              generalize dgB 2 ((e : Int) + 1) = A3 at *
              generalize dgB 2 (sv / 3600) = A4 at *
              generalize dgB 2 (sv / 60 % 60) = A5 at *
              generalize dgB 2 (sv % 60) = A6 at *
              have k1 : A1.size + A2.size ≤ 9223372036854775807 := by omega
              have k2 : A1.size + A2.size + A3.size ≤ 9223372036854775807 := by omega
              have k3 : A1.size + A2.size + A3.size + A4.size ≤ 9223372036854775807 := by omega
              have k4 : A1.size + A2.size + A3.size + A4.size + A5.size ≤ 9223372036854775807 := by omega
              have k5 : A1.size + A2.size + A3.size + A4.size + A5.size + A6.size ≤ 9223372036854775807 := by omega
              have k6 : A1.size + A2.size + A3.size + A4.size + A5.size + A6.size + 1 ≤ 9223372036854775807 := by omega
              clear z1 z2 z3 z4 z5 z6 HMO HJE hyk2 HML HRL HLP HYR HKR HYK HD HSV HN
              go_wp2_with fail
              refine (CM.out _).mono ?_
              rintro ee W3 ⟨rfl, bk⟩
              replace hb := hb.trans (bk.mono hb.size)
              clear bk CM CMO
              go_wp2_with fail
              refine (C1.out _).mono ?_
              rintro ee V1 ⟨rfl, bk⟩
              replace hb := hb.trans (bk.mono hb.size)
              clear bk C1
              go_wp2_with fail
              refine (C2.out _).mono ?_
              rintro ee V2 ⟨rfl, bk⟩
              replace hb := hb.trans (bk.mono hb.size)
              clear bk C2
              go_wp2_with fail
              refine (C3.out _).mono ?_
              rintro ee V3 ⟨rfl, bk⟩
              replace hb := hb.trans (bk.mono hb.size)
              clear bk C3
              go_wp2_with fail
              refine (C4.out _).mono ?_
              rintro ee V4 ⟨rfl, bk⟩
              replace hb := hb.trans (bk.mono hb.size)
              clear bk C4
              go_wp2_with fail
              refine (C5.out _).mono ?_
              rintro ee V5 ⟨rfl, bk⟩
              replace hb := hb.trans (bk.mono hb.size)
              clear bk C5
              go_wp2_with fail
              refine (C6.out _).mono ?_
              rintro ee V6 ⟨rfl, bk⟩
              replace hb := hb.trans (bk.mono hb.size)
              clear bk C6
              go_wp2_with fail
              go_ret2
              exact ⟨by rw [HX.out.1, HX.out.2, HTB.out]; rfl, hb⟩
        · have hd : decide ((r : Int) < 366) = false := by simp; omega
          have hr : 366 ≤ r := by omega
          have HK2 : Hid (ydays (k + 1) + (r - 366) = D) := Lib.hid (by rw [ydays, HYD.out]; have := HKR.out; omega)
          have HK3 : Hid (k + 1 ≤ 8029) := Lib.hid (by
            by_cases c : k = 8029
            · exfalso
              have a := ydays_val 8030 9999 rfl
              have b := HK2.out
              rw [c] at b
              change ydays 8030 + _ = D at b
              omega
            · omega)
          have HY2 : Hid (y + 1 = 1970 + (k + 1)) := Lib.hid (by have := HYK.out; omega)
          clear HKR HYK HYD
          go_wp2_with fail
          go_roundw
          case rel => exact ⟨k + 1, r - 366, y + 1, HK2.out, HY2.out, HK3.out, by first | (congr 1; unfold wrap64; omega) | (congr 1; omega), by go_num, hb⟩
          case measure => simp [intOf]; (try unfold wrap64); omega
      | false =>
        rw [hl] at HYL CL
        clear hl hk hy
        have hyd : ylen k = 365 := HYL.out
        clear HYL
        have HYD := Lib.hid hyd
        clear hyd hyl
        go_wp2_with fail
        refine (CL.out wr).mono ?_
        rintro e W2 ⟨rfl, bk⟩
        replace hb := hb.trans (bk.mono hb.size)
        clear bk CL
        by_cases hlt : r < 365
        · have hd : decide ((r : Int) < 365) = true := by simp; omega
          have HYR : Hid (yrOf D = (k, r)) := Lib.hid (yr_of D k r hDm HKR.out (by rw [HYD.out]; exact hlt))
          obtain ⟨lp, hlp⟩ : ∃ lp, leapN (1970 + k) = lp := ⟨_, rfl⟩
          have HLP := Lib.hid hlp
          have HRL : Hid (r < mdays lp 12) := Lib.hid (by rw [← hlp, mdays_year, HYD.out]; exact hlt)
          have hy2 : y ≤ 100000 := by have := HYK.out; omega
          have hyk := HYK.out
          rw [show leapN (1970 + k) = leapN y by rw [hyk]] at hlp
          have CMO := Lib.hid (fun (j : Nat) (hj : j < 12) (m : Int) (hm : m = (j : Int) + 1) W => rmonth_any y j W hy2 hj m hm)
          rw [hlp] at CMO
          clear hlp hyk HYD
          go_wp2_with fail
          go_loopw [4, 8] (fun dv mv wr => ∃ (j e : Nat), mdays lp j + e = r ∧ j < 12 ∧ dv = .int .i64 (e : Int) ∧ mv = .int .i64 ((j : Int) + 1) ∧ Below w.heap.size w wr) (fun dv _ _ => (intOf dv).toNat)
          case atStart => exact ⟨0, r, by show 0 + r = r; omega, by omega, rfl, rfl, hb⟩
          case round =>
            clear hb
            obtain ⟨j, e, hje, hj12, rfl, rfl, hb⟩ := hrel
            have CM := Lib.hid (CMO.out j hj12 ((j : Int) + 1) rfl)
            have hml := mlen_le lp j
            have HML : Hid (28 ≤ mlen lp j) := Lib.hid (mlen_ge lp j hj12)
            obtain ⟨ml, hmm⟩ : ∃ ml, mlen lp j = ml := ⟨_, rfl⟩
            rw [hmm] at CM hml HML
            have HMM := Lib.hid hmm
            have HJE := Lib.hid hje
            have he4 : e ≤ 400 := by omega
            clear hmm hje
            have wj : wrap64 ((j : Int) + 1 + 1) = (j : Int) + 1 + 1 := by unfold wrap64; omega
            by_cases hge : ml ≤ e
            · have hdg : decide ((ml : Int) ≤ (e : Int)) = true := by simp; omega
              have HJN : Hid (j + 1 < 12) := Lib.hid (by
                by_cases c : j = 11
                · exfalso
                  have a := HRL.out; have b := HJE.out; have d := HMM.out
                  subst c
                  rw [show mdays lp 12 = mdays lp 11 + mlen lp 11 from rfl] at a
                  omega
                · omega)
              have HJE2 : Hid (mdays lp (j + 1) + (e - ml) = r) := Lib.hid (by rw [mdays, HMM.out]; have := HJE.out; omega)
              have hme : 28 ≤ ml := HML.out
              clear HJE
              go_wp2_with fail
              refine (CM.out _).mono ?_
              rintro ee W3 ⟨rfl, bk⟩
              replace hb := hb.trans (bk.mono hb.size)
              clear bk
              go_wp2_with fail
              refine (CM.out _).mono ?_
              rintro ee W4 ⟨rfl, bk⟩
              replace hb := hb.trans (bk.mono hb.size)
              clear bk CM
              go_wp2_with fail
              go_roundw
              case rel => exact ⟨j + 1, e - ml, HJE2.out, HJN.out, by first | (congr 1; unfold wrap64; omega) | (congr 1; omega), by first | (congr 1; unfold wrap64; omega) | (congr 1; omega) | rfl, hb⟩
              case measure => simp [intOf]; (try unfold wrap64); omega
            · have hdg : decide ((ml : Int) ≤ (e : Int)) = false := by simp; omega
              have HMO : Hid (moOf D = (j, e)) := Lib.hid (mo_of D j e hDm (by rw [HYR.out]; simp only; rw [HLP.out]; exact HJE.out) (by rw [HYR.out]; simp only; rw [HLP.out, HMM.out]; omega))
              have hyk2 : (y : Int) = ((1970 + k : Nat) : Int) := by rw [HYK.out]
              have HTB : Hid (timB N = dgB 4 (y : Int) ++ dgB 2 ((j : Int) + 1) ++ dgB 2 ((e : Int) + 1) ++ dgB 2 (sv / 3600) ++ dgB 2 (sv / 60 % 60) ++ dgB 2 (sv % 60) ++ ⟨#[90]⟩) := Lib.hid (by rw [hyk2, ← HSV.out]; exact timB_parts N k r j e (by have := HN.out; omega) (by rw [HD.out]; exact HYR.out) (by rw [HD.out]; exact HMO.out))
              have C1 := Lib.hid (fun W => rdig4_any (y : Int) W (by omega) (by omega))
              have C2 := Lib.hid (fun W => rdig2_any ((j : Int) + 1) W (by omega) (by omega))
              have C3 := Lib.hid (fun W => rdig2_any ((e : Int) + 1) W (by omega) (by omega))
              have C4 := Lib.hid (fun W => rdig2_any (sv / 3600) W (by omega) (by omega))
              have C5 := Lib.hid (fun W => rdig2_any (sv / 60 % 60) W (by omega) (by omega))
              have C6 := Lib.hid (fun W => rdig2_any (sv % 60) W (by omega) (by omega))
              have z1 := dgB_size 4 (y : Int); have z2 := dgB_size 2 ((j : Int) + 1); have z3 := dgB_size 2 ((e : Int) + 1); have z4 := dgB_size 2 (sv / 3600); have z5 := dgB_size 2 (sv / 60 % 60); have z6 := dgB_size 2 (sv % 60)
              generalize dgB 4 (y : Int) = A1 at *
              generalize dgB 2 ((j : Int) + 1) = A2 at *
              generalize dgB 2 ((e : Int) + 1) = A3 at *
              generalize dgB 2 (sv / 3600) = A4 at *
              generalize dgB 2 (sv / 60 % 60) = A5 at *
              generalize dgB 2 (sv % 60) = A6 at *
              have k1 : A1.size + A2.size ≤ 9223372036854775807 := by omega
              have k2 : A1.size + A2.size + A3.size ≤ 9223372036854775807 := by omega
              have k3 : A1.size + A2.size + A3.size + A4.size ≤ 9223372036854775807 := by omega
              have k4 : A1.size + A2.size + A3.size + A4.size + A5.size ≤ 9223372036854775807 := by omega
              have k5 : A1.size + A2.size + A3.size + A4.size + A5.size + A6.size ≤ 9223372036854775807 := by omega
              have k6 : A1.size + A2.size + A3.size + A4.size + A5.size + A6.size + 1 ≤ 9223372036854775807 := by omega
              clear z1 z2 z3 z4 z5 z6 HMO HJE hyk2 HML HRL HLP HYR HKR HYK HD HSV HN
              go_wp2_with fail
              refine (CM.out _).mono ?_
              rintro ee W3 ⟨rfl, bk⟩
              replace hb := hb.trans (bk.mono hb.size)
              clear bk CM CMO
              go_wp2_with fail
              refine (C1.out _).mono ?_
              rintro ee V1 ⟨rfl, bk⟩
              replace hb := hb.trans (bk.mono hb.size)
              clear bk C1
              go_wp2_with fail
              refine (C2.out _).mono ?_
              rintro ee V2 ⟨rfl, bk⟩
              replace hb := hb.trans (bk.mono hb.size)
              clear bk C2
              go_wp2_with fail
              refine (C3.out _).mono ?_
              rintro ee V3 ⟨rfl, bk⟩
              replace hb := hb.trans (bk.mono hb.size)
              clear bk C3
              go_wp2_with fail
              refine (C4.out _).mono ?_
              rintro ee V4 ⟨rfl, bk⟩
              replace hb := hb.trans (bk.mono hb.size)
              clear bk C4
              go_wp2_with fail
              refine (C5.out _).mono ?_
              rintro ee V5 ⟨rfl, bk⟩
              replace hb := hb.trans (bk.mono hb.size)
              clear bk C5
              go_wp2_with fail
              refine (C6.out _).mono ?_
              rintro ee V6 ⟨rfl, bk⟩
              replace hb := hb.trans (bk.mono hb.size)
              clear bk C6
              go_wp2_with fail
              go_ret2
              exact ⟨by rw [HX.out.1, HX.out.2, HTB.out]; rfl, hb⟩
        · have hd : decide ((r : Int) < 365) = false := by simp; omega
          have hr : 365 ≤ r := by omega
          have HK2 : Hid (ydays (k + 1) + (r - 365) = D) := Lib.hid (by rw [ydays, HYD.out]; have := HKR.out; omega)
          have HK3 : Hid (k + 1 ≤ 8029) := Lib.hid (by
            by_cases c : k = 8029
            · exfalso
              have a := ydays_val 8030 9999 rfl
              have b := HK2.out
              rw [c] at b
              change ydays 8030 + _ = D at b
              omega
            · omega)
          have HY2 : Hid (y + 1 = 1970 + (k + 1)) := Lib.hid (by have := HYK.out; omega)
          clear HKR HYK HYD
          go_wp2_with fail
          go_roundw
          case rel => exact ⟨k + 1, r - 365, y + 1, HK2.out, HY2.out, HK3.out, by first | (congr 1; unfold wrap64; omega) | (congr 1; omega), by go_num, hb⟩
          case measure => simp [intOf]; (try unfold wrap64); omega
  · have ht' : isTm n = false := by simpa using ht
    have HX : Hid (timX n = ⟨#[]⟩ ∧ timE n = 1) := Lib.hid ⟨if_neg ht, if_neg ht⟩
    rw [ht'] at CT
    clear ht ht'
    go_enter Tryz.func11, Tryz.ntmps11
    go_wp2_with fail
    refine (CT.out w).mono ?_
    rintro e W1 ⟨rfl, bk⟩
    replace hb := hb.trans (bk.mono hb.size)
    clear bk
    go_wp2_with fail
    go_ret2
    exact ⟨by rw [HX.out.1, HX.out.2]; rfl, hb⟩
end

section
open Go.RowKit Go.Sort
set_option maxRecDepth 100000
set_option linter.unusedSimpArgs false
set_option linter.unusedVariables false

theorem all_bytes (l : List UInt8) (p : UInt8 → Bool) (q : Nat → Prop) (hpq : ∀ x : UInt8, p x = true ↔ q x.toNat) : l.all p = true ↔ ∀ i, i < l.length → q (rdB l i) := by
  rw [List.all_eq_true]
  constructor
  · intro h i hi
    rw [rdB, List.getD_eq_getElem?_getD, List.getElem?_eq_getElem hi, Option.getD_some]
    exact (hpq _).1 (h _ (List.getElem_mem hi))
  · intro h x hx
    obtain ⟨i, hi, rfl⟩ := List.mem_iff_getElem.1 hx
    have := h i hi
    rw [rdB, List.getD_eq_getElem?_getD, List.getElem?_eq_getElem hi, Option.getD_some] at this
    exact (hpq _).2 this
theorem nm_all (s : ByteArray) : (s.data.toList.all fun x => decide (32 ≤ x.toNat) && decide (x.toNat ≤ 126)) = true ↔ ∀ i, i < s.size → 32 ≤ rdB s.data.toList i ∧ rdB s.data.toList i ≤ 126 := by
  rw [all_bytes s.data.toList _ (fun b => 32 ≤ b ∧ b ≤ 126) (fun x => by simp), ← Lib.size_eq]
theorem isNm_bad (s : ByteArray) (k : Nat) (hk : k < s.size) (h : ¬ (32 ≤ rdB s.data.toList k ∧ rdB s.data.toList k ≤ 126)) : isNm s = false := by
  rw [isNm]
  cases e : (s.data.toList.all fun x => decide (32 ≤ x.toNat) && decide (x.toNat ≤ 126)) with
  | false => rw [Bool.and_false]
  | true => exact absurd ((nm_all s).1 e k hk) h
theorem isNm_good (s : ByteArray) (h : ∀ i, i < s.size → 32 ≤ rdB s.data.toList i ∧ rdB s.data.toList i ≤ 126) : isNm s = (decide (1 ≤ s.size) && decide (s.size ≤ 32)) := by
  rw [isNm, (nm_all s).2 h, Bool.and_true]
set_option maxHeartbeats 4000000 in
theorem rIsName_any (s : ByteArray) (w : World) (hs : s.size ≤ 1000000000) : Calls Tryz.prog 58 #[.string s] w fun e w' => e = .returned (.bool (isNm s)) ∧ Below w.heap.size w w' := by
  have hb := Below.refl w.heap.size w
  have HAT := Lib.hid (fun k (h : k < s.size) => rd_at s k h)
  have HLT := Lib.hid (fun k => rdB_lt s.data.toList k)
  go_enter Tryz.func58, Tryz.ntmps58
  go_wp2_with fail
  go_loopw [3] (fun iv wr => ∃ k : Nat, k ≤ s.size ∧ iv = .int .i64 (k : Int) ∧ (∀ i, i < k → 32 ≤ rdB s.data.toList i ∧ rdB s.data.toList i ≤ 126) ∧ w = wr) (fun iv _ => s.size - (intOf iv).toNat)
  case atStart => exact ⟨0, by omega, rfl, fun i hi => by omega, rfl⟩
  case round =>
    obtain ⟨k, hk, rfl, hpre, rfl⟩ := hrel
    have HP := Lib.hid hpre
    clear hpre
    by_cases hlt : k < s.size
    · have hd : decide ((k : Int) < (s.size : Int)) = true := by simp; omega
      have hik : (k : Int) < (s.size : Int) := by omega
      have tk := HAT.out k hlt
      have hb256 := HLT.out k
      obtain ⟨b, hbb⟩ : ∃ b, rdB s.data.toList k = b := ⟨_, rfl⟩
      rw [hbb] at tk hb256
      have HBB := Lib.hid hbb
      clear hbb
      by_cases c1 : b < 32
      · have d1 : decide ((b : Int) < 32) = true := by simp; omega
        have HF : Hid (isNm s = false) := Lib.hid (isNm_bad s k hlt (by rw [HBB.out]; omega))
        clear HBB HP HAT HLT
        go_wp2_with fail
        go_ret
        exact ⟨by rw [HF.out]; rfl, hb⟩
      · have d1 : decide ((b : Int) < 32) = false := by simp; omega
        by_cases c2 : 126 < b
        · have d2 : decide ((126 : Int) < (b : Int)) = true := by simp; omega
          have HF : Hid (isNm s = false) := Lib.hid (isNm_bad s k hlt (by rw [HBB.out]; omega))
          clear HBB HP HAT HLT
          go_wp2_with fail
          go_ret
          exact ⟨by rw [HF.out]; rfl, hb⟩
        · have d2 : decide ((126 : Int) < (b : Int)) = false := by simp; omega
          have HP2 : Hid (∀ i, i < k + 1 → 32 ≤ rdB s.data.toList i ∧ rdB s.data.toList i ≤ 126) := Lib.hid (fun i hi => by
            by_cases c : i < k
            · exact HP.out i c
            · obtain rfl : i = k := by omega
              rw [HBB.out]; omega)
          clear HBB HP HAT HLT
          go_wp2_with fail
          go_roundw
          case rel => exact ⟨k + 1, by omega, by go_num, HP2.out, by first | rfl | trivial⟩
          case measure => simp [intOf]; omega
    · have hd : decide ((k : Int) < (s.size : Int)) = false := by simp; omega
      obtain rfl : k = s.size := by omega
      have HG := Lib.hid (isNm_good s HP.out)
      clear HP HAT HLT
      by_cases c1 : 1 ≤ s.size
      · have d1 : decide ((1 : Int) ≤ (s.size : Int)) = true := by simp; omega
        by_cases c2 : s.size ≤ 32
        · have d2 : decide ((s.size : Int) ≤ 32) = true := by simp; omega
          have HF : Hid (isNm s = true) := Lib.hid (by rw [HG.out, decide_eq_true c1, decide_eq_true c2]; rfl)
          clear HG c1 c2
          go_wp2_with fail
          go_ret
          exact ⟨by rw [HF.out]; rfl, hb⟩
        · have d2 : decide ((s.size : Int) ≤ 32) = false := by simp; omega
          have HF : Hid (isNm s = false) := Lib.hid (by rw [HG.out, decide_eq_false c2, Bool.and_false])
          clear HG c1 c2
          go_wp2_with fail
          go_ret
          exact ⟨by rw [HF.out]; rfl, hb⟩
      · have d1 : decide ((1 : Int) ≤ (s.size : Int)) = false := by simp; omega
        have HF : Hid (isNm s = false) := Lib.hid (by rw [HG.out, decide_eq_false c1, Bool.false_and])
        clear HG c1
        go_wp2_with fail
        go_ret
        exact ⟨by rw [HF.out]; rfl, hb⟩
theorem isTx_bad (s : ByteArray) (k : Nat) (hk : k < 14) (hs : s.size = 15) (h : ¬ (48 ≤ rdB s.data.toList k ∧ rdB s.data.toList k ≤ 57)) : isTx s = false := by
  have hl : s.data.toList.length = 15 := by rw [← Lib.size_eq]; exact hs
  rw [isTx]
  cases e : ((s.data.toList.take 14).all fun x => decide (48 ≤ x.toNat) && decide (x.toNat ≤ 57)) with
  | false => rw [Bool.and_false]
  | true =>
    have := (all_bytes (s.data.toList.take 14) _ (fun b => 48 ≤ b ∧ b ≤ 57) (fun x => by simp)).1 e k (by rw [List.length_take]; omega)
    rw [rdB, List.getD_eq_getElem?_getD, List.getElem?_take, if_pos hk, ← List.getD_eq_getElem?_getD] at this
    exact absurd this h
theorem isTx_good (s : ByteArray) (hs : s.size = 15) (hz : rdB s.data.toList 14 = 90) (h : ∀ k, k < 14 → 48 ≤ rdB s.data.toList k ∧ rdB s.data.toList k ≤ 57) : isTx s = true := by
  have hl : s.data.toList.length = 15 := by rw [← Lib.size_eq]; exact hs
  rw [isTx, Bool.and_eq_true, Bool.and_eq_true]
  refine ⟨⟨by rw [hs]; rfl, ?_⟩, ?_⟩
  · rw [beq_iff_eq]
    exact UInt8.toNat_inj.1 hz
  · rw [all_bytes (s.data.toList.take 14) _ (fun b => 48 ≤ b ∧ b ≤ 57) (fun x => by simp)]
    intro i hi
    rw [List.length_take] at hi
    have := h i (by omega)
    rw [rdB, List.getD_eq_getElem?_getD, List.getElem?_take, if_pos (by omega), ← List.getD_eq_getElem?_getD]
    exact this
theorem isTx_size (s : ByteArray) (h : s.size ≠ 15) : isTx s = false := by
  rw [isTx, show (s.size == 15) = false by simpa using h]
  rfl
theorem isTx_z (s : ByteArray) (h : rdB s.data.toList 14 ≠ 90) : isTx s = false := by
  rw [isTx]
  have : (s.data.toList.getD 14 0 == 90) = false := by
    rw [beq_eq_false_iff_ne]
    exact fun e => h (by rw [rdB, e]; rfl)
  rw [this, Bool.and_false, Bool.false_and]
theorem tim_nat (n : Nat) (h : n ≤ 253402300799) : timX (n : Int) = timB n ∧ timE (n : Int) = 0 := by
  have ht : isTm (n : Int) = true := (isTm_iff _).2 (by omega)
  exact ⟨by rw [timX, if_pos ht]; rfl, if_pos ht⟩
theorem tx_eq (n : Nat) (s : ByteArray) (hn : n ≤ 253402300799) (h : isTx s = true) : timB n = s ↔ timV n = numT s := by
  obtain ⟨a, b, _⟩ := isTx_facts s h
  constructor
  · intro e
    have : (timB n).data.toList = s.data.toList := by rw [e]
    rw [timB_list, a] at this
    exact digL_inj 14 _ _ (by rw [ten14]; exact timV_bound n hn) b (List.append_inj' this rfl).1
  · intro e
    apply ByteArray.ext
    apply Array.toList_inj.1
    rw [timB_list, e, ← a]
set_option maxHeartbeats 8000000 in
theorem rAt_any (s : ByteArray) (w : World) (hs : s.size ≤ 1000000000) : Calls Tryz.prog 79 #[.string s] w fun e w' => e = .returned (.int .i64 (atS s)) ∧ Below w.heap.size w w' := by
  have hb := Below.refl w.heap.size w
  by_cases h15 : s.size = 15
  · have d15 : ((s.size : Int) != 15) = false := by simp; omega
    have h14 : (14 : Int) < (s.size : Int) := by omega
    have t14 := rd_at s 14 (by omega)
    have b14 := rdB_lt s.data.toList 14
    by_cases hz : rdB s.data.toList 14 = 90
    · have dz : ((rdB s.data.toList 14 : Int) != 90) = false := by simp; omega
      have HAT := Lib.hid (fun k (h : k < s.size) => rd_at s k h)
      have HLT := Lib.hid (fun k => rdB_lt s.data.toList k)
      have H15 := Lib.hid h15
      have HZ := Lib.hid hz
      generalize rdB s.data.toList 14 = z at t14 b14 dz
      clear hz h15
      go_enter Tryz.func79, Tryz.ntmps79
      go_wp2_with fail
      clear t14 b14 dz d15
      go_loopw [3] (fun iv wr => ∃ k : Nat, k ≤ 14 ∧ iv = .int .i64 (k : Int) ∧ (∀ i, i < k → 48 ≤ rdB s.data.toList i ∧ rdB s.data.toList i ≤ 57) ∧ w = wr) (fun iv _ => 14 - (intOf iv).toNat)
      case atStart => exact ⟨0, by omega, rfl, fun i hi => by omega, rfl⟩
      case round =>
        obtain ⟨k, hk, rfl, hpre, rfl⟩ := hrel
        have HP := Lib.hid hpre
        clear hpre
        by_cases hlt : k < 14
        · have hd : decide ((k : Int) < 14) = true := by simp; omega
          have hik : (k : Int) < (s.size : Int) := by omega
          have tk := HAT.out k (by omega)
          have hb256 := HLT.out k
          obtain ⟨b, hbb⟩ : ∃ b, rdB s.data.toList k = b := ⟨_, rfl⟩
          rw [hbb] at tk hb256
          have HBB := Lib.hid hbb
          clear hbb
          by_cases c1 : b < 48
          · have d1 : decide ((b : Int) < 48) = true := by simp; omega
            have HF : Hid (atS s = -1) := Lib.hid (by rw [atS, isTx_bad s k hlt H15.out (by rw [HBB.out]; omega)]; rfl)
            clear HBB HP HAT HLT H15 HZ
            go_wp2_with fail
            go_ret
            exact ⟨by rw [HF.out]; rfl, hb⟩
          · have d1 : decide ((b : Int) < 48) = false := by simp; omega
            by_cases c2 : 57 < b
            · have d2 : decide ((57 : Int) < (b : Int)) = true := by simp; omega
              have HF : Hid (atS s = -1) := Lib.hid (by rw [atS, isTx_bad s k hlt H15.out (by rw [HBB.out]; omega)]; rfl)
              clear HBB HP HAT HLT H15 HZ
              go_wp2_with fail
              go_ret
              exact ⟨by rw [HF.out]; rfl, hb⟩
            · have d2 : decide ((57 : Int) < (b : Int)) = false := by simp; omega
              have HP2 : Hid (∀ i, i < k + 1 → 48 ≤ rdB s.data.toList i ∧ rdB s.data.toList i ≤ 57) := Lib.hid (fun i hi => by
                by_cases c : i < k
                · exact HP.out i c
                · obtain rfl : i = k := by omega
                  rw [HBB.out]; omega)
              clear HBB HP HAT HLT H15 HZ
              go_wp2_with fail
              go_roundw
              case rel => exact ⟨k + 1, by omega, by go_num, HP2.out, by first | rfl | trivial⟩
              case measure => simp [intOf]; omega
        · have hd : decide ((k : Int) < 14) = false := by simp; omega
          obtain rfl : k = 14 := by omega
          have HT := Lib.hid (isTx_good s H15.out HZ.out HP.out)
          clear HP HAT HLT H15 HZ h14
          have HA : Hid (atS s = if timV (bsF 38 0 253402300799 (numT s)) = numT s then ((bsF 38 0 253402300799 (numT s) : Nat) : Int) else -1) := Lib.hid (if_pos HT.out)
          obtain ⟨v, hv⟩ : ∃ v, numT s = v := ⟨_, rfl⟩
          have HV := Lib.hid hv
          rw [hv] at HA
          clear hv
          obtain ⟨R, hR⟩ : ∃ R, bsF 38 0 253402300799 v = R := ⟨_, rfl⟩
          rw [hR] at HA
          have HR := Lib.hid hR
          clear hR
          go_wp2_with fail
          go_loopw [4, 5, 6, 7, 8] (fun lv hv _ _ _ wr => ∃ (f low high : Nat), low ≤ high ∧ high ≤ 253402300799 ∧ high - low < 2 ^ f ∧ Hid (bsF f low high v = R) ∧ lv = .int .i64 (low : Int) ∧ hv = .int .i64 (high : Int) ∧ Below w.heap.size w wr) (fun lv hv _ _ _ _ => (intOf hv - intOf lv).toNat)
          case atStart => exact ⟨38, 0, 253402300799, by omega, by omega, by decide, HR, rfl, rfl, hb⟩
          case round =>
            clear hb
            obtain ⟨f, low, high, hlh, hh, hf, HB, rfl, rfl, hb⟩ := hrel
            by_cases hlt2 : low < high
            · have hd2 : decide ((low : Int) < (high : Int)) = true := by simp; omega
              obtain ⟨mid, hmid⟩ : ∃ mid, mid = (low + high) / 2 := ⟨_, rfl⟩
              have hm1 : ((low : Int) + (high : Int)) / 2 = (mid : Int) := by omega
              have hmle : mid ≤ 253402300799 := by omega
              obtain ⟨g, rfl⟩ : ∃ g, f = g + 1 := ⟨f - 1, by
                cases f with
                | zero => simp at hf; omega
                | succ g => omega⟩
              have CT := Lib.hid (fun W => rTime_any (mid : Int) W (by omega) (by omega))
              rw [(tim_nat mid hmle).1, (tim_nat mid hmle).2] at CT
              have HLS := Lib.hid (tx_less mid s hmle HT.out)
              rw [HV.out] at HLS
              have HBS : Hid ((if timV mid < v then bsF g (mid + 1) high v else bsF g low mid v) = R) := Lib.hid (by
                have := HB.out
                rw [bsF, if_pos hlt2, ← hmid] at this
                exact this)
              have hpow : (2 : Nat) ^ (g + 1) = 2 ^ g * 2 := Nat.pow_succ ..
              have hf1 : high - (mid + 1) < 2 ^ g := by omega
              have hf2 : mid - low < 2 ^ g := by omega
              have hml : low ≤ mid := by omega
              have hmh : mid < high := by omega
              obtain ⟨tb, htb⟩ : ∃ tb, timB mid = tb := ⟨_, rfl⟩
              rw [htb, ← Lib.toList_data, ← Lib.toList_data] at HLS
              rw [htb] at CT
              clear hmid htb HB hpow hf
              by_cases c : timV mid < v
              · have hls : Op.bytesLess tb.toList s.toList = true := by rw [HLS.out]; exact decide_eq_true c
                have HB2 : Hid (bsF g (mid + 1) high v = R) := Lib.hid (by have := HBS.out; rwa [if_pos c] at this)
                clear HBS HLS c
                go_wp2_with fail
                refine (CT.out _).mono ?_
                rintro ee W3 ⟨rfl, bk⟩
                replace hb := hb.trans (bk.mono hb.size)
                clear bk CT
                go_wp2_with fail
                go_roundw
                case rel =>
                  refine ⟨_, _, _, _, _, _, _, _, _, _, _, _, _, _, _, _, _, _, _, _, _, _, _, ?_, rfl⟩
                  exact ⟨g, mid + 1, high, by omega, hh, hf1, HB2, by first | (congr 1; unfold wrap64; omega) | go_num, rfl, hb⟩
                case measure => simp [intOf]; (try unfold wrap64); omega
              · have hls : Op.bytesLess tb.toList s.toList = false := by rw [HLS.out]; exact decide_eq_false c
                have HB2 : Hid (bsF g low mid v = R) := Lib.hid (by have := HBS.out; rwa [if_neg c] at this)
                clear HBS HLS c
                go_wp2_with fail
                refine (CT.out _).mono ?_
                rintro ee W3 ⟨rfl, bk⟩
                replace hb := hb.trans (bk.mono hb.size)
                clear bk CT
                go_wp2_with fail
                go_roundw
                case rel =>
                  refine ⟨_, _, _, _, _, _, _, _, _, _, _, _, _, _, _, _, _, _, _, _, _, _, _, ?_, rfl⟩
                  exact ⟨g, low, mid, hml, by omega, hf2, HB2, rfl, rfl, hb⟩
                case measure => simp [intOf]; (try unfold wrap64); omega
            · have hd2 : decide ((low : Int) < (high : Int)) = false := by simp; omega
              have HRL : Hid (R = low) := Lib.hid (by
                have := HB.out
                cases f with
                | zero => exact this.symm
                | succ g => rw [bsF, if_neg hlt2] at this; exact this.symm)
              have hle : low ≤ 253402300799 := by omega
              have CT := Lib.hid (fun W => rTime_any (low : Int) W (by omega) (by omega))
              rw [(tim_nat low hle).1, (tim_nat low hle).2] at CT
              have HEQ := Lib.hid (tx_eq low s hle HT.out)
              rw [HV.out] at HEQ
              obtain ⟨tb, htb⟩ : ∃ tb, timB low = tb := ⟨_, rfl⟩
              rw [htb] at HEQ CT
              clear htb HB
              by_cases c : timV low = v
              · have hts := HEQ.out.2 c
                have HAS : Hid (atS s = (low : Int)) := Lib.hid (by rw [HA.out, HRL.out, if_pos c])
                have hne : (tb.toList == s.toList) = true := by rw [hts]; simp
                clear c HEQ HA hts
                go_wp2_with fail
                refine (CT.out _).mono ?_
                rintro ee W3 ⟨rfl, bk⟩
                replace hb := hb.trans (bk.mono hb.size)
                clear bk CT
                go_wp2_with fail
                go_ret
                exact ⟨by rw [HAS.out]; rfl, hb⟩
              · have HAS : Hid (atS s = -1) := Lib.hid (by rw [HA.out, HRL.out, if_neg c])
                have hne : (tb.toList == s.toList) = false := by
                  rw [beq_eq_false_iff_ne]
                  intro e
                  refine c (HEQ.out.1 ?_)
                  rw [Lib.toList_data, Lib.toList_data] at e
                  exact ByteArray.ext (Array.toList_inj.1 e)
                clear c HEQ HA
                go_wp2_with fail
                refine (CT.out _).mono ?_
                rintro ee W3 ⟨rfl, bk⟩
                replace hb := hb.trans (bk.mono hb.size)
                clear bk CT
                go_wp2_with fail
                go_ret
                exact ⟨by rw [HAS.out]; rfl, hb⟩
    · have dz : ((rdB s.data.toList 14 : Int) != 90) = true := by simp; omega
      have HF : Hid (atS s = -1) := Lib.hid (by rw [atS, isTx_z s hz]; rfl)
      generalize rdB s.data.toList 14 = z at t14 b14 dz
      clear hz h15
      go_enter Tryz.func79, Tryz.ntmps79
      go_wp2_with fail
      go_ret
      exact ⟨by rw [HF.out]; rfl, hb⟩
  · have d15 : ((s.size : Int) != 15) = true := by simp; omega
    have HF : Hid (atS s = -1) := Lib.hid (by rw [atS, isTx_size s h15]; rfl)
    clear h15
    go_enter Tryz.func79, Tryz.ntmps79
    go_wp2_with fail
    go_ret
    exact ⟨by rw [HF.out]; rfl, hb⟩
end

section
open Go.RowKit Go.Sort
set_option maxRecDepth 100000
set_option linter.unusedSimpArgs false
set_option linter.unusedVariables false

theorem rThing_any (tag : Int) (b : ByteArray) (w : World) (h0 : -9223372036854775808 ≤ tag) (h1 : tag ≤ 9223372036854775807) : Calls Tryz.prog 63 #[.int .i64 tag, .string b] w fun e w' => e = .returned (.string (wrX tag b)) ∧ Below w.heap.size w w' := by
  have hb := Below.refl w.heap.size w
  have CW := Lib.hid (fun W => rWrite_any tag b W h0 h1)
  generalize wrX tag b = x at *
  generalize wrE tag b = q at *
  clear h0 h1
  go_enter Tryz.func63, Tryz.ntmps63
  go_wp2_with fail
  refine (CW.out w).mono ?_
  rintro e W1 ⟨rfl, bk⟩
  replace hb := hb.trans (bk.mono hb.size)
  clear bk
  go_wp2_with fail
  go_ret
  exact ⟨rfl, hb⟩
theorem four_ints (W : World) (a b c d : Int) : IntsAt (W.alloc (.cells #[.int .i64 a, .int .i64 b, .int .i64 c, .int .i64 d] 3)) (some ⟨W.heap.size, 0, none⟩) [a, b, c, d] := fun j hj => ⟨W.heap.size, 0, rfl, by
  rw [Nat.zero_add, cell_of_row _ W.heap.size j _ 3 (0, 0) (blk_new W _)]
  match j, hj with
  | 0, _ => rfl
  | 1, _ => rfl
  | 2, _ => rfl
  | 3, _ => rfl
  | j + 4, hj => simp at hj; omega⟩
theorem four_bounds (a b c d : Int) (ha : 0 ≤ a ∧ a ≤ 1000) (hb : 0 ≤ b ∧ b ≤ 1000) (hc : 0 ≤ c ∧ c ≤ 1000) (hd : 0 ≤ d ∧ d ≤ 1000) (k : Nat) : (-9223372036854775808 : Int) ≤ [a, b, c, d].getD k 0 ∧ [a, b, c, d].getD k 0 ≤ 9223372036854775807 := by
  match k with
  | 0 => simp; omega
  | 1 => simp; omega
  | 2 => simp; omega
  | 3 => simp; omega
  | k + 4 => simp
theorem rAlg_any (w : World) : Calls Tryz.prog 61 #[] w fun e w' => e = .returned (.string algB) ∧ Below w.heap.size w w' := by
  have hb := Below.refl w.heap.size w
  have C2 := Lib.hid (fun ao (W : World) (hI : IntsAt W ao [1, 3, 101, 112]) => rOid_any ao 4 4 [1, 3, 101, 112] W rfl (by decide) (four_bounds 1 3 101 112 (by decide) (by decide) (by decide) (by decide)) hI)
  have CT := Lib.hid (fun W => rThing_any 48 (oidX [1, 3, 101, 112]) W (by decide) (by decide))
  rw [show wrX 48 (oidX [1, 3, 101, 112]) = algB from rfl] at CT
  have HA : Hid (algB = algB) := Lib.hid rfl
  generalize algB = al at *
  generalize oidX [1, 3, 101, 112] = ob at *
  generalize oidErr [1, 3, 101, 112] = oe at *
  have HIN := four_ints w 1 3 101 112
  have bn := below_new w (.cells #[.int .i64 1, .int .i64 3, .int .i64 101, .int .i64 112] 3)
  go_enter Tryz.func61, Tryz.ntmps61
  go_wp2_with fail
  refine (C2.out _ _ HIN).mono ?_
  rintro e W2 ⟨rfl, bk⟩
  replace hb := bn.trans (bk.mono bn.size)
  clear bk bn HIN C2
  go_wp2_with fail
  refine (CT.out _).mono ?_
  rintro e W3 ⟨rfl, bk⟩
  replace hb := hb.trans (bk.mono hb.size)
  clear bk
  go_wp2_with fail
  go_ret
  exact ⟨rfl, hb⟩
theorem rNamed_any (nm : ByteArray) (w : World) (hn : nm.size ≤ 1000000000) : Calls Tryz.prog 62 #[.string nm] w fun e w' => e = .returned (.string (nameB nm)) ∧ Below w.heap.size w w' := by
  have hb := Below.refl w.heap.size w
  have C2 := Lib.hid (fun ao (W : World) (hI : IntsAt W ao [2, 5, 4, 3]) => rOid_any ao 4 4 [2, 5, 4, 3] W rfl (by decide) (four_bounds 2 5 4 3 (by decide) (by decide) (by decide) (by decide)) hI)
  have T1 := Lib.hid (fun W => rThing_any 12 nm W (by decide) (by decide))
  have T2 := Lib.hid (fun W => rThing_any 48 (oidX [2, 5, 4, 3] ++ wrX 12 nm) W (by decide) (by decide))
  have T3 := Lib.hid (fun W => rThing_any 49 (wrX 48 (oidX [2, 5, 4, 3] ++ wrX 12 nm)) W (by decide) (by decide))
  have T4 := Lib.hid (fun W => rThing_any 48 (wrX 49 (wrX 48 (oidX [2, 5, 4, 3] ++ wrX 12 nm))) W (by decide) (by decide))
  rw [show wrX 48 (wrX 49 (wrX 48 (oidX [2, 5, 4, 3] ++ wrX 12 nm))) = nameB nm from rfl] at T4
  have h1 := wr_le 12 nm
  have h2 : (oidX [2, 5, 4, 3]).size = 5 := by decide
  have hsum : (oidX [2, 5, 4, 3]).size + (wrX 12 nm).size ≤ 9223372036854775807 := by omega
  generalize nameB nm = nb at *
  generalize wrX 49 (wrX 48 (oidX [2, 5, 4, 3] ++ wrX 12 nm)) = x3 at *
  generalize wrX 48 (oidX [2, 5, 4, 3] ++ wrX 12 nm) = x2 at *
  generalize wrX 12 nm = x1 at *
  generalize oidX [2, 5, 4, 3] = ob at *
  generalize oidErr [2, 5, 4, 3] = oe at *
  clear h1 h2 hn
  have HIN := four_ints w 2 5 4 3
  have bn := below_new w (.cells #[.int .i64 2, .int .i64 5, .int .i64 4, .int .i64 3] 3)
  go_enter Tryz.func62, Tryz.ntmps62
  go_wp2_with fail
  refine (C2.out _ _ HIN).mono ?_
  rintro e W2 ⟨rfl, bk⟩
  replace hb := bn.trans (bk.mono bn.size)
  clear bk bn HIN C2
  go_wp2_with fail
  refine (T1.out _).mono ?_
  rintro e W3 ⟨rfl, bk⟩
  replace hb := hb.trans (bk.mono hb.size)
  clear bk
  go_wp2_with fail
  refine (T2.out _).mono ?_
  rintro e W4 ⟨rfl, bk⟩
  replace hb := hb.trans (bk.mono hb.size)
  clear bk
  go_wp2_with fail
  refine (T3.out _).mono ?_
  rintro e W5 ⟨rfl, bk⟩
  replace hb := hb.trans (bk.mono hb.size)
  clear bk
  go_wp2_with fail
  refine (T4.out _).mono ?_
  rintro e W6 ⟨rfl, bk⟩
  replace hb := hb.trans (bk.mono hb.size)
  clear bk
  go_wp2_with fail
  go_ret
  exact ⟨rfl, hb⟩
theorem rWhole_any (inn sig : ByteArray) (w : World) (hn : inn.size ≤ 1000000000) (hs : sig.size ≤ 1000000000) : Calls Tryz.prog 37 #[.string inn, .string sig] w fun e w' => e = .returned (.string (whoB inn sig)) ∧ Below w.heap.size w w' := by
  have hb := Below.refl w.heap.size w
  have CA := Lib.hid rAlg_any
  have T1 := Lib.hid (fun W => rThing_any 3 (zeroB ++ sig) W (by decide) (by decide))
  have T2 := Lib.hid (fun W => rThing_any 48 (inn ++ algB ++ wrX 3 (zeroB ++ sig)) W (by decide) (by decide))
  rw [show wrX 48 (inn ++ algB ++ wrX 3 (zeroB ++ sig)) = whoB inn sig from rfl] at T2
  have h1 := wr_le 3 (zeroB ++ sig); have h2 := zeroB_size sig
  have h3 : algB.size = 7 := by rw [algB_eq]; rfl
  have k1 : inn.size + algB.size ≤ 9223372036854775807 := by omega
  have k2 : 1 + sig.size ≤ 9223372036854775807 := by omega
  have k3 : inn.size + algB.size + (wrX 3 (zeroB ++ sig)).size ≤ 9223372036854775807 := by omega
  rw [show zeroB = (⟨#[0]⟩ : ByteArray) from rfl] at *
  generalize whoB inn sig = wb at *
  generalize wrX 3 (⟨#[0]⟩ ++ sig) = x1 at *
  generalize algB = al at *
  clear h1 h2 h3 hn hs
  go_enter Tryz.func37, Tryz.ntmps37
  go_wp2_with fail
  refine (CA.out _).mono ?_
  rintro e W2 ⟨rfl, bk⟩
  replace hb := hb.trans (bk.mono hb.size)
  clear bk
  go_wp2_with fail
  refine (T1.out _).mono ?_
  rintro e W3 ⟨rfl, bk⟩
  replace hb := hb.trans (bk.mono hb.size)
  clear bk
  go_wp2_with fail
  refine (T2.out _).mono ?_
  rintro e W4 ⟨rfl, bk⟩
  replace hb := hb.trans (bk.mono hb.size)
  clear bk
  go_wp2_with fail
  go_ret
  exact ⟨rfl, hb⟩
theorem rIn_any (s : ByteArray) (tag : Int) (w : World) (hs : s.size ≤ 1000000000) : Calls Tryz.prog 77 #[.string s, .int .i64 tag] w fun e w' => e = .returned (.tuple #[.string (inT s tag).1, .string (inT s tag).2]) ∧ Below w.heap.size w w' := by
  have hb := Below.refl w.heap.size w
  have CR := Lib.hid (fun W => rRead_any s W hs)
  by_cases c1 : rdErr s = 0
  · have d1 : (rdErr s != 0) = false := by simp; exact c1
    by_cases c2 : rdTag s = tag
    · have d2 : (rdTag s != tag) = false := by simp; exact c2
      have HI : Hid (inT s tag = (rdBody s, rdRest s)) := Lib.hid (if_pos ⟨c1, c2⟩)
      generalize rdErr s = q at *
      generalize rdTag s = t at *
      generalize rdBody s = bd at *
      generalize rdRest s = rs at *
      clear c1 c2 hs
      go_enter Tryz.func77, Tryz.ntmps77
      go_wp2_with fail
      refine (CR.out _).mono ?_
      rintro e W2 ⟨rfl, bk⟩
      replace hb := hb.trans (bk.mono hb.size)
      clear bk
      go_wp2_with fail
      go_ret2
      exact ⟨by rw [HI.out]; rfl, hb⟩
    · have d2 : (rdTag s != tag) = true := by simp; exact c2
      have HI : Hid (inT s tag = (emptyB, emptyB)) := Lib.hid (if_neg (fun h => c2 h.2))
      generalize rdErr s = q at *
      generalize rdTag s = t at *
      generalize rdBody s = bd at *
      generalize rdRest s = rs at *
      clear c1 c2 hs
      go_enter Tryz.func77, Tryz.ntmps77
      go_wp2_with fail
      refine (CR.out _).mono ?_
      rintro e W2 ⟨rfl, bk⟩
      replace hb := hb.trans (bk.mono hb.size)
      clear bk
      go_wp2_with fail
      go_ret2
      exact ⟨by rw [HI.out]; rfl, hb⟩
  · have d1 : (rdErr s != 0) = true := by simp; exact c1
    have HI : Hid (inT s tag = (emptyB, emptyB)) := Lib.hid (if_neg (fun h => c1 h.1))
    generalize rdErr s = q at *
    generalize rdTag s = t at *
    generalize rdBody s = bd at *
    generalize rdRest s = rs at *
    clear c1 hs
    go_enter Tryz.func77, Tryz.ntmps77
    go_wp2_with fail
    refine (CR.out _).mono ?_
    rintro e W2 ⟨rfl, bk⟩
    replace hb := hb.trans (bk.mono hb.size)
    clear bk
    go_wp2_with fail
    go_ret2
    exact ⟨by rw [HI.out]; rfl, hb⟩
end

section
open Go.RowKit Go.Sort
set_option maxRecDepth 100000
set_option linter.unusedSimpArgs false
set_option linter.unusedVariables false

/-- A certificate's cells. -/
def cerL (c : CertF) : Array Value := #[.int .i64 c.ser, .string c.nm, .int .i64 c.fr, .int .i64 c.to, .string c.key]
theorem cer_cells {W : World} {g : Nat} {t : TypeId} {sr : Int} {b : ByteArray} {d e : Int} {f : ByteArray} (h : W.heap[g]? = some (.cells #[.int .i64 sr, .string b, .int .i64 d, .int .i64 e, .string f] t)) :
    W.cell? ⟨g, 0, none⟩ = some (.int .i64 sr) ∧ W.cell? ⟨g, 1, none⟩ = some (.string b) ∧ W.cell? ⟨g, 2, none⟩ = some (.int .i64 d) ∧ W.cell? ⟨g, 3, none⟩ = some (.int .i64 e) ∧ W.cell? ⟨g, 4, none⟩ = some (.string f) := by
  refine ⟨?_, ?_, ?_, ?_, ?_⟩ <;> (rw [cell_of_row W g _ _ t (0, 0) h]; rfl)
set_option maxHeartbeats 8000000 in
theorem rRight_any (sr : Int) (b : ByteArray) (d e : Int) (f : ByteArray) (w : World) (hs : b.size ≤ 1000000000) : Calls Tryz.prog 33 #[.agg #[.int .i64 sr, .string b, .int .i64 d, .int .i64 e, .string f]] w fun ee w' => ee = .returned (.bool (rightC ⟨sr, b, d, e, f⟩)) ∧ Below w.heap.size w w' := by
  have CN := Lib.hid (fun W => rIsName_any b W hs)
  have CF := Lib.hid (fun W => risTime_any d W)
  have CT := Lib.hid (fun W => risTime_any e W)
  have HR : Hid (rightC ⟨sr, b, d, e, f⟩ = (decide (1 ≤ sr) && isNm b && isTm d && isTm e && decide (d ≤ e))) := Lib.hid rfl
  clear hs
  by_cases h1 : 1 ≤ sr
  · have d1 : decide (1 ≤ sr) = true := decide_eq_true h1
    cases hn : isNm b with
    | true =>
      rw [hn] at CN
      cases hf : isTm d with
      | true =>
        rw [hf] at CF
        cases ht : isTm e with
        | true =>
          rw [ht] at CT
          by_cases h2 : d ≤ e
          · have d2 : decide (d ≤ e) = true := decide_eq_true h2
            have HV : Hid (rightC ⟨sr, b, d, e, f⟩ = true) := Lib.hid (by rw [HR.out]; simp [d1, hn, hf, ht, d2])
            clear HR hn hf ht h1 h2
            have HG := Lib.hid (blk_new w (.cells #[.int .i64 sr, .string b, .int .i64 d, .int .i64 e, .string f] 28))
            have hb := below_new w (.cells #[.int .i64 sr, .string b, .int .i64 d, .int .i64 e, .string f] 28)
            obtain ⟨c0, c1, c2, c3, c4⟩ := cer_cells HG.out
            go_enter Tryz.func33, Tryz.ntmps33
            go_wp2_with fail
            generalize (w.alloc _) = W0 at *
            generalize hgg : w.heap.size = g at *
            have HGG := Lib.hid hgg
            clear hgg
            refine (CN.out _).mono ?_
            rintro ee V0 ⟨rfl, bk⟩
            replace hb := hb.trans (bk.mono (Nat.le_of_lt (blk_lt HG.out)))
            replace HG := Lib.hid (blk_below bk (blk_lt HG.out) HG.out)
            clear bk CN c0 c1 c2 c3 c4
            obtain ⟨c0, c1, c2, c3, c4⟩ := cer_cells HG.out
            go_wp2_with fail
            refine (CF.out _).mono ?_
            rintro ee V1 ⟨rfl, bk⟩
            replace hb := hb.trans (bk.mono (Nat.le_of_lt (blk_lt HG.out)))
            replace HG := Lib.hid (blk_below bk (blk_lt HG.out) HG.out)
            clear bk CF c0 c1 c2 c3 c4
            obtain ⟨c0, c1, c2, c3, c4⟩ := cer_cells HG.out
            go_wp2_with fail
            refine (CT.out _).mono ?_
            rintro ee V2 ⟨rfl, bk⟩
            replace hb := hb.trans (bk.mono (Nat.le_of_lt (blk_lt HG.out)))
            replace HG := Lib.hid (blk_below bk (blk_lt HG.out) HG.out)
            clear bk CT c0 c1 c2 c3 c4
            obtain ⟨c0, c1, c2, c3, c4⟩ := cer_cells HG.out
            go_wp2_with fail
            go_ret
            exact ⟨by rw [HV.out]; rfl, by first | exact hb | (rw [HGG.out]; exact hb)⟩
          · have d2 : decide (d ≤ e) = false := decide_eq_false h2
            have HV : Hid (rightC ⟨sr, b, d, e, f⟩ = false) := Lib.hid (by rw [HR.out]; simp [d1, hn, hf, ht, d2])
            clear HR hn hf ht h1 h2
            have HG := Lib.hid (blk_new w (.cells #[.int .i64 sr, .string b, .int .i64 d, .int .i64 e, .string f] 28))
            have hb := below_new w (.cells #[.int .i64 sr, .string b, .int .i64 d, .int .i64 e, .string f] 28)
            obtain ⟨c0, c1, c2, c3, c4⟩ := cer_cells HG.out
            go_enter Tryz.func33, Tryz.ntmps33
            go_wp2_with fail
            generalize (w.alloc _) = W0 at *
            generalize hgg : w.heap.size = g at *
            have HGG := Lib.hid hgg
            clear hgg
            refine (CN.out _).mono ?_
            rintro ee V0 ⟨rfl, bk⟩
            replace hb := hb.trans (bk.mono (Nat.le_of_lt (blk_lt HG.out)))
            replace HG := Lib.hid (blk_below bk (blk_lt HG.out) HG.out)
            clear bk CN c0 c1 c2 c3 c4
            obtain ⟨c0, c1, c2, c3, c4⟩ := cer_cells HG.out
            go_wp2_with fail
            refine (CF.out _).mono ?_
            rintro ee V1 ⟨rfl, bk⟩
            replace hb := hb.trans (bk.mono (Nat.le_of_lt (blk_lt HG.out)))
            replace HG := Lib.hid (blk_below bk (blk_lt HG.out) HG.out)
            clear bk CF c0 c1 c2 c3 c4
            obtain ⟨c0, c1, c2, c3, c4⟩ := cer_cells HG.out
            go_wp2_with fail
            refine (CT.out _).mono ?_
            rintro ee V2 ⟨rfl, bk⟩
            replace hb := hb.trans (bk.mono (Nat.le_of_lt (blk_lt HG.out)))
            replace HG := Lib.hid (blk_below bk (blk_lt HG.out) HG.out)
            clear bk CT c0 c1 c2 c3 c4
            obtain ⟨c0, c1, c2, c3, c4⟩ := cer_cells HG.out
            go_wp2_with fail
            go_ret
            exact ⟨by rw [HV.out]; rfl, by first | exact hb | (rw [HGG.out]; exact hb)⟩
        | false =>
          rw [ht] at CT
          have HV : Hid (rightC ⟨sr, b, d, e, f⟩ = false) := Lib.hid (by rw [HR.out]; simp [d1, hn, hf, ht])
          clear HR hn hf ht h1
          have HG := Lib.hid (blk_new w (.cells #[.int .i64 sr, .string b, .int .i64 d, .int .i64 e, .string f] 28))
          have hb := below_new w (.cells #[.int .i64 sr, .string b, .int .i64 d, .int .i64 e, .string f] 28)
          obtain ⟨c0, c1, c2, c3, c4⟩ := cer_cells HG.out
          go_enter Tryz.func33, Tryz.ntmps33
          go_wp2_with fail
          generalize (w.alloc _) = W0 at *
          generalize hgg : w.heap.size = g at *
          have HGG := Lib.hid hgg
          clear hgg
          refine (CN.out _).mono ?_
          rintro ee V0 ⟨rfl, bk⟩
          replace hb := hb.trans (bk.mono (Nat.le_of_lt (blk_lt HG.out)))
          replace HG := Lib.hid (blk_below bk (blk_lt HG.out) HG.out)
          clear bk CN c0 c1 c2 c3 c4
          obtain ⟨c0, c1, c2, c3, c4⟩ := cer_cells HG.out
          go_wp2_with fail
          refine (CF.out _).mono ?_
          rintro ee V1 ⟨rfl, bk⟩
          replace hb := hb.trans (bk.mono (Nat.le_of_lt (blk_lt HG.out)))
          replace HG := Lib.hid (blk_below bk (blk_lt HG.out) HG.out)
          clear bk CF c0 c1 c2 c3 c4
          obtain ⟨c0, c1, c2, c3, c4⟩ := cer_cells HG.out
          go_wp2_with fail
          refine (CT.out _).mono ?_
          rintro ee V2 ⟨rfl, bk⟩
          replace hb := hb.trans (bk.mono (Nat.le_of_lt (blk_lt HG.out)))
          replace HG := Lib.hid (blk_below bk (blk_lt HG.out) HG.out)
          clear bk CT c0 c1 c2 c3 c4
          obtain ⟨c0, c1, c2, c3, c4⟩ := cer_cells HG.out
          go_wp2_with fail
          go_ret
          exact ⟨by rw [HV.out]; rfl, by first | exact hb | (rw [HGG.out]; exact hb)⟩
      | false =>
        rw [hf] at CF
        have HV : Hid (rightC ⟨sr, b, d, e, f⟩ = false) := Lib.hid (by rw [HR.out]; simp [d1, hn, hf])
        clear HR hn hf h1
        have HG := Lib.hid (blk_new w (.cells #[.int .i64 sr, .string b, .int .i64 d, .int .i64 e, .string f] 28))
        have hb := below_new w (.cells #[.int .i64 sr, .string b, .int .i64 d, .int .i64 e, .string f] 28)
        obtain ⟨c0, c1, c2, c3, c4⟩ := cer_cells HG.out
        go_enter Tryz.func33, Tryz.ntmps33
        go_wp2_with fail
        generalize (w.alloc _) = W0 at *
        generalize hgg : w.heap.size = g at *
        have HGG := Lib.hid hgg
        clear hgg
        refine (CN.out _).mono ?_
        rintro ee V0 ⟨rfl, bk⟩
        replace hb := hb.trans (bk.mono (Nat.le_of_lt (blk_lt HG.out)))
        replace HG := Lib.hid (blk_below bk (blk_lt HG.out) HG.out)
        clear bk CN c0 c1 c2 c3 c4
        obtain ⟨c0, c1, c2, c3, c4⟩ := cer_cells HG.out
        go_wp2_with fail
        refine (CF.out _).mono ?_
        rintro ee V1 ⟨rfl, bk⟩
        replace hb := hb.trans (bk.mono (Nat.le_of_lt (blk_lt HG.out)))
        replace HG := Lib.hid (blk_below bk (blk_lt HG.out) HG.out)
        clear bk CF c0 c1 c2 c3 c4
        obtain ⟨c0, c1, c2, c3, c4⟩ := cer_cells HG.out
        go_wp2_with fail
        go_ret
        exact ⟨by rw [HV.out]; rfl, by first | exact hb | (rw [HGG.out]; exact hb)⟩
    | false =>
      rw [hn] at CN
      have HV : Hid (rightC ⟨sr, b, d, e, f⟩ = false) := Lib.hid (by rw [HR.out]; simp [d1, hn])
      clear HR hn h1
      have HG := Lib.hid (blk_new w (.cells #[.int .i64 sr, .string b, .int .i64 d, .int .i64 e, .string f] 28))
      have hb := below_new w (.cells #[.int .i64 sr, .string b, .int .i64 d, .int .i64 e, .string f] 28)
      obtain ⟨c0, c1, c2, c3, c4⟩ := cer_cells HG.out
      go_enter Tryz.func33, Tryz.ntmps33
      go_wp2_with fail
      generalize (w.alloc _) = W0 at *
      generalize hgg : w.heap.size = g at *
      have HGG := Lib.hid hgg
      clear hgg
      refine (CN.out _).mono ?_
      rintro ee V0 ⟨rfl, bk⟩
      replace hb := hb.trans (bk.mono (Nat.le_of_lt (blk_lt HG.out)))
      replace HG := Lib.hid (blk_below bk (blk_lt HG.out) HG.out)
      clear bk CN c0 c1 c2 c3 c4
      obtain ⟨c0, c1, c2, c3, c4⟩ := cer_cells HG.out
      go_wp2_with fail
      go_ret
      exact ⟨by rw [HV.out]; rfl, by first | exact hb | (rw [HGG.out]; exact hb)⟩
  · have d1 : decide (1 ≤ sr) = false := decide_eq_false h1
    have HV : Hid (rightC ⟨sr, b, d, e, f⟩ = false) := Lib.hid (by rw [HR.out]; simp [d1])
    clear HR h1
    have HG := Lib.hid (blk_new w (.cells #[.int .i64 sr, .string b, .int .i64 d, .int .i64 e, .string f] 28))
    have hb := below_new w (.cells #[.int .i64 sr, .string b, .int .i64 d, .int .i64 e, .string f] 28)
    obtain ⟨c0, c1, c2, c3, c4⟩ := cer_cells HG.out
    go_enter Tryz.func33, Tryz.ntmps33
    go_wp2_with fail
    generalize (w.alloc _) = W0 at *
    generalize hgg : w.heap.size = g at *
    have HGG := Lib.hid hgg
    clear hgg
    go_ret
    exact ⟨by rw [HV.out]; rfl, by first | exact hb | (rw [HGG.out]; exact hb)⟩
set_option maxHeartbeats 16000000 in
theorem rInner_any (sr : Int) (b : ByteArray) (d e : Int) (f : ByteArray) (w : World) (ha0 : -9223372036854775808 ≤ sr) (ha1 : sr ≤ 9223372036854775807) (hd0 : -9223372036854775808 ≤ d) (hd1 : d ≤ 9223372036854775807) (he0 : -9223372036854775808 ≤ e) (he1 : e ≤ 9223372036854775807) (hs : b.size ≤ 1000000) (hf : f.size ≤ 1000000) :
    Calls Tryz.prog 35 #[.agg #[.int .i64 sr, .string b, .int .i64 d, .int .i64 e, .string f]] w fun ee w' => ee = .returned (.string (innB ⟨sr, b, d, e, f⟩)) ∧ Below w.heap.size w w' := by
  have CA := Lib.hid rAlg_any
  have CN := Lib.hid (fun W => rNamed_any b W (by omega))
  have CF := Lib.hid (fun W => rTime_any d W hd0 hd1)
  have CT := Lib.hid (fun W => rTime_any e W he0 he1)
  have CI := Lib.hid (fun W => rIntLoop_any sr W ha0 ha1)
  have C1 := Lib.hid (fun W => rThing_any 24 (timX d) W (by decide) (by decide))
  have C2 := Lib.hid (fun W => rThing_any 24 (timX e) W (by decide) (by decide))
  have C3 := Lib.hid (fun W => rThing_any 48 (wrX 24 (timX d) ++ wrX 24 (timX e)) W (by decide) (by decide))
  have C4 := Lib.hid (fun W => rThing_any 3 (zeroB ++ f) W (by decide) (by decide))
  have C5 := Lib.hid (fun W => rThing_any 48 (algB ++ wrX 3 (zeroB ++ f)) W (by decide) (by decide))
  have C6 := Lib.hid (fun W => rThing_any 48 (wrX 2 (intB sr) ++ algB ++ nameB b ++ valB ⟨sr, b, d, e, f⟩ ++ nameB b ++ keyB ⟨sr, b, d, e, f⟩) W (by decide) (by decide))
  rw [show wrX 48 (wrX 24 (timX d) ++ wrX 24 (timX e)) = valB ⟨sr, b, d, e, f⟩ from rfl] at C3
  rw [show wrX 48 (algB ++ wrX 3 (zeroB ++ f)) = keyB ⟨sr, b, d, e, f⟩ from rfl] at C5
  rw [show wrX 48 (wrX 2 (intB sr) ++ algB ++ nameB b ++ valB ⟨sr, b, d, e, f⟩ ++ nameB b ++ keyB ⟨sr, b, d, e, f⟩) = innB ⟨sr, b, d, e, f⟩ from rfl] at C6
  obtain ⟨s1, s2, s3, s4, s5, s6, s7⟩ := sizes_cert ⟨sr, b, d, e, f⟩
  obtain ⟨n1, n2, n3, n4⟩ := sizes_name b
  have t1 := timX_size d; have t2 := timX_size e
  have w1 := wr_le 24 (timX d); have w2 := wr_le 24 (timX e); have w3 := wr_le 2 (intB sr); have w4 := intB_size sr
  have w5 := wr_le 3 (zeroB ++ f); have w6 := zeroB_size f
  have ha7 : algB.size = 7 := by rw [algB_eq]; rfl
  simp only at s1 s2 s3 s4 s5 s6 s7
  have k1 : (wrX 2 (intB sr)).size + algB.size ≤ 9223372036854775807 := by omega
  have k2 : (wrX 2 (intB sr)).size + algB.size + (nameB b).size ≤ 9223372036854775807 := by omega
  have k3 : (wrX 24 (timX d)).size + (wrX 24 (timX e)).size ≤ 9223372036854775807 := by omega
  have k4 : (wrX 2 (intB sr)).size + algB.size + (nameB b).size + (valB ⟨sr, b, d, e, f⟩).size ≤ 9223372036854775807 := by omega
  have k5 : (wrX 2 (intB sr)).size + algB.size + (nameB b).size + (valB ⟨sr, b, d, e, f⟩).size + (nameB b).size ≤ 9223372036854775807 := by omega
  have k6 : 1 + f.size ≤ 9223372036854775807 := by omega
  have k7 : algB.size + (wrX 3 (zeroB ++ f)).size ≤ 9223372036854775807 := by omega
  have k8 : (wrX 2 (intB sr)).size + algB.size + (nameB b).size + (valB ⟨sr, b, d, e, f⟩).size + (nameB b).size + (keyB ⟨sr, b, d, e, f⟩).size ≤ 9223372036854775807 := by omega
  clear s1 s2 s3 s4 s5 s6 s7 n1 n2 n3 n4 t1 t2 w1 w2 w3 w4 w5 w6 ha7 ha0 ha1 hd0 hd1 he0 he1 hs hf
  have HZ : Hid (zeroB = ⟨#[0]⟩) := Lib.hid rfl
  rw [show zeroB = (⟨#[0]⟩ : ByteArray) from rfl] at *
  generalize innB ⟨sr, b, d, e, f⟩ = io at *
  generalize keyB ⟨sr, b, d, e, f⟩ = kb at *
  generalize valB ⟨sr, b, d, e, f⟩ = vb at *
  generalize wrX 3 (⟨#[0]⟩ ++ f) = xk at *
  generalize wrX 24 (timX d) = wf at *
  generalize wrX 24 (timX e) = wt at *
  generalize timX d = tf at *
  generalize timX e = tt at *
  generalize timE d = qf at *
  generalize timE e = qt at *
  generalize wrX 2 (intB sr) = ib at *
  generalize nameB b = nb at *
  generalize algB = al at *
  have HG := Lib.hid (blk_new w (.cells #[.int .i64 sr, .string b, .int .i64 d, .int .i64 e, .string f] 28))
  have hb := below_new w (.cells #[.int .i64 sr, .string b, .int .i64 d, .int .i64 e, .string f] 28)
  obtain ⟨c0, c1, c2, c3, c4⟩ := cer_cells HG.out
  go_enter Tryz.func35, Tryz.ntmps35
  go_wp2_with fail
  generalize (w.alloc _) = W0 at *
  generalize hgg : w.heap.size = g at *
  have HGG := Lib.hid hgg
  clear hgg
  refine (CA.out _).mono ?_
  rintro ee V0 ⟨rfl, bk⟩
  replace hb := hb.trans (bk.mono (Nat.le_of_lt (blk_lt HG.out)))
  replace HG := Lib.hid (blk_below bk (blk_lt HG.out) HG.out)
  clear bk CA c0 c1 c2 c3 c4
  obtain ⟨c0, c1, c2, c3, c4⟩ := cer_cells HG.out
  go_wp2_with fail
  refine (CN.out _).mono ?_
  rintro ee V1 ⟨rfl, bk⟩
  replace hb := hb.trans (bk.mono (Nat.le_of_lt (blk_lt HG.out)))
  replace HG := Lib.hid (blk_below bk (blk_lt HG.out) HG.out)
  clear bk CN c0 c1 c2 c3 c4
  obtain ⟨c0, c1, c2, c3, c4⟩ := cer_cells HG.out
  go_wp2_with fail
  refine (CF.out _).mono ?_
  rintro ee V2 ⟨rfl, bk⟩
  replace hb := hb.trans (bk.mono (Nat.le_of_lt (blk_lt HG.out)))
  replace HG := Lib.hid (blk_below bk (blk_lt HG.out) HG.out)
  clear bk CF c0 c1 c2 c3 c4
  obtain ⟨c0, c1, c2, c3, c4⟩ := cer_cells HG.out
  go_wp2_with fail
  refine (CT.out _).mono ?_
  rintro ee V3 ⟨rfl, bk⟩
  replace hb := hb.trans (bk.mono (Nat.le_of_lt (blk_lt HG.out)))
  replace HG := Lib.hid (blk_below bk (blk_lt HG.out) HG.out)
  clear bk CT c0 c1 c2 c3 c4
  obtain ⟨c0, c1, c2, c3, c4⟩ := cer_cells HG.out
  go_wp2_with fail
  refine wp_region_told 25 50 [(Told.val (.pointer (some ⟨g, 0, none⟩)), [1]),
      (Told.val (.int .i64 sr), [25]),
      (Told.val (.string (ib)), [26]),
      (Told.val (.string (al)), [3]),
      (Told.val (.string (ib ++ al)), [27, 28]),
      (Told.val (.string (nb)), [4]),
      (Told.val (.string (ib ++ al ++ nb)), [29, 30]),
      (Told.val (.string (tf)), [5]),
      (Told.val (.string (wf)), [32]),
      (Told.val (.string (tt)), [7]),
      (Told.val (.string (wt)), [34]),
      (Told.val (.string (wf ++ wt)), [33, 35]),
      (Told.val (.string (vb)), [36]),
      (Told.val (.string (ib ++ al ++ nb ++ vb)), [31, 37]),
      (Told.val (.string (nb)), [4]),
      (Told.val (.string (ib ++ al ++ nb ++ vb ++ nb)), [38, 39]),
      (Told.val (.string (al)), [3]),
      (Told.val (.pointer (some ⟨g, 4, none⟩)), [1]),
      (Told.val (.string (f)), [42]),
      (Told.val (.string (⟨#[0]⟩ ++ f)), [43]),
      (Told.val (.string (xk)), [44]),
      (Told.val (.string (al ++ xk)), [41, 45]),
      (Told.val (.string (kb)), [46]),
      (Told.val (.string (ib ++ al ++ nb ++ vb ++ nb ++ kb)), [40, 47]),
      (Told.val (.string (io)), [48])]
    (by kernel_rfl) (by kernel_rfl) rfl ?_ ?_
  · simp only [List.take_succ_cons, List.take_zero, toldObl, and_true]
    refine And.intro ?_ (And.intro ?_ (And.intro ?_ (And.intro ?_ (And.intro ?_ (And.intro ?_ (And.intro ?_ (And.intro ?_ (And.intro ?_ (And.intro ?_ (And.intro ?_ (And.intro ?_ (And.intro ?_ (And.intro ?_ (And.intro ?_ (And.intro ?_ (And.intro ?_ (And.intro ?_ (And.intro ?_ (And.intro ?_ (And.intro ?_ (And.intro ?_ (And.intro ?_ (And.intro ?_ (?_))))))))))))))))))))))))
    · intro a w hb h
      have e0 : a.tmps.getD 1 undef = .pointer (some ⟨g, 0, none⟩) := h 1 (by simp)
      simp only [Array.getD_eq_getD_getElem?] at e0
      refine told_q ?_
      simp [go_sem, e0, sQuiet]
    · intro a w hb h
      have e0 : a.tmps.getD 25 undef = .pointer (some ⟨g, 0, none⟩) := h 25 (by simp)
      simp only [Array.getD_eq_getD_getElem?] at e0
      have hc := (hb.cell (block_lt_of_cell c0)).trans c0
      refine told_q ?_
      simp [go_sem, e0, sQuiet, hc]
    · intro a w hb h
      have e0 : a.tmps.getD 26 undef = .int .i64 sr := h 26 (by simp)
      simp only [Array.getD_eq_getD_getElem?] at e0
      refine told_q ?_
      simp [go_sem, e0, sQuiet]
      exact CI.out _
    · intro a w hb h
      have e0 : a.tmps.getD 3 undef = .string (al) := h 3 (by simp)
      simp only [Array.getD_eq_getD_getElem?] at e0
      refine told_q ?_
      simp [go_sem, e0, sQuiet]
    · intro a w hb h
      have e0 : a.tmps.getD 27 undef = .string (ib) := h 27 (by simp)
      have e1 : a.tmps.getD 28 undef = .string (al) := h 28 (by simp)
      simp only [Array.getD_eq_getD_getElem?] at e0 e1
      refine told_q ?_
      simp [go_sem, e0, e1, sQuiet, Nat.not_lt.2 k1]
    · intro a w hb h
      have e0 : a.tmps.getD 4 undef = .string (nb) := h 4 (by simp)
      simp only [Array.getD_eq_getD_getElem?] at e0
      refine told_q ?_
      simp [go_sem, e0, sQuiet]
    · intro a w hb h
      have e0 : a.tmps.getD 29 undef = .string (ib ++ al) := h 29 (by simp)
      have e1 : a.tmps.getD 30 undef = .string (nb) := h 30 (by simp)
      simp only [Array.getD_eq_getD_getElem?] at e0 e1
      refine told_q ?_
      simp [go_sem, e0, e1, sQuiet, Nat.not_lt.2 k2]
    · intro a w hb h
      have e0 : a.tmps.getD 5 undef = .string (tf) := h 5 (by simp)
      simp only [Array.getD_eq_getD_getElem?] at e0
      refine told_q ?_
      simp [go_sem, e0, sQuiet]
    · intro a w hb h
      have e0 : a.tmps.getD 32 undef = .string (tf) := h 32 (by simp)
      simp only [Array.getD_eq_getD_getElem?] at e0
      refine told_q ?_
      simp [go_sem, e0, sQuiet]
      exact C1.out _
    · intro a w hb h
      have e0 : a.tmps.getD 7 undef = .string (tt) := h 7 (by simp)
      simp only [Array.getD_eq_getD_getElem?] at e0
      refine told_q ?_
      simp [go_sem, e0, sQuiet]
    · intro a w hb h
      have e0 : a.tmps.getD 34 undef = .string (tt) := h 34 (by simp)
      simp only [Array.getD_eq_getD_getElem?] at e0
      refine told_q ?_
      simp [go_sem, e0, sQuiet]
      exact C2.out _
    · intro a w hb h
      have e0 : a.tmps.getD 33 undef = .string (wf) := h 33 (by simp)
      have e1 : a.tmps.getD 35 undef = .string (wt) := h 35 (by simp)
      simp only [Array.getD_eq_getD_getElem?] at e0 e1
      refine told_q ?_
      simp [go_sem, e0, e1, sQuiet, Nat.not_lt.2 k3]
    · intro a w hb h
      have e0 : a.tmps.getD 36 undef = .string (wf ++ wt) := h 36 (by simp)
      simp only [Array.getD_eq_getD_getElem?] at e0
      refine told_q ?_
      simp [go_sem, e0, sQuiet]
      exact C3.out _
    · intro a w hb h
      have e0 : a.tmps.getD 31 undef = .string (ib ++ al ++ nb) := h 31 (by simp)
      have e1 : a.tmps.getD 37 undef = .string (vb) := h 37 (by simp)
      simp only [Array.getD_eq_getD_getElem?] at e0 e1
      refine told_q ?_
      simp [go_sem, e0, e1, sQuiet, Nat.not_lt.2 k4]
    · intro a w hb h
      have e0 : a.tmps.getD 4 undef = .string (nb) := h 4 (by simp)
      simp only [Array.getD_eq_getD_getElem?] at e0
      refine told_q ?_
      simp [go_sem, e0, sQuiet]
    · intro a w hb h
      have e0 : a.tmps.getD 38 undef = .string (ib ++ al ++ nb ++ vb) := h 38 (by simp)
      have e1 : a.tmps.getD 39 undef = .string (nb) := h 39 (by simp)
      simp only [Array.getD_eq_getD_getElem?] at e0 e1
      refine told_q ?_
      simp [go_sem, e0, e1, sQuiet, Nat.not_lt.2 k5]
    · intro a w hb h
      have e0 : a.tmps.getD 3 undef = .string (al) := h 3 (by simp)
      simp only [Array.getD_eq_getD_getElem?] at e0
      refine told_q ?_
      simp [go_sem, e0, sQuiet]
    · intro a w hb h
      have e0 : a.tmps.getD 1 undef = .pointer (some ⟨g, 0, none⟩) := h 1 (by simp)
      simp only [Array.getD_eq_getD_getElem?] at e0
      refine told_q ?_
      simp [go_sem, e0, sQuiet]
    · intro a w hb h
      have e0 : a.tmps.getD 42 undef = .pointer (some ⟨g, 4, none⟩) := h 42 (by simp)
      simp only [Array.getD_eq_getD_getElem?] at e0
      have hc := (hb.cell (block_lt_of_cell c4)).trans c4
      refine told_q ?_
      simp [go_sem, e0, sQuiet, hc]
    · intro a w hb h
      have e0 : a.tmps.getD 43 undef = .string (f) := h 43 (by simp)
      simp only [Array.getD_eq_getD_getElem?] at e0
      refine told_q ?_
      simp [go_sem, e0, sQuiet, Nat.not_lt.2 k6]
    · intro a w hb h
      have e0 : a.tmps.getD 44 undef = .string (⟨#[0]⟩ ++ f) := h 44 (by simp)
      simp only [Array.getD_eq_getD_getElem?] at e0
      refine told_q ?_
      simp [go_sem, e0, sQuiet]
      exact C4.out _
    · intro a w hb h
      have e0 : a.tmps.getD 41 undef = .string (al) := h 41 (by simp)
      have e1 : a.tmps.getD 45 undef = .string (xk) := h 45 (by simp)
      simp only [Array.getD_eq_getD_getElem?] at e0 e1
      refine told_q ?_
      simp [go_sem, e0, e1, sQuiet, Nat.not_lt.2 k7]
    · intro a w hb h
      have e0 : a.tmps.getD 46 undef = .string (al ++ xk) := h 46 (by simp)
      simp only [Array.getD_eq_getD_getElem?] at e0
      refine told_q ?_
      simp [go_sem, e0, sQuiet]
      exact C5.out _
    · intro a w hb h
      have e0 : a.tmps.getD 40 undef = .string (ib ++ al ++ nb ++ vb ++ nb) := h 40 (by simp)
      have e1 : a.tmps.getD 47 undef = .string (kb) := h 47 (by simp)
      simp only [Array.getD_eq_getD_getElem?] at e0 e1
      refine told_q ?_
      simp [go_sem, e0, e1, sQuiet, Nat.not_lt.2 k8]
    · intro a w hb h
      have e0 : a.tmps.getD 48 undef = .string (ib ++ al ++ nb ++ vb ++ nb ++ kb) := h 48 (by simp)
      simp only [Array.getD_eq_getD_getElem?] at e0
      refine told_q ?_
      simp [go_sem, e0, sQuiet]
      exact C6.out _
  simp only [List.take_succ_cons, List.take_zero, List.drop_succ_cons, List.drop_zero, toldEnd, Act.put, List.setIfInBounds_toArray, List.set_cons_succ, List.set_cons_zero]
  rintro X bk v25 q25 v26 q26 v27 q27 v28 q28 v29 q29 v30 q30 v31 q31 v32 q32 v33 q33 v34 q34 v35 q35 v36 q36 v37 q37 v38 q38 v39 q39 v40 q40 v41 q41 v42 q42 v43 q43 v44 q44 v45 q45 v46 q46 v47 q47 v48 q48 v49 q49
  obtain rfl := q25.symm
  obtain rfl := q26.symm
  obtain rfl := q27.symm
  obtain rfl := q28.symm
  obtain rfl := q29.symm
  obtain rfl := q30.symm
  obtain rfl := q31.symm
  obtain rfl := q32.symm
  obtain rfl := q33.symm
  obtain rfl := q34.symm
  obtain rfl := q35.symm
  obtain rfl := q36.symm
  obtain rfl := q37.symm
  obtain rfl := q38.symm
  obtain rfl := q39.symm
  obtain rfl := q40.symm
  obtain rfl := q41.symm
  obtain rfl := q42.symm
  obtain rfl := q43.symm
  obtain rfl := q44.symm
  obtain rfl := q45.symm
  obtain rfl := q46.symm
  obtain rfl := q47.symm
  obtain rfl := q48.symm
  obtain rfl := q49.symm
  clear q25 q26 q27 q28 q29 q30 q31 q32 q33 q34 q35 q36 q37 q38 q39 q40 q41 q42 q43 q44 q45 q46 q47 q48 q49
  replace hb := hb.trans (bk.mono (Nat.le_of_lt (blk_lt HG.out)))
  clear bk c0 c1 c2 c3 c4
  go_wp2_with fail
  go_ret
  exact ⟨rfl, by first | exact hb | (rw [HGG.out]; exact hb)⟩
end

section
open Go.RowKit Go.Sort
set_option maxRecDepth 100000
set_option linter.unusedSimpArgs false
set_option linter.unusedVariables false

def cRow (a : Int) (b : ByteArray) (d e : Int) (f : ByteArray) : Array Value := #[.int .i64 a, .string b, .int .i64 d, .int .i64 e, .string f]
theorem infoCert : (Tryz.prog.info? 28).map (fun i => (i.zero, i.size)) = some (some (.agg (cRow 0 ⟨#[]⟩ 0 0 ⟨#[]⟩)), 5) := by kernel_rfl
theorem sizeCert (a : Int) (b : ByteArray) (d e : Int) (f : ByteArray) : (Tryz.prog.info? 28).map (·.size) = some (cRow a b d e f).size := by
  have h := infoCert
  cases hq : Tryz.prog.info? 28 with
  | none => rw [hq] at h; cases h
  | some i =>
    rw [hq] at h
    simp only [Option.map_some, Option.some.injEq, Prod.mk.injEq] at h ⊢
    rw [h.2]; rfl
theorem oneCert (a : Int) (b : ByteArray) (d e : Int) (f : ByteArray) : (cRow a b d e f).all (·.oneCell') = true := by simp [cRow, Value.oneCell']
theorem results_row_tmpC {P : Program} {fn : Func} {p u : Tmp} {ty : TypeId} (h : fn.results = #[.cell p ty, .tmp u]) (tmps : Array Value) (w : World) (g : Nat) (t : TypeId) (cs : Array Value) (fr : Nat × Nat) (d : TypeDesc)
    (hp : tmps.getD p undef = .pointer (some ⟨g, 0, none⟩)) (hg : w.heap[g]? = some (.cells cs t fr)) (hu : P.underlying ty = some d) (hd : (match d with | .struct _ | .array _ _ => true | _ => false) = true) (hi : (P.info? ty).map (·.size) = some cs.size) :
    (results fn tmps).run P w = .ok (.tuple #[.agg cs, tmps.getD u undef]) w := by
  have e1 := run_loadVar_row w g t ty cs fr d hg hu hd hi
  simp only [results, h]
  simp at hp
  simp [Sem.run_bind, Result.andThen, hp, asAddr, e1]
theorem cell_set {W : World} {g i : Nat} {v : Value} {cs : Array Value} {t : TypeId} (h : W.heap[g]? = some (.cells cs t)) : (W.setCell ⟨g, i, none⟩ v).heap[g]? = some (.cells (cs.setIfInBounds i v) t) := Go.heap_setCell_same _ _ _ _ _ _ h
set_option maxHeartbeats 16000000 in
theorem rParts_any (s : ByteArray) (w : World) (hs : s.size ≤ 1000) :
    Calls Tryz.prog 40 #[.string s] w fun e w' => e = .returned (.tuple #[.agg (cerL (parT s).1), .string (parT s).2]) ∧ Below w.heap.size w w' := by
  have HS := Lib.hid hs
  obtain ⟨hz, hi⟩ := zero_of_info infoCert
  have HR := Lib.hid (blk_old (o := .cells (cRow 0 ⟨#[]⟩ 0 0 ⟨#[]⟩) 28) (blk_new w (.cells (cRow 0 ⟨#[]⟩ 0 0 ⟨#[]⟩) 28)))
  have HG := Lib.hid (blk_new2 w (.cells (cRow 0 ⟨#[]⟩ 0 0 ⟨#[]⟩) 28) (.cells (cRow 0 ⟨#[]⟩ 0 0 ⟨#[]⟩) 28))
  have hb := below_new2 w (.cells (cRow 0 ⟨#[]⟩ 0 0 ⟨#[]⟩) 28) (.cells (cRow 0 ⟨#[]⟩ 0 0 ⟨#[]⟩) 28)
  obtain ⟨u1, hu1⟩ : ∃ u, inT s 48 = u := ⟨_, rfl⟩
  have hl1 := in_le s 48
  rw [hu1] at hl1
  obtain ⟨u2, hu2⟩ : ∃ u, inT u1.1 48 = u := ⟨_, rfl⟩
  have hl2 := in_le u1.1 48
  rw [hu2] at hl2
  obtain ⟨u3, hu3⟩ : ∃ u, inT u2.2 48 = u := ⟨_, rfl⟩
  have hl3 := in_le u2.2 48
  rw [hu3] at hl3
  obtain ⟨u4, hu4⟩ : ∃ u, inT u3.2 3 = u := ⟨_, rfl⟩
  have hl4 := in_le u3.2 3
  rw [hu4] at hl4
  obtain ⟨u5, hu5⟩ : ∃ u, inT u2.1 2 = u := ⟨_, rfl⟩
  have hl5 := in_le u2.1 2
  rw [hu5] at hl5
  obtain ⟨u7, hu7⟩ : ∃ u, inT u5.2 48 = u := ⟨_, rfl⟩
  have hl7 := in_le u5.2 48
  rw [hu7] at hl7
  obtain ⟨u8, hu8⟩ : ∃ u, inT u7.2 48 = u := ⟨_, rfl⟩
  have hl8 := in_le u7.2 48
  rw [hu8] at hl8
  obtain ⟨u9, hu9⟩ : ∃ u, inT u8.1 49 = u := ⟨_, rfl⟩
  have hl9 := in_le u8.1 49
  rw [hu9] at hl9
  obtain ⟨u10, hu10⟩ : ∃ u, inT u9.1 48 = u := ⟨_, rfl⟩
  have hl10 := in_le u9.1 48
  rw [hu10] at hl10
  obtain ⟨u11, hu11⟩ : ∃ u, inT u10.1 6 = u := ⟨_, rfl⟩
  have hl11 := in_le u10.1 6
  rw [hu11] at hl11
  obtain ⟨u12, hu12⟩ : ∃ u, inT u11.2 12 = u := ⟨_, rfl⟩
  have hl12 := in_le u11.2 12
  rw [hu12] at hl12
  obtain ⟨u13, hu13⟩ : ∃ u, inT u8.2 48 = u := ⟨_, rfl⟩
  have hl13 := in_le u8.2 48
  rw [hu13] at hl13
  obtain ⟨u14, hu14⟩ : ∃ u, inT u13.1 24 = u := ⟨_, rfl⟩
  have hl14 := in_le u13.1 24
  rw [hu14] at hl14
  obtain ⟨u15, hu15⟩ : ∃ u, inT u14.2 24 = u := ⟨_, rfl⟩
  have hl15 := in_le u14.2 24
  rw [hu15] at hl15
  obtain ⟨u18, hu18⟩ : ∃ u, inT u13.2 48 = u := ⟨_, rfl⟩
  have hl18 := in_le u13.2 48
  rw [hu18] at hl18
  obtain ⟨u19, hu19⟩ : ∃ u, inT u18.2 48 = u := ⟨_, rfl⟩
  have hl19 := in_le u18.2 48
  rw [hu19] at hl19
  obtain ⟨u20, hu20⟩ : ∃ u, inT u19.1 48 = u := ⟨_, rfl⟩
  have hl20 := in_le u19.1 48
  rw [hu20] at hl20
  obtain ⟨u21, hu21⟩ : ∃ u, inT u20.2 3 = u := ⟨_, rfl⟩
  have hl21 := in_le u20.2 3
  rw [hu21] at hl21
  have HPAR : Hid (parT s = (⟨riV u5.1, u12.1, atS u14.1, atS u15.1, tailT u21.1 33⟩, tailT u4.1 65)) := Lib.hid (by simp only [parT, hu1, hu2, hu3, hu4, hu5, hu7, hu8, hu9, hu10, hu11, hu12, hu13, hu14, hu15, hu18, hu19, hu20, hu21])
  have C1 := Lib.hid (fun W => rIn_any s 48 W (by omega))
  rw [hu1] at C1
  have C2 := Lib.hid (fun W => rIn_any u1.1 48 W (by omega))
  rw [hu2] at C2
  have C3 := Lib.hid (fun W => rIn_any u2.2 48 W (by omega))
  rw [hu3] at C3
  have C4 := Lib.hid (fun W => rIn_any u3.2 3 W (by omega))
  rw [hu4] at C4
  have C5 := Lib.hid (fun W => rIn_any u2.1 2 W (by omega))
  rw [hu5] at C5
  have C6 := Lib.hid (fun W => rReadInt_any u5.1 W (by omega))
  have C7 := Lib.hid (fun W => rIn_any u5.2 48 W (by omega))
  rw [hu7] at C7
  have C8 := Lib.hid (fun W => rIn_any u7.2 48 W (by omega))
  rw [hu8] at C8
  have C9 := Lib.hid (fun W => rIn_any u8.1 49 W (by omega))
  rw [hu9] at C9
  have C10 := Lib.hid (fun W => rIn_any u9.1 48 W (by omega))
  rw [hu10] at C10
  have C11 := Lib.hid (fun W => rIn_any u10.1 6 W (by omega))
  rw [hu11] at C11
  have C12 := Lib.hid (fun W => rIn_any u11.2 12 W (by omega))
  rw [hu12] at C12
  have C13 := Lib.hid (fun W => rIn_any u8.2 48 W (by omega))
  rw [hu13] at C13
  have C14 := Lib.hid (fun W => rIn_any u13.1 24 W (by omega))
  rw [hu14] at C14
  have C15 := Lib.hid (fun W => rIn_any u14.2 24 W (by omega))
  rw [hu15] at C15
  have C16 := Lib.hid (fun W => rAt_any u14.1 W (by omega))
  have C17 := Lib.hid (fun W => rAt_any u15.1 W (by omega))
  have C18 := Lib.hid (fun W => rIn_any u13.2 48 W (by omega))
  rw [hu18] at C18
  have C19 := Lib.hid (fun W => rIn_any u18.2 48 W (by omega))
  rw [hu19] at C19
  have C20 := Lib.hid (fun W => rIn_any u19.1 48 W (by omega))
  rw [hu20] at C20
  have C21 := Lib.hid (fun W => rIn_any u20.2 3 W (by omega))
  rw [hu21] at C21
  clear hs hi hu1 hl1 hu2 hl2 hu3 hl3 hu4 hl4 hu5 hl5 hu7 hl7 hu8 hl8 hu9 hl9 hu10 hl10 hu11 hl11 hu12 hl12 hu13 hl13 hu14 hl14 hu15 hl15 hu18 hl18 hu19 hl19 hu20 hl20 hu21 hl21
  obtain ⟨x1, y1⟩ := u1
  obtain ⟨x2, y2⟩ := u2
  obtain ⟨x3, y3⟩ := u3
  obtain ⟨x4, y4⟩ := u4
  obtain ⟨x5, y5⟩ := u5
  obtain ⟨x7, y7⟩ := u7
  obtain ⟨x8, y8⟩ := u8
  obtain ⟨x9, y9⟩ := u9
  obtain ⟨x10, y10⟩ := u10
  obtain ⟨x11, y11⟩ := u11
  obtain ⟨x12, y12⟩ := u12
  obtain ⟨x13, y13⟩ := u13
  obtain ⟨x14, y14⟩ := u14
  obtain ⟨x15, y15⟩ := u15
  obtain ⟨x18, y18⟩ := u18
  obtain ⟨x19, y19⟩ := u19
  obtain ⟨x20, y20⟩ := u20
  obtain ⟨x21, y21⟩ := u21
  simp only at HPAR C1 C2 C3 C4 C5 C6 C7 C8 C9 C10 C11 C12 C13 C14 C15 C16 C17 C18 C19 C20 C21
  obtain ⟨rv, hrv⟩ : ∃ r, riV x5 = r := ⟨_, rfl⟩
  obtain ⟨re, hre⟩ : ∃ r, riErr x5 = r := ⟨_, rfl⟩
  obtain ⟨t1, ht1⟩ : ∃ r, atS x14 = r := ⟨_, rfl⟩
  obtain ⟨t2, ht2⟩ : ∃ r, atS x15 = r := ⟨_, rfl⟩
  rw [hrv, ht1, ht2] at HPAR
  rw [hrv, hre] at C6
  rw [ht1] at C16
  rw [ht2] at C17
  clear hrv hre ht1 ht2
  go_enter Tryz.func40, Tryz.ntmps40
  go_wp2_with fail
  clear hz
  generalize ((w.alloc _).alloc _) = W0 at *
  generalize hBB : w.heap.size = B at *
  have HBB := Lib.hid hBB
  clear hBB
  have HLT := Lib.hid (show B < W0.heap.size from blk_lt HR.out)
  refine (C1.out _).mono ?_
  rintro e V1 ⟨rfl, bk⟩
  replace hb := hb.trans (bk.mono (Nat.le_of_lt (blk_lt HR.out)))
  replace HR := Lib.hid (blk_below bk (blk_lt HR.out) HR.out)
  replace HG := Lib.hid (blk_below bk (blk_lt HG.out) HG.out)
  clear bk C1
  go_wp2_with fail
  refine (C2.out _).mono ?_
  rintro e V2 ⟨rfl, bk⟩
  replace hb := hb.trans (bk.mono (Nat.le_of_lt (blk_lt HR.out)))
  replace HR := Lib.hid (blk_below bk (blk_lt HR.out) HR.out)
  replace HG := Lib.hid (blk_below bk (blk_lt HG.out) HG.out)
  clear bk C2
  go_wp2_with fail
  refine (C3.out _).mono ?_
  rintro e V3 ⟨rfl, bk⟩
  replace hb := hb.trans (bk.mono (Nat.le_of_lt (blk_lt HR.out)))
  replace HR := Lib.hid (blk_below bk (blk_lt HR.out) HR.out)
  replace HG := Lib.hid (blk_below bk (blk_lt HG.out) HG.out)
  clear bk C3
  go_wp2_with fail
  refine (C4.out _).mono ?_
  rintro e V4 ⟨rfl, bk⟩
  replace hb := hb.trans (bk.mono (Nat.le_of_lt (blk_lt HR.out)))
  replace HR := Lib.hid (blk_below bk (blk_lt HR.out) HR.out)
  replace HG := Lib.hid (blk_below bk (blk_lt HG.out) HG.out)
  clear bk C4
  go_wp2_with fail
  refine (C5.out _).mono ?_
  rintro e V5 ⟨rfl, bk⟩
  replace hb := hb.trans (bk.mono (Nat.le_of_lt (blk_lt HR.out)))
  replace HR := Lib.hid (blk_below bk (blk_lt HR.out) HR.out)
  replace HG := Lib.hid (blk_below bk (blk_lt HG.out) HG.out)
  clear bk C5
  go_wp2_with fail
  refine (C6.out _).mono ?_
  rintro e V6 ⟨rfl, bk⟩
  replace hb := hb.trans (bk.mono (Nat.le_of_lt (blk_lt HR.out)))
  replace HR := Lib.hid (blk_below bk (blk_lt HR.out) HR.out)
  replace HG := Lib.hid (blk_below bk (blk_lt HG.out) HG.out)
  clear bk C6
  have cc := cell_of_row V6 (B + 1) 0 _ _ (0, 0) HG.out
  rw [show (cRow (0) (⟨#[]⟩) (0) (0) (⟨#[]⟩))[0]? = some (.int .i64 (0)) from rfl] at cc
  have fc := frozen_of_row V6 (B + 1) 0 _ _ HG.out
  have HG2 := Lib.hid (cell_set (i := 0) (v := .int .i64 rv) HG.out)
  rw [show (cRow (0) (⟨#[]⟩) (0) (0) (⟨#[]⟩)).setIfInBounds 0 (.int .i64 rv) = cRow (rv) (⟨#[]⟩) (0) (0) (⟨#[]⟩) from rfl] at HG2
  have HR2 := Lib.hid (show (V6.setCell ⟨B + 1, 0, none⟩ (.int .i64 rv)).heap[B]? = some (.cells (cRow 0 ⟨#[]⟩ 0 0 ⟨#[]⟩) 28) from by rw [heap_setCell_other _ _ _ _ (by simp)]; exact HR.out)
  have hb2 : Below B w (V6.setCell ⟨B + 1, 0, none⟩ (.int .i64 rv)) := hb.setCell (by simp) _
  clear HG HR hb
  go_wp2_with fail
  clear cc fc
  generalize (World.setCell _ _ _) = S0 at *
  have HG := HG2
  have HR := HR2
  have hb := hb2
  clear HG2 HR2 hb2
  refine (C7.out _).mono ?_
  rintro e V7 ⟨rfl, bk⟩
  replace hb := hb.trans (bk.mono (Nat.le_of_lt (blk_lt HR.out)))
  replace HR := Lib.hid (blk_below bk (blk_lt HR.out) HR.out)
  replace HG := Lib.hid (blk_below bk (blk_lt HG.out) HG.out)
  clear bk C7
  go_wp2_with fail
  refine (C8.out _).mono ?_
  rintro e V8 ⟨rfl, bk⟩
  replace hb := hb.trans (bk.mono (Nat.le_of_lt (blk_lt HR.out)))
  replace HR := Lib.hid (blk_below bk (blk_lt HR.out) HR.out)
  replace HG := Lib.hid (blk_below bk (blk_lt HG.out) HG.out)
  clear bk C8
  go_wp2_with fail
  refine (C9.out _).mono ?_
  rintro e V9 ⟨rfl, bk⟩
  replace hb := hb.trans (bk.mono (Nat.le_of_lt (blk_lt HR.out)))
  replace HR := Lib.hid (blk_below bk (blk_lt HR.out) HR.out)
  replace HG := Lib.hid (blk_below bk (blk_lt HG.out) HG.out)
  clear bk C9
  go_wp2_with fail
  refine (C10.out _).mono ?_
  rintro e V10 ⟨rfl, bk⟩
  replace hb := hb.trans (bk.mono (Nat.le_of_lt (blk_lt HR.out)))
  replace HR := Lib.hid (blk_below bk (blk_lt HR.out) HR.out)
  replace HG := Lib.hid (blk_below bk (blk_lt HG.out) HG.out)
  clear bk C10
  go_wp2_with fail
  refine (C11.out _).mono ?_
  rintro e V11 ⟨rfl, bk⟩
  replace hb := hb.trans (bk.mono (Nat.le_of_lt (blk_lt HR.out)))
  replace HR := Lib.hid (blk_below bk (blk_lt HR.out) HR.out)
  replace HG := Lib.hid (blk_below bk (blk_lt HG.out) HG.out)
  clear bk C11
  go_wp2_with fail
  refine (C12.out _).mono ?_
  rintro e V12 ⟨rfl, bk⟩
  replace hb := hb.trans (bk.mono (Nat.le_of_lt (blk_lt HR.out)))
  replace HR := Lib.hid (blk_below bk (blk_lt HR.out) HR.out)
  replace HG := Lib.hid (blk_below bk (blk_lt HG.out) HG.out)
  clear bk C12
  have cc := cell_of_row V12 (B + 1) 1 _ _ (0, 0) HG.out
  rw [show (cRow (rv) (⟨#[]⟩) (0) (0) (⟨#[]⟩))[1]? = some (.string (⟨#[]⟩)) from rfl] at cc
  have fc := frozen_of_row V12 (B + 1) 1 _ _ HG.out
  have HG2 := Lib.hid (cell_set (i := 1) (v := .string x12) HG.out)
  rw [show (cRow (rv) (⟨#[]⟩) (0) (0) (⟨#[]⟩)).setIfInBounds 1 (.string x12) = cRow (rv) (x12) (0) (0) (⟨#[]⟩) from rfl] at HG2
  have HR2 := Lib.hid (show (V12.setCell ⟨B + 1, 1, none⟩ (.string x12)).heap[B]? = some (.cells (cRow 0 ⟨#[]⟩ 0 0 ⟨#[]⟩) 28) from by rw [heap_setCell_other _ _ _ _ (by simp)]; exact HR.out)
  have hb2 : Below B w (V12.setCell ⟨B + 1, 1, none⟩ (.string x12)) := hb.setCell (by simp) _
  clear HG HR hb
  go_wp2_with fail
  clear cc fc
  generalize (World.setCell _ _ _) = S1 at *
  have HG := HG2
  have HR := HR2
  have hb := hb2
  clear HG2 HR2 hb2
  refine (C13.out _).mono ?_
  rintro e V13 ⟨rfl, bk⟩
  replace hb := hb.trans (bk.mono (Nat.le_of_lt (blk_lt HR.out)))
  replace HR := Lib.hid (blk_below bk (blk_lt HR.out) HR.out)
  replace HG := Lib.hid (blk_below bk (blk_lt HG.out) HG.out)
  clear bk C13
  go_wp2_with fail
  refine (C14.out _).mono ?_
  rintro e V14 ⟨rfl, bk⟩
  replace hb := hb.trans (bk.mono (Nat.le_of_lt (blk_lt HR.out)))
  replace HR := Lib.hid (blk_below bk (blk_lt HR.out) HR.out)
  replace HG := Lib.hid (blk_below bk (blk_lt HG.out) HG.out)
  clear bk C14
  go_wp2_with fail
  refine (C15.out _).mono ?_
  rintro e V15 ⟨rfl, bk⟩
  replace hb := hb.trans (bk.mono (Nat.le_of_lt (blk_lt HR.out)))
  replace HR := Lib.hid (blk_below bk (blk_lt HR.out) HR.out)
  replace HG := Lib.hid (blk_below bk (blk_lt HG.out) HG.out)
  clear bk C15
  go_wp2_with fail
  refine (C16.out _).mono ?_
  rintro e V16 ⟨rfl, bk⟩
  replace hb := hb.trans (bk.mono (Nat.le_of_lt (blk_lt HR.out)))
  replace HR := Lib.hid (blk_below bk (blk_lt HR.out) HR.out)
  replace HG := Lib.hid (blk_below bk (blk_lt HG.out) HG.out)
  clear bk C16
  have cc := cell_of_row V16 (B + 1) 2 _ _ (0, 0) HG.out
  rw [show (cRow (rv) (x12) (0) (0) (⟨#[]⟩))[2]? = some (.int .i64 (0)) from rfl] at cc
  have fc := frozen_of_row V16 (B + 1) 2 _ _ HG.out
  have HG2 := Lib.hid (cell_set (i := 2) (v := .int .i64 t1) HG.out)
  rw [show (cRow (rv) (x12) (0) (0) (⟨#[]⟩)).setIfInBounds 2 (.int .i64 t1) = cRow (rv) (x12) (t1) (0) (⟨#[]⟩) from rfl] at HG2
  have HR2 := Lib.hid (show (V16.setCell ⟨B + 1, 2, none⟩ (.int .i64 t1)).heap[B]? = some (.cells (cRow 0 ⟨#[]⟩ 0 0 ⟨#[]⟩) 28) from by rw [heap_setCell_other _ _ _ _ (by simp)]; exact HR.out)
  have hb2 : Below B w (V16.setCell ⟨B + 1, 2, none⟩ (.int .i64 t1)) := hb.setCell (by simp) _
  clear HG HR hb
  go_wp2_with fail
  clear cc fc
  generalize (World.setCell _ _ _) = S2 at *
  have HG := HG2
  have HR := HR2
  have hb := hb2
  clear HG2 HR2 hb2
  refine (C17.out _).mono ?_
  rintro e V17 ⟨rfl, bk⟩
  replace hb := hb.trans (bk.mono (Nat.le_of_lt (blk_lt HR.out)))
  replace HR := Lib.hid (blk_below bk (blk_lt HR.out) HR.out)
  replace HG := Lib.hid (blk_below bk (blk_lt HG.out) HG.out)
  clear bk C17
  have cc := cell_of_row V17 (B + 1) 3 _ _ (0, 0) HG.out
  rw [show (cRow (rv) (x12) (t1) (0) (⟨#[]⟩))[3]? = some (.int .i64 (0)) from rfl] at cc
  have fc := frozen_of_row V17 (B + 1) 3 _ _ HG.out
  have HG2 := Lib.hid (cell_set (i := 3) (v := .int .i64 t2) HG.out)
  rw [show (cRow (rv) (x12) (t1) (0) (⟨#[]⟩)).setIfInBounds 3 (.int .i64 t2) = cRow (rv) (x12) (t1) (t2) (⟨#[]⟩) from rfl] at HG2
  have HR2 := Lib.hid (show (V17.setCell ⟨B + 1, 3, none⟩ (.int .i64 t2)).heap[B]? = some (.cells (cRow 0 ⟨#[]⟩ 0 0 ⟨#[]⟩) 28) from by rw [heap_setCell_other _ _ _ _ (by simp)]; exact HR.out)
  have hb2 : Below B w (V17.setCell ⟨B + 1, 3, none⟩ (.int .i64 t2)) := hb.setCell (by simp) _
  clear HG HR hb
  go_wp2_with fail
  clear cc fc
  generalize (World.setCell _ _ _) = S3 at *
  have HG := HG2
  have HR := HR2
  have hb := hb2
  clear HG2 HR2 hb2
  refine (C18.out _).mono ?_
  rintro e V18 ⟨rfl, bk⟩
  replace hb := hb.trans (bk.mono (Nat.le_of_lt (blk_lt HR.out)))
  replace HR := Lib.hid (blk_below bk (blk_lt HR.out) HR.out)
  replace HG := Lib.hid (blk_below bk (blk_lt HG.out) HG.out)
  clear bk C18
  go_wp2_with fail
  refine (C19.out _).mono ?_
  rintro e V19 ⟨rfl, bk⟩
  replace hb := hb.trans (bk.mono (Nat.le_of_lt (blk_lt HR.out)))
  replace HR := Lib.hid (blk_below bk (blk_lt HR.out) HR.out)
  replace HG := Lib.hid (blk_below bk (blk_lt HG.out) HG.out)
  clear bk C19
  go_wp2_with fail
  refine (C20.out _).mono ?_
  rintro e V20 ⟨rfl, bk⟩
  replace hb := hb.trans (bk.mono (Nat.le_of_lt (blk_lt HR.out)))
  replace HR := Lib.hid (blk_below bk (blk_lt HR.out) HR.out)
  replace HG := Lib.hid (blk_below bk (blk_lt HG.out) HG.out)
  clear bk C20
  go_wp2_with fail
  refine (C21.out _).mono ?_
  rintro e V21 ⟨rfl, bk⟩
  replace hb := hb.trans (bk.mono (Nat.le_of_lt (blk_lt HR.out)))
  replace HR := Lib.hid (blk_below bk (blk_lt HR.out) HR.out)
  replace HG := Lib.hid (blk_below bk (blk_lt HG.out) HG.out)
  clear bk C21
  by_cases ck : x21.size = 33
  · have k33 : ((x21.size : Int) == 33) = true := by simp; omega
    have k1 : (1 : Int) ≤ (x21.size : Int) := by omega
    have k2 : 1 ≤ x21.size := by omega
    obtain ⟨kk, hkk⟩ : ∃ r, x21.extract 1 x21.size = r := ⟨_, rfl⟩
    have HPK : Hid (parT s = (⟨rv, x12, t1, t2, kk⟩, tailT x4 65)) := Lib.hid (by rw [HPAR.out, show tailT x21 33 = x21.extract 1 33 from if_pos ck, ← ck, hkk])
    have cc := cell_of_row V21 (B + 1) 4 _ _ (0, 0) HG.out
    rw [show (cRow (rv) (x12) (t1) (t2) (⟨#[]⟩))[4]? = some (.string (⟨#[]⟩)) from rfl] at cc
    have fc := frozen_of_row V21 (B + 1) 4 _ _ HG.out
    have HG2 := Lib.hid (cell_set (i := 4) (v := .string kk) HG.out)
    rw [show (cRow (rv) (x12) (t1) (t2) (⟨#[]⟩)).setIfInBounds 4 (.string kk) = cRow (rv) (x12) (t1) (t2) (kk) from rfl] at HG2
    have HR2 := Lib.hid (show (V21.setCell ⟨B + 1, 4, none⟩ (.string kk)).heap[B]? = some (.cells (cRow 0 ⟨#[]⟩ 0 0 ⟨#[]⟩) 28) from by rw [heap_setCell_other _ _ _ _ (by simp)]; exact HR.out)
    have hb2 : Below B w (V21.setCell ⟨B + 1, 4, none⟩ (.string kk)) := hb.setCell (by simp) _
    clear HG HR hb
    clear HPAR ck
    by_cases cs : x4.size = 65
    · have s65 : ((x4.size : Int) == 65) = true := by simp; omega
      have i1 : (1 : Int) ≤ (x4.size : Int) := by omega
      have j1 : 1 ≤ x4.size := by omega
      obtain ⟨sg, hsg⟩ : ∃ r, x4.extract 1 x4.size = r := ⟨_, rfl⟩
      have HV : Hid (parT s = (⟨rv, x12, t1, t2, kk⟩, sg)) := Lib.hid (by rw [HPK.out, show tailT x4 65 = x4.extract 1 65 from if_pos cs, ← cs, hsg])
      clear HPK cs
      go_wp2_with fail
      clear cc fc
      generalize (World.setCell _ _ _) = S4 at *
      have HG := HG2
      have HR := HR2
      have hb := hb2
      clear HG2 HR2 hb2
      refine wp_region_stored 3 142 [.val (.agg (cRow (rv) (x12) (t1) (t2) (kk))) [(4, .pointer (some ⟨B + 1, 0, none⟩))], .val (.string x4) [(9, .string x4)], .val (.string sg) [(139, .string x4)]]
        [(2, .pointer (some ⟨B, 0, none⟩)), (138, .agg (cRow (rv) (x12) (t1) (t2) (kk)))]
        (fun w' => Below B w w' ∧ w'.heap[B]? = some (.cells (cRow 0 ⟨#[]⟩ 0 0 ⟨#[]⟩) 28) ∧ w'.heap[B + 1]? = some (.cells (cRow (rv) (x12) (t1) (t2) (kk)) 28))
        (fun w' => Below B w w' ∧ w'.heap[B]? = some (.cells (cRow (rv) (x12) (t1) (t2) (kk)) 28) ∧ w'.heap[B + 1]? = some (.cells (cRow (rv) (x12) (t1) (t2) (kk)) 28))
        _ rfl rfl (by kernel_rfl) rfl ?_ ?_ ?_ ?_ ?_ ?_ ?_ ?_
      · exact ⟨hb.trans ⟨rfl, rfl, rfl, Nat.le_refl _, fun _ _ => rfl⟩, HR.out, HG.out⟩
      · rintro w1 w2 ⟨k1, k2, k3⟩ hb
        exact ⟨k1.trans (hb.mono (Nat.le_of_lt (blk_lt k2))), blk_below hb (blk_lt k2) k2, blk_below hb (blk_lt k3) k3⟩
      · rintro w1 w2 ⟨k1, k2, k3⟩ hb
        exact ⟨k1.trans (hb.mono (Nat.le_of_lt (blk_lt k2))), blk_below hb (blk_lt k2) k2, blk_below hb (blk_lt k3) k3⟩
      · simp only [List.take_succ_cons, List.take_zero, storedObl, HeadSpec.val, and_true]
        refine ⟨?_, ?_, ?_⟩
        · intro act w' hk h
          have e0 := h (4, .pointer (some ⟨B + 1, 0, none⟩)) (by simp)
          have hk3 : w'.heap[B + 1]? = some (.cells (cRow (rv) (x12) (t1) (t2) (kk)) 28) := by rcases hk with ⟨_, _, h3⟩ | ⟨_, _, h3⟩ <;> exact h3
          exact sQuiet_load_row 28 (.tmp 4) rfl (B + 1) e0 28 _ (0, 0) _ hk3 Tryz.underlying28 rfl (sizeCert _ _ _ _ _)
        · intro act w' hk h
          have e0 := h (9, .string x4) (by simp)
          simp only [Array.getD_eq_getD_getElem?] at e0
          simp [go_sem, e0, sQuiet]
        · intro act w' hk h
          have e0 := h (139, .string x4) (by simp)
          simp only [Array.getD_eq_getD_getElem?] at e0
          simp [go_sem, e0, sQuiet, j1, i1, hsg]
      · rintro act w' ⟨k1, k2, k3⟩ h
        have e0 : act.eval (.tmp 2) = .pointer (some ⟨B, 0, none⟩) := h (2, .pointer (some ⟨B, 0, none⟩)) (by simp)
        have e1 : act.eval (.tmp 138) = .agg (cRow (rv) (x12) (t1) (t2) (kk)) := h (138, .agg (cRow (rv) (x12) (t1) (t2) (kk))) (by simp)
        refine ⟨w'.setRow B (cRow (rv) (x12) (t1) (t2) (kk)), ?_, below_setRow k1 (Nat.le_refl _) _, setRow_heap _ _ _ _ _ _ k2, by rw [setRow_other _ _ _ _ (by omega)]; exact k3⟩
        have hrun := run_storeVar_row (P := Tryz.prog) w' B 28 28 (cRow 0 ⟨#[]⟩ 0 0 ⟨#[]⟩) (cRow (rv) (x12) (t1) (t2) (kk)) k2 (sizeCert _ _ _ _ _) rfl (oneCert _ _ _ _ _)
        unfold execOp
        simp only [e0, e1, Instr.storeAt, Instr.sureAddr, Sem.run_bind, Sem.run_pure, Result.andThen_ok, hrun]
      · simp [headReads, headPut, specV, HeadSpec.val, Act.put]
      · simp [headReads, headPut, specV, HeadSpec.val, Act.put]
      · rintro w' ⟨k1, k2, k3⟩
        have HN := Lib.hid k2
        clear k2 k3 HR HG hb
        simp only [List.take_succ_cons, List.take_zero, List.drop_succ_cons, List.drop_zero, headPut, specV, HeadSpec.val, Act.put, List.setIfInBounds_toArray, List.set_cons_succ, List.set_cons_zero, List.getElem?_cons_succ, List.getElem?_cons_zero, Option.map_some, Option.getD_some]
        go_wp2_with fail
        exact bodyPost_ret (results_row_tmpC (by rfl) _ _ B 28 _ (0, 0) _ rfl HN.out Tryz.underlying28 rfl (sizeCert _ _ _ _ _)) rfl ⟨by rw [HV.out]; rfl, by rw [HBB.out]; exact k1⟩
    · have s65 : ((x4.size : Int) == 65) = false := by simp; omega
      have HV : Hid (parT s = (⟨rv, x12, t1, t2, kk⟩, ⟨#[]⟩)) := Lib.hid (by rw [HPK.out, show tailT x4 65 = emptyB from if_neg cs]; rfl)
      clear HPK cs
      go_wp2_with (first | (with_reducible refine wpList_load_row rfl 28 _ rfl (B + 1) rfl 28 _ (0, 0) _ HG2.out Tryz.underlying28 rfl (sizeCert _ _ _ _ _) ?_) | (with_reducible refine wpList_store_row rfl 28 _ _ rfl B (cRow (rv) (x12) (t1) (t2) (kk)) rfl rfl 28 _ HR2.out (sizeCert _ _ _ _ _) rfl (oneCert _ _ _ _ _) ?_))
      exact bodyPost_ret (results_row_tmpC (by rfl) _ _ B 28 _ (0, 0) _ rfl (setRow_heap _ _ _ _ _ _ HR2.out) Tryz.underlying28 rfl (sizeCert _ _ _ _ _)) rfl ⟨by rw [HV.out]; rfl, by rw [HBB.out]; exact below_setRow hb2 (Nat.le_refl _) _⟩
  · have k33 : ((x21.size : Int) == 33) = false := by simp; omega
    have HPK : Hid (parT s = (⟨rv, x12, t1, t2, ⟨#[]⟩⟩, tailT x4 65)) := Lib.hid (by rw [HPAR.out, show tailT x21 33 = emptyB from if_neg ck]; rfl)
    clear HPAR ck
    by_cases cs : x4.size = 65
    · have s65 : ((x4.size : Int) == 65) = true := by simp; omega
      have i1 : (1 : Int) ≤ (x4.size : Int) := by omega
      have j1 : 1 ≤ x4.size := by omega
      obtain ⟨sg, hsg⟩ : ∃ r, x4.extract 1 x4.size = r := ⟨_, rfl⟩
      have HV : Hid (parT s = (⟨rv, x12, t1, t2, ⟨#[]⟩⟩, sg)) := Lib.hid (by rw [HPK.out, show tailT x4 65 = x4.extract 1 65 from if_pos cs, ← cs, hsg])
      clear HPK cs
      go_wp2_with fail
      refine wp_region_stored 3 142 [.val (.agg (cRow (rv) (x12) (t1) (t2) (⟨#[]⟩))) [(4, .pointer (some ⟨B + 1, 0, none⟩))], .val (.string x4) [(9, .string x4)], .val (.string sg) [(139, .string x4)]]
        [(2, .pointer (some ⟨B, 0, none⟩)), (138, .agg (cRow (rv) (x12) (t1) (t2) (⟨#[]⟩)))]
        (fun w' => Below B w w' ∧ w'.heap[B]? = some (.cells (cRow 0 ⟨#[]⟩ 0 0 ⟨#[]⟩) 28) ∧ w'.heap[B + 1]? = some (.cells (cRow (rv) (x12) (t1) (t2) (⟨#[]⟩)) 28))
        (fun w' => Below B w w' ∧ w'.heap[B]? = some (.cells (cRow (rv) (x12) (t1) (t2) (⟨#[]⟩)) 28) ∧ w'.heap[B + 1]? = some (.cells (cRow (rv) (x12) (t1) (t2) (⟨#[]⟩)) 28))
        _ rfl rfl (by kernel_rfl) rfl ?_ ?_ ?_ ?_ ?_ ?_ ?_ ?_
      · exact ⟨hb.trans ⟨rfl, rfl, rfl, Nat.le_refl _, fun _ _ => rfl⟩, HR.out, HG.out⟩
      · rintro w1 w2 ⟨k1, k2, k3⟩ hb
        exact ⟨k1.trans (hb.mono (Nat.le_of_lt (blk_lt k2))), blk_below hb (blk_lt k2) k2, blk_below hb (blk_lt k3) k3⟩
      · rintro w1 w2 ⟨k1, k2, k3⟩ hb
        exact ⟨k1.trans (hb.mono (Nat.le_of_lt (blk_lt k2))), blk_below hb (blk_lt k2) k2, blk_below hb (blk_lt k3) k3⟩
      · simp only [List.take_succ_cons, List.take_zero, storedObl, HeadSpec.val, and_true]
        refine ⟨?_, ?_, ?_⟩
        · intro act w' hk h
          have e0 := h (4, .pointer (some ⟨B + 1, 0, none⟩)) (by simp)
          have hk3 : w'.heap[B + 1]? = some (.cells (cRow (rv) (x12) (t1) (t2) (⟨#[]⟩)) 28) := by rcases hk with ⟨_, _, h3⟩ | ⟨_, _, h3⟩ <;> exact h3
          exact sQuiet_load_row 28 (.tmp 4) rfl (B + 1) e0 28 _ (0, 0) _ hk3 Tryz.underlying28 rfl (sizeCert _ _ _ _ _)
        · intro act w' hk h
          have e0 := h (9, .string x4) (by simp)
          simp only [Array.getD_eq_getD_getElem?] at e0
          simp [go_sem, e0, sQuiet]
        · intro act w' hk h
          have e0 := h (139, .string x4) (by simp)
          simp only [Array.getD_eq_getD_getElem?] at e0
          simp [go_sem, e0, sQuiet, j1, i1, hsg]
      · rintro act w' ⟨k1, k2, k3⟩ h
        have e0 : act.eval (.tmp 2) = .pointer (some ⟨B, 0, none⟩) := h (2, .pointer (some ⟨B, 0, none⟩)) (by simp)
        have e1 : act.eval (.tmp 138) = .agg (cRow (rv) (x12) (t1) (t2) (⟨#[]⟩)) := h (138, .agg (cRow (rv) (x12) (t1) (t2) (⟨#[]⟩))) (by simp)
        refine ⟨w'.setRow B (cRow (rv) (x12) (t1) (t2) (⟨#[]⟩)), ?_, below_setRow k1 (Nat.le_refl _) _, setRow_heap _ _ _ _ _ _ k2, by rw [setRow_other _ _ _ _ (by omega)]; exact k3⟩
        have hrun := run_storeVar_row (P := Tryz.prog) w' B 28 28 (cRow 0 ⟨#[]⟩ 0 0 ⟨#[]⟩) (cRow (rv) (x12) (t1) (t2) (⟨#[]⟩)) k2 (sizeCert _ _ _ _ _) rfl (oneCert _ _ _ _ _)
        unfold execOp
        simp only [e0, e1, Instr.storeAt, Instr.sureAddr, Sem.run_bind, Sem.run_pure, Result.andThen_ok, hrun]
      · simp [headReads, headPut, specV, HeadSpec.val, Act.put]
      · simp [headReads, headPut, specV, HeadSpec.val, Act.put]
      · rintro w' ⟨k1, k2, k3⟩
        have HN := Lib.hid k2
        clear k2 k3 HR HG hb
        simp only [List.take_succ_cons, List.take_zero, List.drop_succ_cons, List.drop_zero, headPut, specV, HeadSpec.val, Act.put, List.setIfInBounds_toArray, List.set_cons_succ, List.set_cons_zero, List.getElem?_cons_succ, List.getElem?_cons_zero, Option.map_some, Option.getD_some]
        go_wp2_with fail
        exact bodyPost_ret (results_row_tmpC (by rfl) _ _ B 28 _ (0, 0) _ rfl HN.out Tryz.underlying28 rfl (sizeCert _ _ _ _ _)) rfl ⟨by rw [HV.out]; rfl, by rw [HBB.out]; exact k1⟩
    · have s65 : ((x4.size : Int) == 65) = false := by simp; omega
      have HV : Hid (parT s = (⟨rv, x12, t1, t2, ⟨#[]⟩⟩, ⟨#[]⟩)) := Lib.hid (by rw [HPK.out, show tailT x4 65 = emptyB from if_neg cs]; rfl)
      clear HPK cs
      go_wp2_with (first | (with_reducible refine wpList_load_row rfl 28 _ rfl (B + 1) rfl 28 _ (0, 0) _ HG.out Tryz.underlying28 rfl (sizeCert _ _ _ _ _) ?_) | (with_reducible refine wpList_store_row rfl 28 _ _ rfl B (cRow (rv) (x12) (t1) (t2) (⟨#[]⟩)) rfl rfl 28 _ HR.out (sizeCert _ _ _ _ _) rfl (oneCert _ _ _ _ _) ?_))
      exact bodyPost_ret (results_row_tmpC (by rfl) _ _ B 28 _ (0, 0) _ rfl (setRow_heap _ _ _ _ _ _ HR.out) Tryz.underlying28 rfl (sizeCert _ _ _ _ _)) rfl ⟨by rw [HV.out]; rfl, by rw [HBB.out]; exact below_setRow hb (Nat.le_refl _) _⟩
end

section
open Go.RowKit Go.Sort
set_option maxRecDepth 100000
set_option linter.unusedSimpArgs false
set_option linter.unusedVariables false

structure SignRM (F : SignF) : Prop where
  pub : ∀ (s : ByteArray) (w : World), Calls Tryz.prog 34 #[.string s] w fun e w' => e = .returned (.tuple #[.string (F.pub s), .int .i64 (sdE s)]) ∧ Below w.heap.size w w'
  sgn : ∀ (s t : ByteArray) (w : World), t.size ≤ 1000000 → Calls Tryz.prog 36 #[.string s, .string t] w fun e w' => e = .returned (.tuple #[.string (F.sgn s t), .int .i64 (sdE s)]) ∧ Below w.heap.size w w'
structure SignR (F : SignF) : Prop where
  ver : ∀ (p t g : ByteArray) (w : World), t.size ≤ 1000000 → Calls Tryz.prog 41 #[.string p, .string t, .string g] w fun e w' => e = .returned (.int .i64 (F.ver p t g)) ∧ Below w.heap.size w w'
  sum : ∀ (s : ByteArray) (w : World), s.size ≤ 1000000 → Calls Tryz.prog 43 #[.string s] w fun e w' => e = .returned (.string (F.sum s)) ∧ Below w.heap.size w w'
theorem who_size (inn sig : ByteArray) : (whoB inn sig).size ≤ inn.size + sig.size + 20 := by
  have w1 := wr_le 3 (zeroB ++ sig); have z1 := zeroB_size sig
  have ha : algB.size = 7 := by rw [algB_eq]; rfl
  have w2 := wr_le 48 (inn ++ algB ++ wrX 3 (zeroB ++ sig))
  rw [ByteArray.size_append, ByteArray.size_append] at w2
  rw [whoB]
  omega
theorem rPrint_any (F : SignF) (R : SignR F) (s : ByteArray) (w : World) (hs : s.size ≤ 1000000) :
    Calls Tryz.prog 19 #[.string s] w fun e w' => e = .returned (.string (F.sum s)) ∧ Below w.heap.size w w' := by
  have C := Lib.hid (fun W => R.sum s W hs)
  have hb := Below.refl w.heap.size w
  clear hs R
  generalize F.sum s = z at *
  go_enter Tryz.func19, Tryz.ntmps19
  go_wp2_with fail
  refine (C.out _).mono ?_
  rintro e W1 ⟨rfl, bk⟩
  replace hb := hb.trans (bk.mono hb.size)
  clear bk
  go_wp2_with fail
  go_ret
  exact ⟨rfl, hb⟩
set_option maxHeartbeats 16000000 in
theorem rMake_any (F : SignF) (R : SignRM F) (sr : Int) (b : ByteArray) (d e : Int) (f seed : ByteArray) (w : World) (ha0 : -9223372036854775808 ≤ sr) (ha1 : sr ≤ 9223372036854775807) (hd0 : -9223372036854775808 ≤ d) (hd1 : d ≤ 9223372036854775807) (he0 : -9223372036854775808 ≤ e) (he1 : e ≤ 9223372036854775807) (hs : b.size ≤ 1000) (hf : f.size ≤ 1000) :
    Calls Tryz.prog 15 #[.agg #[.int .i64 sr, .string b, .int .i64 d, .int .i64 e, .string f], .string seed] w fun ee w' => ee = .returned (.tuple #[.string (makX F ⟨sr, b, d, e, f⟩ seed), .int .i64 (makE F ⟨sr, b, d, e, f⟩ seed)]) ∧ Below w.heap.size w w' := by
  have CR := Lib.hid (fun W => rRight_any sr b d e f W (by omega))
  have CP := Lib.hid (fun W => R.pub seed W)
  have HG := Lib.hid (show (w.alloc (.cells #[.int .i64 sr, .string b, .int .i64 d, .int .i64 e, .string f] 28)).heap[w.heap.size]? = some (.cells (cRow sr b d e f) 28) from blk_new w _)
  have hb := below_new w (.cells #[.int .i64 sr, .string b, .int .i64 d, .int .i64 e, .string f] 28)
  cases hr : rightC ⟨sr, b, d, e, f⟩ with
  | false =>
    rw [hr] at CR
    have HV := Lib.hid (mak_bad F ⟨sr, b, d, e, f⟩ seed 1 (by rw [makE, hr, if_neg Bool.false_ne_true]) (by decide))
    clear hr ha0 ha1 hd0 hd1 he0 he1 hs hf R CP
    go_enter Tryz.func15, Tryz.ntmps15
    go_wp2_with (with_reducible refine wpList_load_row rfl 28 _ rfl w.heap.size rfl 28 _ (0, 0) _ HG.out Tryz.underlying28 rfl (sizeCert _ _ _ _ _) ?_)
    generalize (w.alloc _) = W0 at *
    generalize hBB : w.heap.size = g at *
    have HBB := Lib.hid hBB
    clear hBB
    refine (CR.out _).mono ?_
    rintro ee V1 ⟨rfl, bk⟩
    replace hb := hb.trans (bk.mono (Nat.le_of_lt (blk_lt HG.out)))
    replace HG := Lib.hid (blk_below bk (blk_lt HG.out) HG.out)
    clear bk CR
    go_wp2_with fail
    go_ret2
    exact ⟨by rw [HV.out.1, HV.out.2]; rfl, by rw [HBB.out]; exact hb⟩
  | true =>
    rw [hr] at CR
    by_cases h32 : seed.size = 32
    · have hsd : sdE seed = 0 := if_pos h32
      rw [hsd] at CP
      by_cases hk : f.size = 0 ∨ f = F.pub seed
      · have HV0 := mak_good F ⟨sr, b, d, e, f⟩ seed (by rw [makE, hr, if_pos rfl, if_pos]; rw [keyOk, decide_eq_true h32, Bool.true_and]; simpa using hk)
        have hp := F.hp seed h32
        have hg := F.hg seed (innB (withK ⟨sr, b, d, e, f⟩ (F.pub seed))) h32
        have hin := (sizes_cert (withK ⟨sr, b, d, e, f⟩ (F.pub seed))).2.2.2.2.2.2
        have hin2 : (innB (withK ⟨sr, b, d, e, f⟩ (F.pub seed))).size ≤ 10000 := by
          have e1 : (withK ⟨sr, b, d, e, f⟩ (F.pub seed)).nm = b := rfl
          have e2 : (withK ⟨sr, b, d, e, f⟩ (F.pub seed)).key = F.pub seed := rfl
          rw [e1, e2] at hin
          omega
        have CI := Lib.hid (fun W => rInner_any sr b d e (F.pub seed) W ha0 ha1 hd0 hd1 he0 he1 (by omega) (by omega))
        have CS := Lib.hid (fun W => R.sgn seed (innB (withK ⟨sr, b, d, e, f⟩ (F.pub seed))) W (by omega))
        have CW := Lib.hid (fun W => rWhole_any (innB (withK ⟨sr, b, d, e, f⟩ (F.pub seed))) (F.sgn seed (innB (withK ⟨sr, b, d, e, f⟩ (F.pub seed)))) W (by omega) (by omega))
        rw [show (⟨sr, b, d, e, F.pub seed⟩ : CertF) = withK ⟨sr, b, d, e, f⟩ (F.pub seed) from rfl] at CI
        have HV := Lib.hid HV0
        have se := str_empty f
        have sq := str_eq f (F.pub seed)
        have q1 : (f.toList.isEmpty = true ∧ (f.toList == []) = true) ∨ (f.toList.isEmpty = false ∧ (f.toList == []) = false ∧ (f.toList == (F.pub seed).toList) = true) := by
          rcases Nat.eq_zero_or_pos f.size with h0 | h0
          · left; rw [se.1, se.2, decide_eq_true h0]; exact ⟨rfl, rfl⟩
          · right
            rcases hk with hk | hk
            · omega
            · rw [se.1, se.2, sq, decide_eq_false (by omega), decide_eq_true hk]; exact ⟨rfl, rfl, rfl⟩
        clear hr ha0 ha1 hd0 hd1 he0 he1 hs hf R hp hg hin hin2 hsd h32 hk se sq HV0
        generalize whoB (innB (withK ⟨sr, b, d, e, f⟩ (F.pub seed))) (F.sgn seed (innB (withK ⟨sr, b, d, e, f⟩ (F.pub seed)))) = wh at *
        generalize F.sgn seed (innB (withK ⟨sr, b, d, e, f⟩ (F.pub seed))) = sg at *
        generalize innB (withK ⟨sr, b, d, e, f⟩ (F.pub seed)) = inn at *
        generalize F.pub seed = pk at *
        rcases q1 with ⟨qa, qb⟩ | ⟨qa, qb, qc⟩
        · go_enter Tryz.func15, Tryz.ntmps15
          go_wp2_with (with_reducible refine wpList_load_row rfl 28 _ rfl w.heap.size rfl 28 _ (0, 0) _ HG.out Tryz.underlying28 rfl (sizeCert _ _ _ _ _) ?_)
          generalize (w.alloc _) = W0 at *
          generalize hBB : w.heap.size = g at *
          have HBB := Lib.hid hBB
          clear hBB
          refine (CR.out _).mono ?_
          rintro ee V1 ⟨rfl, bk⟩
          replace hb := hb.trans (bk.mono (Nat.le_of_lt (blk_lt HG.out)))
          replace HG := Lib.hid (blk_below bk (blk_lt HG.out) HG.out)
          clear bk CR
          go_wp2_with fail
          refine (CP.out _).mono ?_
          rintro ee V2 ⟨rfl, bk⟩
          replace hb := hb.trans (bk.mono (Nat.le_of_lt (blk_lt HG.out)))
          replace HG := Lib.hid (blk_below bk (blk_lt HG.out) HG.out)
          clear bk CP
          obtain ⟨c0, c1, c2, c3, c4⟩ := cer_cells HG.out
          have fc := frozen_of_row V2 g 4 _ _ HG.out
          have HG2 := Lib.hid (cell_set (i := 4) (v := .string pk) HG.out)
          rw [show (cRow sr b d e f).setIfInBounds 4 (.string pk) = cRow sr b d e pk from rfl] at HG2
          have hb2 : Below g w (V2.setCell ⟨g, 4, none⟩ (.string pk)) := hb.setCell (by simp) _
          clear HG c0 c1 c2 c3
          have HG := HG2
          clear HG2
          go_wp2_with (with_reducible refine wpList_load_row rfl 28 _ rfl g rfl 28 _ (0, 0) _ HG.out Tryz.underlying28 rfl (sizeCert _ _ _ _ _) ?_)
          clear c4 fc hb
          generalize (World.setCell _ _ _) = V3 at *
          have hb := hb2
          clear hb2
          refine (CI.out _).mono ?_
          rintro ee V4 ⟨rfl, bk⟩
          replace hb := hb.trans (bk.mono (Nat.le_of_lt (blk_lt HG.out)))
          replace HG := Lib.hid (blk_below bk (blk_lt HG.out) HG.out)
          clear bk CI
          go_wp2_with fail
          refine (CS.out _).mono ?_
          rintro ee V5 ⟨rfl, bk⟩
          replace hb := hb.trans (bk.mono (Nat.le_of_lt (blk_lt HG.out)))
          replace HG := Lib.hid (blk_below bk (blk_lt HG.out) HG.out)
          clear bk CS
          go_wp2_with fail
          refine (CW.out _).mono ?_
          rintro ee V6 ⟨rfl, bk⟩
          replace hb := hb.trans (bk.mono (Nat.le_of_lt (blk_lt HG.out)))
          replace HG := Lib.hid (blk_below bk (blk_lt HG.out) HG.out)
          clear bk CW
          go_wp2_with fail
          go_ret2
          exact ⟨by rw [HV.out.1, HV.out.2]; rfl, by rw [HBB.out]; exact hb⟩
        · go_enter Tryz.func15, Tryz.ntmps15
          go_wp2_with (with_reducible refine wpList_load_row rfl 28 _ rfl w.heap.size rfl 28 _ (0, 0) _ HG.out Tryz.underlying28 rfl (sizeCert _ _ _ _ _) ?_)
          generalize (w.alloc _) = W0 at *
          generalize hBB : w.heap.size = g at *
          have HBB := Lib.hid hBB
          clear hBB
          refine (CR.out _).mono ?_
          rintro ee V1 ⟨rfl, bk⟩
          replace hb := hb.trans (bk.mono (Nat.le_of_lt (blk_lt HG.out)))
          replace HG := Lib.hid (blk_below bk (blk_lt HG.out) HG.out)
          clear bk CR
          go_wp2_with fail
          refine (CP.out _).mono ?_
          rintro ee V2 ⟨rfl, bk⟩
          replace hb := hb.trans (bk.mono (Nat.le_of_lt (blk_lt HG.out)))
          replace HG := Lib.hid (blk_below bk (blk_lt HG.out) HG.out)
          clear bk CP
          obtain ⟨c0, c1, c2, c3, c4⟩ := cer_cells HG.out
          have fc := frozen_of_row V2 g 4 _ _ HG.out
          have HG2 := Lib.hid (cell_set (i := 4) (v := .string pk) HG.out)
          rw [show (cRow sr b d e f).setIfInBounds 4 (.string pk) = cRow sr b d e pk from rfl] at HG2
          have hb2 : Below g w (V2.setCell ⟨g, 4, none⟩ (.string pk)) := hb.setCell (by simp) _
          clear HG c0 c1 c2 c3
          have HG := HG2
          clear HG2
          go_wp2_with (with_reducible refine wpList_load_row rfl 28 _ rfl g rfl 28 _ (0, 0) _ HG.out Tryz.underlying28 rfl (sizeCert _ _ _ _ _) ?_)
          clear c4 fc hb
          generalize (World.setCell _ _ _) = V3 at *
          have hb := hb2
          clear hb2
          refine (CI.out _).mono ?_
          rintro ee V4 ⟨rfl, bk⟩
          replace hb := hb.trans (bk.mono (Nat.le_of_lt (blk_lt HG.out)))
          replace HG := Lib.hid (blk_below bk (blk_lt HG.out) HG.out)
          clear bk CI
          go_wp2_with fail
          refine (CS.out _).mono ?_
          rintro ee V5 ⟨rfl, bk⟩
          replace hb := hb.trans (bk.mono (Nat.le_of_lt (blk_lt HG.out)))
          replace HG := Lib.hid (blk_below bk (blk_lt HG.out) HG.out)
          clear bk CS
          go_wp2_with fail
          refine (CW.out _).mono ?_
          rintro ee V6 ⟨rfl, bk⟩
          replace hb := hb.trans (bk.mono (Nat.le_of_lt (blk_lt HG.out)))
          replace HG := Lib.hid (blk_below bk (blk_lt HG.out) HG.out)
          clear bk CW
          go_wp2_with fail
          go_ret2
          exact ⟨by rw [HV.out.1, HV.out.2]; rfl, by rw [HBB.out]; exact hb⟩
      · have HV := Lib.hid (mak_bad F ⟨sr, b, d, e, f⟩ seed 21 (by rw [makE, hr, if_pos rfl, if_neg]; rw [keyOk, decide_eq_true h32, Bool.true_and]; simpa using hk) (by decide))
        have qa : f.toList.isEmpty = false := by rw [(str_empty f).1]; exact decide_eq_false (fun h => hk (.inl h))
        have qb : (f.toList == []) = false := by rw [(str_empty f).2]; exact decide_eq_false (fun h => hk (.inl h))
        have qc : (f.toList == (F.pub seed).toList) = false := by rw [str_eq]; exact decide_eq_false (fun h => hk (.inr h))
        clear hr ha0 ha1 hd0 hd1 he0 he1 hs hf R hsd h32 hk
        generalize F.pub seed = pk at *
        go_enter Tryz.func15, Tryz.ntmps15
        go_wp2_with (with_reducible refine wpList_load_row rfl 28 _ rfl w.heap.size rfl 28 _ (0, 0) _ HG.out Tryz.underlying28 rfl (sizeCert _ _ _ _ _) ?_)
        generalize (w.alloc _) = W0 at *
        generalize hBB : w.heap.size = g at *
        have HBB := Lib.hid hBB
        clear hBB
        refine (CR.out _).mono ?_
        rintro ee V1 ⟨rfl, bk⟩
        replace hb := hb.trans (bk.mono (Nat.le_of_lt (blk_lt HG.out)))
        replace HG := Lib.hid (blk_below bk (blk_lt HG.out) HG.out)
        clear bk CR
        go_wp2_with fail
        refine (CP.out _).mono ?_
        rintro ee V2 ⟨rfl, bk⟩
        replace hb := hb.trans (bk.mono (Nat.le_of_lt (blk_lt HG.out)))
        replace HG := Lib.hid (blk_below bk (blk_lt HG.out) HG.out)
        clear bk CP
        obtain ⟨c0, c1, c2, c3, c4⟩ := cer_cells HG.out
        go_wp2_with fail
        go_ret2
        exact ⟨by rw [HV.out.1, HV.out.2]; rfl, by rw [HBB.out]; exact hb⟩
    · have hsd : sdE seed = 21 := if_neg h32
      rw [hsd] at CP
      have HV := Lib.hid (mak_bad F ⟨sr, b, d, e, f⟩ seed 21 (by rw [makE, hr, if_pos rfl, if_neg]; rw [keyOk, decide_eq_false h32, Bool.false_and]; exact Bool.false_ne_true) (by decide))
      clear hr ha0 ha1 hd0 hd1 he0 he1 hs hf R hsd h32
      generalize F.pub seed = pk at *
      go_enter Tryz.func15, Tryz.ntmps15
      go_wp2_with (with_reducible refine wpList_load_row rfl 28 _ rfl w.heap.size rfl 28 _ (0, 0) _ HG.out Tryz.underlying28 rfl (sizeCert _ _ _ _ _) ?_)
      generalize (w.alloc _) = W0 at *
      generalize hBB : w.heap.size = g at *
      have HBB := Lib.hid hBB
      clear hBB
      refine (CR.out _).mono ?_
      rintro ee V1 ⟨rfl, bk⟩
      replace hb := hb.trans (bk.mono (Nat.le_of_lt (blk_lt HG.out)))
      replace HG := Lib.hid (blk_below bk (blk_lt HG.out) HG.out)
      clear bk CR
      go_wp2_with fail
      refine (CP.out _).mono ?_
      rintro ee V2 ⟨rfl, bk⟩
      replace hb := hb.trans (bk.mono (Nat.le_of_lt (blk_lt HG.out)))
      replace HG := Lib.hid (blk_below bk (blk_lt HG.out) HG.out)
      clear bk CP
      go_wp2_with fail
      go_ret2
      exact ⟨by rw [HV.out.1, HV.out.2]; rfl, by rw [HBB.out]; exact hb⟩
end

section
open Go.RowKit Go.Sort
set_option maxRecDepth 100000
set_option linter.unusedSimpArgs false
set_option linter.unusedVariables false

theorem cer_row (sr : Int) (b : ByteArray) (d e : Int) (f : ByteArray) : cerL ⟨sr, b, d, e, f⟩ = cRow sr b d e f := rfl
theorem cer_none : cerL noC = cRow 0 ⟨#[]⟩ 0 0 ⟨#[]⟩ := rfl
set_option maxHeartbeats 16000000 in
theorem rReadC_any (F : SignF) (R : SignR F) (s : ByteArray) (w : World) :
    Calls Tryz.prog 17 #[.string s] w fun ee w' => ee = .returned (.tuple #[.agg (cerL (reC F s)), .int .i64 (reE F s)]) ∧ Below w.heap.size w w' := by
  obtain ⟨hz, hi⟩ := zero_of_info infoCert
  have HR := Lib.hid (blk_new w (.cells (cRow 0 ⟨#[]⟩ 0 0 ⟨#[]⟩) 28))
  have hb := below_new w (.cells (cRow 0 ⟨#[]⟩ 0 0 ⟨#[]⟩) 28)
  clear hi
  by_cases hbig : 1000 < s.size
  · have d1 : decide ((1000 : Int) < (s.size : Int)) = true := by simp; omega
    have HV := Lib.hid (re_bad F s 13 (by rw [reE, if_pos hbig]) (by decide))
    clear hbig R
    go_enter Tryz.func17, Tryz.ntmps17
    go_wp2_with (with_reducible refine wpList_store_row rfl 28 _ _ rfl w.heap.size (cRow 0 ⟨#[]⟩ 0 0 ⟨#[]⟩) rfl rfl 28 _ HR.out (sizeCert _ _ _ _ _) rfl (oneCert _ _ _ _ _) ?_)
    exact bodyPost_ret (results_row_tmpC (by rfl) _ _ w.heap.size 28 _ (0, 0) _ rfl (setRow_heap _ _ _ _ _ _ HR.out) Tryz.underlying28 rfl (sizeCert _ _ _ _ _)) rfl ⟨by rw [HV.out.1, HV.out.2]; rfl, by exact below_setRow hb (Nat.le_refl _) _⟩

  have d1 : decide ((1000 : Int) < (s.size : Int)) = false := by simp; omega
  have CP := Lib.hid (fun W => rParts_any s W (by omega))
  have hbo := par_bounds s
  have hsz := par_sizes s
  have hok := okC_parts s
  have hre : reE F s = if okC s = true then (if F.ver (parT s).1.key (innB (parT s).1) (parT s).2 = 0 then 0 else 22) else 11 := by rw [reE, if_neg hbig]
  have hbad := fun q h hq => re_bad F s q h hq
  have hgood := fun h => re_good F s h
  obtain ⟨⟨⟨sr, b, d, e, f⟩, sg⟩, hp⟩ : ∃ p, parT s = p := ⟨_, rfl⟩
  rw [hp] at CP hbo hsz hok hre hgood
  simp only at hbo hsz hok hre
  obtain ⟨hb1, hb2, hb3, hb4, hb5, hb6⟩ := hbo
  obtain ⟨hs1, hs2, hs3⟩ := hsz
  rw [cer_row] at CP
  have CR := Lib.hid (fun W => rRight_any sr b d e f W (by omega))
  have CI := Lib.hid (fun W => rInner_any sr b d e f W hb1 hb2 (by omega) (by omega) (by omega) (by omega) (by omega) (by omega))
  have hin := (sizes_cert ⟨sr, b, d, e, f⟩).2.2.2.2.2.2
  simp only at hin
  have CW := Lib.hid (fun W => rWhole_any (innB ⟨sr, b, d, e, f⟩) sg W (by omega) (by omega))
  have CV := Lib.hid (fun W => R.ver f (innB ⟨sr, b, d, e, f⟩) sg W (by omega))
  clear hb1 hb2 hb3 hb4 hb5 hb6 hs1 hs2 hs3 hin hp R hbig
  cases hr : rightC ⟨sr, b, d, e, f⟩ with
  | false =>
    rw [hr] at CR
    have HV := Lib.hid (hbad 11 (by rw [hre, hok, hr, Bool.false_and, if_neg Bool.false_ne_true]) (by decide))
    clear hr hre hbad hgood hok CI CW CV
    go_enter Tryz.func17, Tryz.ntmps17
    go_wp2_with fail
    generalize (w.alloc _) = W0 at *
    generalize hBB : w.heap.size = B at *
    have HBB := Lib.hid hBB
    clear hBB
    refine (CP.out _).mono ?_
    rintro ee W1 ⟨rfl, bk⟩
    replace hb := hb.trans (bk.mono (Nat.le_of_lt (blk_lt HR.out)))
    replace HR := Lib.hid (blk_below bk (blk_lt HR.out) HR.out)
    clear bk CP
    have HN := Lib.hid (blk_new W1 (.cells (cRow 0 ⟨#[]⟩ 0 0 ⟨#[]⟩) 28))
    have HG := Lib.hid (setRow_heap _ W1.heap.size _ (cRow sr b d e f) _ _ HN.out)
    have bk2 := below_setRow (below_new W1 (.cells (cRow 0 ⟨#[]⟩ 0 0 ⟨#[]⟩) 28)) (Nat.le_refl _) (cRow sr b d e f)
    have HR2 := Lib.hid (blk_below bk2 (blk_lt HR.out) HR.out)
    have hb2 := hb.trans (bk2.mono (Nat.le_of_lt (blk_lt HR.out)))
    have HNE : Hid (B < W1.heap.size) := Lib.hid (blk_lt HR.out)
    clear bk2 HR hb
    have HR := HR2
    have hb := hb2
    clear HR2 hb2
    go_wp2_with (first | (with_reducible refine wpList_store_row rfl 28 _ _ rfl W1.heap.size (cRow sr b d e f) rfl rfl 28 _ HN.out (sizeCert _ _ _ _ _) rfl (oneCert _ _ _ _ _) ?_) | (with_reducible refine wpList_load_row rfl 28 _ rfl W1.heap.size rfl 28 _ (0, 0) _ HG.out Tryz.underlying28 rfl (sizeCert _ _ _ _ _) ?_))
    clear HN hz
    generalize (World.setRow (World.alloc _ _) _ _) = W2 at *
    generalize W1.heap.size = g at *
    refine (CR.out _).mono ?_
    rintro ee W3 ⟨rfl, bk⟩
    replace hb := hb.trans (bk.mono (Nat.le_of_lt (blk_lt HR.out)))
    replace HR := Lib.hid (blk_below bk (blk_lt HR.out) HR.out)
    replace HG := Lib.hid (blk_below bk (blk_lt HG.out) HG.out)
    clear bk CR
    obtain ⟨c0, c1, c2, c3, c4⟩ := cer_cells HG.out
    go_wp2_with (with_reducible refine wpList_store_row rfl 28 _ _ rfl B (cRow 0 ⟨#[]⟩ 0 0 ⟨#[]⟩) rfl rfl 28 _ HR.out (sizeCert _ _ _ _ _) rfl (oneCert _ _ _ _ _) ?_)
    exact bodyPost_ret (results_row_tmpC (by rfl) _ _ B 28 _ (0, 0) _ rfl (setRow_heap _ _ _ _ _ _ HR.out) Tryz.underlying28 rfl (sizeCert _ _ _ _ _)) rfl ⟨by rw [HV.out.1, HV.out.2]; rfl, by rw [HBB.out]; exact below_setRow hb (Nat.le_refl _) _⟩

  | true =>
    rw [hr] at CR
    rw [hr, Bool.true_and] at hok
    by_cases hk : f.size = 32
    · have d2 : ((f.size : Int) != 32) = false := by rw [hk]; rfl
      rw [decide_eq_true hk, Bool.true_and] at hok
      by_cases hg : sg.size = 64
      · have d3 : ((sg.size : Int) != 64) = false := by rw [hg]; rfl
        rw [decide_eq_true hg, Bool.true_and] at hok
        have hse := str_eq (whoB (innB ⟨sr, b, d, e, f⟩) sg) s
        by_cases hw : whoB (innB ⟨sr, b, d, e, f⟩) sg = s
        · rw [decide_eq_true hw] at hse hok
          rw [hok, if_pos rfl] at hre
          clear hok hr hk hg hw
          generalize whoB (innB ⟨sr, b, d, e, f⟩) sg = wh at *
          generalize hII : innB ⟨sr, b, d, e, f⟩ = inn at *
          clear hII
          by_cases hv : F.ver f inn sg = 0
          · have HV := Lib.hid (hgood (by rw [hre, if_pos hv]))
            rw [hv] at CV
            clear hre hbad hgood hv
            go_enter Tryz.func17, Tryz.ntmps17
            go_wp2_with fail
            generalize (w.alloc _) = W0 at *
            generalize hBB : w.heap.size = B at *
            have HBB := Lib.hid hBB
            clear hBB
            refine (CP.out _).mono ?_
            rintro ee W1 ⟨rfl, bk⟩
            replace hb := hb.trans (bk.mono (Nat.le_of_lt (blk_lt HR.out)))
            replace HR := Lib.hid (blk_below bk (blk_lt HR.out) HR.out)
            clear bk CP
            have HN := Lib.hid (blk_new W1 (.cells (cRow 0 ⟨#[]⟩ 0 0 ⟨#[]⟩) 28))
            have HG := Lib.hid (setRow_heap _ W1.heap.size _ (cRow sr b d e f) _ _ HN.out)
            have bk2 := below_setRow (below_new W1 (.cells (cRow 0 ⟨#[]⟩ 0 0 ⟨#[]⟩) 28)) (Nat.le_refl _) (cRow sr b d e f)
            have HR2 := Lib.hid (blk_below bk2 (blk_lt HR.out) HR.out)
            have hb2 := hb.trans (bk2.mono (Nat.le_of_lt (blk_lt HR.out)))
            have HNE : Hid (B < W1.heap.size) := Lib.hid (blk_lt HR.out)
            clear bk2 HR hb
            have HR := HR2
            have hb := hb2
            clear HR2 hb2
            go_wp2_with (first | (with_reducible refine wpList_store_row rfl 28 _ _ rfl W1.heap.size (cRow sr b d e f) rfl rfl 28 _ HN.out (sizeCert _ _ _ _ _) rfl (oneCert _ _ _ _ _) ?_) | (with_reducible refine wpList_load_row rfl 28 _ rfl W1.heap.size rfl 28 _ (0, 0) _ HG.out Tryz.underlying28 rfl (sizeCert _ _ _ _ _) ?_))
            clear HN hz
            generalize (World.setRow (World.alloc _ _) _ _) = W2 at *
            generalize W1.heap.size = g at *
            refine (CR.out _).mono ?_
            rintro ee W3 ⟨rfl, bk⟩
            replace hb := hb.trans (bk.mono (Nat.le_of_lt (blk_lt HR.out)))
            replace HR := Lib.hid (blk_below bk (blk_lt HR.out) HR.out)
            replace HG := Lib.hid (blk_below bk (blk_lt HG.out) HG.out)
            clear bk CR
            obtain ⟨c0, c1, c2, c3, c4⟩ := cer_cells HG.out
            go_wp2_with (with_reducible refine wpList_load_row rfl 28 _ rfl g rfl 28 _ (0, 0) _ HG.out Tryz.underlying28 rfl (sizeCert _ _ _ _ _) ?_)
            clear c0 c1 c2 c3 c4
            refine (CI.out _).mono ?_
            rintro ee W4 ⟨rfl, bk⟩
            replace hb := hb.trans (bk.mono (Nat.le_of_lt (blk_lt HR.out)))
            replace HR := Lib.hid (blk_below bk (blk_lt HR.out) HR.out)
            replace HG := Lib.hid (blk_below bk (blk_lt HG.out) HG.out)
            clear bk
            go_wp2_with fail
            refine (CW.out _).mono ?_
            rintro ee W5 ⟨rfl, bk⟩
            replace hb := hb.trans (bk.mono (Nat.le_of_lt (blk_lt HR.out)))
            replace HR := Lib.hid (blk_below bk (blk_lt HR.out) HR.out)
            replace HG := Lib.hid (blk_below bk (blk_lt HG.out) HG.out)
            clear bk
            go_wp2_with fail
            obtain ⟨c0, c1, c2, c3, c4⟩ := cer_cells HG.out
            refine wp_region_told 6 47 [(Told.val (.pointer (some ⟨g, 4, none⟩)), [4]),
              (Told.val (.string f), [38]),
              (Told.val (.agg (cRow sr b d e f)), [4]),
              (Told.val (.string inn), [40]),
              (Told.val (.string sg), [5]),
              (Told.val (.int .i64 0), [39, 41, 42])]
              (by kernel_rfl) (by kernel_rfl) rfl ?_ ?_
            · simp only [List.take_succ_cons, List.take_zero, toldObl, and_true]
              refine And.intro ?_ (And.intro ?_ (And.intro ?_ (And.intro ?_ (And.intro ?_ (?_)))))
              · intro a w hb h
                have e0 : a.tmps.getD 4 undef = .pointer (some ⟨g, 0, none⟩) := h 4 (by simp)
                simp only [Array.getD_eq_getD_getElem?] at e0
                refine told_q ?_
                simp [go_sem, e0, sQuiet]
              · intro a w hb h
                have e0 : a.tmps.getD 38 undef = .pointer (some ⟨g, 4, none⟩) := h 38 (by simp)
                simp only [Array.getD_eq_getD_getElem?] at e0
                have hc := (hb.cell (block_lt_of_cell c4)).trans c4
                refine told_q ?_
                simp [go_sem, e0, sQuiet, hc]
              · intro a w hb h
                have e0 : a.tmps.getD 4 undef = .pointer (some ⟨g, 0, none⟩) := h 4 (by simp)
                refine told_q ?_
                exact sQuiet_load_row 28 (.tmp 4) rfl g e0 28 _ (0, 0) _ (blk_below hb (blk_lt HG.out) HG.out) Tryz.underlying28 rfl (sizeCert _ _ _ _ _)
              · intro a w hb h
                have e0 : a.tmps.getD 40 undef = .agg (cRow sr b d e f) := h 40 (by simp)
                simp only [Array.getD_eq_getD_getElem?] at e0
                refine told_q ?_
                simp [go_sem, e0, sQuiet]
                exact CI.out _
              · intro a w hb h
                have e0 : a.tmps.getD 5 undef = .string sg := h 5 (by simp)
                simp only [Array.getD_eq_getD_getElem?] at e0
                refine told_q ?_
                simp [go_sem, e0, sQuiet]
              · intro a w hb h
                have e0 : a.tmps.getD 39 undef = .string f := h 39 (by simp)
                have e1 : a.tmps.getD 41 undef = .string inn := h 41 (by simp)
                have e2 : a.tmps.getD 42 undef = .string sg := h 42 (by simp)
                simp only [Array.getD_eq_getD_getElem?] at e0 e1 e2
                refine told_q ?_
                simp [go_sem, e0, e1, e2, sQuiet]
                exact CV.out _
            simp only [List.take_succ_cons, List.take_zero, List.drop_succ_cons, List.drop_zero, toldEnd, Act.put, List.setIfInBounds_toArray, List.set_cons_succ, List.set_cons_zero]
            rintro X bk v38 q38 v39 q39 v40 q40 v41 q41 v42 q42 v43 q43
            obtain rfl := q38.symm
            obtain rfl := q39.symm
            obtain rfl := q40.symm
            obtain rfl := q41.symm
            obtain rfl := q42.symm
            obtain rfl := q43.symm
            clear q38 q39 q40 q41 q42 q43
            replace hb := hb.trans (bk.mono (Nat.le_of_lt (blk_lt HR.out)))
            replace HR := Lib.hid (blk_below bk (blk_lt HR.out) HR.out)
            replace HG := Lib.hid (blk_below bk (blk_lt HG.out) HG.out)
            clear bk c0 c1 c2 c3 c4
            go_wp2_with (first | (with_reducible refine wpList_load_row rfl 28 _ rfl g rfl 28 _ (0, 0) _ HG.out Tryz.underlying28 rfl (sizeCert _ _ _ _ _) ?_) | (with_reducible refine wpList_store_row rfl 28 _ _ rfl B (cRow sr b d e f) rfl rfl 28 _ HR.out (sizeCert _ _ _ _ _) rfl (oneCert _ _ _ _ _) ?_))
            exact bodyPost_ret (results_row_tmpC (by rfl) _ _ B 28 _ (0, 0) _ rfl (setRow_heap _ _ _ _ _ _ HR.out) Tryz.underlying28 rfl (sizeCert _ _ _ _ _)) rfl ⟨by rw [HV.out.1, HV.out.2]; rfl, by rw [HBB.out]; exact below_setRow hb (Nat.le_refl _) _⟩

          · have HV := Lib.hid (hbad 22 (by rw [hre, if_neg hv]) (by decide))
            have d5 : (F.ver f inn sg != 0) = true := by simp [hv]
            clear hre hbad hgood hv
            generalize F.ver f inn sg = vv at *
            go_enter Tryz.func17, Tryz.ntmps17
            go_wp2_with fail
            generalize (w.alloc _) = W0 at *
            generalize hBB : w.heap.size = B at *
            have HBB := Lib.hid hBB
            clear hBB
            refine (CP.out _).mono ?_
            rintro ee W1 ⟨rfl, bk⟩
            replace hb := hb.trans (bk.mono (Nat.le_of_lt (blk_lt HR.out)))
            replace HR := Lib.hid (blk_below bk (blk_lt HR.out) HR.out)
            clear bk CP
            have HN := Lib.hid (blk_new W1 (.cells (cRow 0 ⟨#[]⟩ 0 0 ⟨#[]⟩) 28))
            have HG := Lib.hid (setRow_heap _ W1.heap.size _ (cRow sr b d e f) _ _ HN.out)
            have bk2 := below_setRow (below_new W1 (.cells (cRow 0 ⟨#[]⟩ 0 0 ⟨#[]⟩) 28)) (Nat.le_refl _) (cRow sr b d e f)
            have HR2 := Lib.hid (blk_below bk2 (blk_lt HR.out) HR.out)
            have hb2 := hb.trans (bk2.mono (Nat.le_of_lt (blk_lt HR.out)))
            have HNE : Hid (B < W1.heap.size) := Lib.hid (blk_lt HR.out)
            clear bk2 HR hb
            have HR := HR2
            have hb := hb2
            clear HR2 hb2
            go_wp2_with (first | (with_reducible refine wpList_store_row rfl 28 _ _ rfl W1.heap.size (cRow sr b d e f) rfl rfl 28 _ HN.out (sizeCert _ _ _ _ _) rfl (oneCert _ _ _ _ _) ?_) | (with_reducible refine wpList_load_row rfl 28 _ rfl W1.heap.size rfl 28 _ (0, 0) _ HG.out Tryz.underlying28 rfl (sizeCert _ _ _ _ _) ?_))
            clear HN hz
            generalize (World.setRow (World.alloc _ _) _ _) = W2 at *
            generalize W1.heap.size = g at *
            refine (CR.out _).mono ?_
            rintro ee W3 ⟨rfl, bk⟩
            replace hb := hb.trans (bk.mono (Nat.le_of_lt (blk_lt HR.out)))
            replace HR := Lib.hid (blk_below bk (blk_lt HR.out) HR.out)
            replace HG := Lib.hid (blk_below bk (blk_lt HG.out) HG.out)
            clear bk CR
            obtain ⟨c0, c1, c2, c3, c4⟩ := cer_cells HG.out
            go_wp2_with (with_reducible refine wpList_load_row rfl 28 _ rfl g rfl 28 _ (0, 0) _ HG.out Tryz.underlying28 rfl (sizeCert _ _ _ _ _) ?_)
            clear c0 c1 c2 c3 c4
            refine (CI.out _).mono ?_
            rintro ee W4 ⟨rfl, bk⟩
            replace hb := hb.trans (bk.mono (Nat.le_of_lt (blk_lt HR.out)))
            replace HR := Lib.hid (blk_below bk (blk_lt HR.out) HR.out)
            replace HG := Lib.hid (blk_below bk (blk_lt HG.out) HG.out)
            clear bk
            go_wp2_with fail
            refine (CW.out _).mono ?_
            rintro ee W5 ⟨rfl, bk⟩
            replace hb := hb.trans (bk.mono (Nat.le_of_lt (blk_lt HR.out)))
            replace HR := Lib.hid (blk_below bk (blk_lt HR.out) HR.out)
            replace HG := Lib.hid (blk_below bk (blk_lt HG.out) HG.out)
            clear bk
            go_wp2_with fail
            obtain ⟨c0, c1, c2, c3, c4⟩ := cer_cells HG.out
            refine wp_region_told 6 47 [(Told.val (.pointer (some ⟨g, 4, none⟩)), [4]),
              (Told.val (.string f), [38]),
              (Told.val (.agg (cRow sr b d e f)), [4]),
              (Told.val (.string inn), [40]),
              (Told.val (.string sg), [5]),
              (Told.val (.int .i64 vv), [39, 41, 42])]
              (by kernel_rfl) (by kernel_rfl) rfl ?_ ?_
            · simp only [List.take_succ_cons, List.take_zero, toldObl, and_true]
              refine And.intro ?_ (And.intro ?_ (And.intro ?_ (And.intro ?_ (And.intro ?_ (?_)))))
              · intro a w hb h
                have e0 : a.tmps.getD 4 undef = .pointer (some ⟨g, 0, none⟩) := h 4 (by simp)
                simp only [Array.getD_eq_getD_getElem?] at e0
                refine told_q ?_
                simp [go_sem, e0, sQuiet]
              · intro a w hb h
                have e0 : a.tmps.getD 38 undef = .pointer (some ⟨g, 4, none⟩) := h 38 (by simp)
                simp only [Array.getD_eq_getD_getElem?] at e0
                have hc := (hb.cell (block_lt_of_cell c4)).trans c4
                refine told_q ?_
                simp [go_sem, e0, sQuiet, hc]
              · intro a w hb h
                have e0 : a.tmps.getD 4 undef = .pointer (some ⟨g, 0, none⟩) := h 4 (by simp)
                refine told_q ?_
                exact sQuiet_load_row 28 (.tmp 4) rfl g e0 28 _ (0, 0) _ (blk_below hb (blk_lt HG.out) HG.out) Tryz.underlying28 rfl (sizeCert _ _ _ _ _)
              · intro a w hb h
                have e0 : a.tmps.getD 40 undef = .agg (cRow sr b d e f) := h 40 (by simp)
                simp only [Array.getD_eq_getD_getElem?] at e0
                refine told_q ?_
                simp [go_sem, e0, sQuiet]
                exact CI.out _
              · intro a w hb h
                have e0 : a.tmps.getD 5 undef = .string sg := h 5 (by simp)
                simp only [Array.getD_eq_getD_getElem?] at e0
                refine told_q ?_
                simp [go_sem, e0, sQuiet]
              · intro a w hb h
                have e0 : a.tmps.getD 39 undef = .string f := h 39 (by simp)
                have e1 : a.tmps.getD 41 undef = .string inn := h 41 (by simp)
                have e2 : a.tmps.getD 42 undef = .string sg := h 42 (by simp)
                simp only [Array.getD_eq_getD_getElem?] at e0 e1 e2
                refine told_q ?_
                simp [go_sem, e0, e1, e2, sQuiet]
                exact CV.out _
            simp only [List.take_succ_cons, List.take_zero, List.drop_succ_cons, List.drop_zero, toldEnd, Act.put, List.setIfInBounds_toArray, List.set_cons_succ, List.set_cons_zero]
            rintro X bk v38 q38 v39 q39 v40 q40 v41 q41 v42 q42 v43 q43
            obtain rfl := q38.symm
            obtain rfl := q39.symm
            obtain rfl := q40.symm
            obtain rfl := q41.symm
            obtain rfl := q42.symm
            obtain rfl := q43.symm
            clear q38 q39 q40 q41 q42 q43
            replace hb := hb.trans (bk.mono (Nat.le_of_lt (blk_lt HR.out)))
            replace HR := Lib.hid (blk_below bk (blk_lt HR.out) HR.out)
            replace HG := Lib.hid (blk_below bk (blk_lt HG.out) HG.out)
            clear bk c0 c1 c2 c3 c4
            go_wp2_with (with_reducible refine wpList_store_row rfl 28 _ _ rfl B (cRow 0 ⟨#[]⟩ 0 0 ⟨#[]⟩) rfl rfl 28 _ HR.out (sizeCert _ _ _ _ _) rfl (oneCert _ _ _ _ _) ?_)
            exact bodyPost_ret (results_row_tmpC (by rfl) _ _ B 28 _ (0, 0) _ rfl (setRow_heap _ _ _ _ _ _ HR.out) Tryz.underlying28 rfl (sizeCert _ _ _ _ _)) rfl ⟨by rw [HV.out.1, HV.out.2]; rfl, by rw [HBB.out]; exact below_setRow hb (Nat.le_refl _) _⟩

        · rw [decide_eq_false hw] at hse hok
          rw [hok, if_neg Bool.false_ne_true] at hre
          have HV := Lib.hid (hbad 11 hre (by decide))
          clear hok hr hk hg hw hre hbad hgood CV
          generalize whoB (innB ⟨sr, b, d, e, f⟩) sg = wh at *
          generalize hII : innB ⟨sr, b, d, e, f⟩ = inn at *
          clear hII
          go_enter Tryz.func17, Tryz.ntmps17
          go_wp2_with fail
          generalize (w.alloc _) = W0 at *
          generalize hBB : w.heap.size = B at *
          have HBB := Lib.hid hBB
          clear hBB
          refine (CP.out _).mono ?_
          rintro ee W1 ⟨rfl, bk⟩
          replace hb := hb.trans (bk.mono (Nat.le_of_lt (blk_lt HR.out)))
          replace HR := Lib.hid (blk_below bk (blk_lt HR.out) HR.out)
          clear bk CP
          have HN := Lib.hid (blk_new W1 (.cells (cRow 0 ⟨#[]⟩ 0 0 ⟨#[]⟩) 28))
          have HG := Lib.hid (setRow_heap _ W1.heap.size _ (cRow sr b d e f) _ _ HN.out)
          have bk2 := below_setRow (below_new W1 (.cells (cRow 0 ⟨#[]⟩ 0 0 ⟨#[]⟩) 28)) (Nat.le_refl _) (cRow sr b d e f)
          have HR2 := Lib.hid (blk_below bk2 (blk_lt HR.out) HR.out)
          have hb2 := hb.trans (bk2.mono (Nat.le_of_lt (blk_lt HR.out)))
          have HNE : Hid (B < W1.heap.size) := Lib.hid (blk_lt HR.out)
          clear bk2 HR hb
          have HR := HR2
          have hb := hb2
          clear HR2 hb2
          go_wp2_with (first | (with_reducible refine wpList_store_row rfl 28 _ _ rfl W1.heap.size (cRow sr b d e f) rfl rfl 28 _ HN.out (sizeCert _ _ _ _ _) rfl (oneCert _ _ _ _ _) ?_) | (with_reducible refine wpList_load_row rfl 28 _ rfl W1.heap.size rfl 28 _ (0, 0) _ HG.out Tryz.underlying28 rfl (sizeCert _ _ _ _ _) ?_))
          clear HN hz
          generalize (World.setRow (World.alloc _ _) _ _) = W2 at *
          generalize W1.heap.size = g at *
          refine (CR.out _).mono ?_
          rintro ee W3 ⟨rfl, bk⟩
          replace hb := hb.trans (bk.mono (Nat.le_of_lt (blk_lt HR.out)))
          replace HR := Lib.hid (blk_below bk (blk_lt HR.out) HR.out)
          replace HG := Lib.hid (blk_below bk (blk_lt HG.out) HG.out)
          clear bk CR
          obtain ⟨c0, c1, c2, c3, c4⟩ := cer_cells HG.out
          go_wp2_with (with_reducible refine wpList_load_row rfl 28 _ rfl g rfl 28 _ (0, 0) _ HG.out Tryz.underlying28 rfl (sizeCert _ _ _ _ _) ?_)
          clear c0 c1 c2 c3 c4
          refine (CI.out _).mono ?_
          rintro ee W4 ⟨rfl, bk⟩
          replace hb := hb.trans (bk.mono (Nat.le_of_lt (blk_lt HR.out)))
          replace HR := Lib.hid (blk_below bk (blk_lt HR.out) HR.out)
          replace HG := Lib.hid (blk_below bk (blk_lt HG.out) HG.out)
          clear bk
          go_wp2_with fail
          refine (CW.out _).mono ?_
          rintro ee W5 ⟨rfl, bk⟩
          replace hb := hb.trans (bk.mono (Nat.le_of_lt (blk_lt HR.out)))
          replace HR := Lib.hid (blk_below bk (blk_lt HR.out) HR.out)
          replace HG := Lib.hid (blk_below bk (blk_lt HG.out) HG.out)
          clear bk
          go_wp2_with (with_reducible refine wpList_store_row rfl 28 _ _ rfl B (cRow 0 ⟨#[]⟩ 0 0 ⟨#[]⟩) rfl rfl 28 _ HR.out (sizeCert _ _ _ _ _) rfl (oneCert _ _ _ _ _) ?_)
          exact bodyPost_ret (results_row_tmpC (by rfl) _ _ B 28 _ (0, 0) _ rfl (setRow_heap _ _ _ _ _ _ HR.out) Tryz.underlying28 rfl (sizeCert _ _ _ _ _)) rfl ⟨by rw [HV.out.1, HV.out.2]; rfl, by rw [HBB.out]; exact below_setRow hb (Nat.le_refl _) _⟩

      · have d3 : ((sg.size : Int) != 64) = true := by simp; omega
        rw [decide_eq_false hg, Bool.false_and] at hok
        rw [hok, if_neg Bool.false_ne_true] at hre
        have HV := Lib.hid (hbad 11 hre (by decide))
        clear hok hr hk hg hre hbad hgood CV CI CW
        go_enter Tryz.func17, Tryz.ntmps17
        go_wp2_with fail
        generalize (w.alloc _) = W0 at *
        generalize hBB : w.heap.size = B at *
        have HBB := Lib.hid hBB
        clear hBB
        refine (CP.out _).mono ?_
        rintro ee W1 ⟨rfl, bk⟩
        replace hb := hb.trans (bk.mono (Nat.le_of_lt (blk_lt HR.out)))
        replace HR := Lib.hid (blk_below bk (blk_lt HR.out) HR.out)
        clear bk CP
        have HN := Lib.hid (blk_new W1 (.cells (cRow 0 ⟨#[]⟩ 0 0 ⟨#[]⟩) 28))
        have HG := Lib.hid (setRow_heap _ W1.heap.size _ (cRow sr b d e f) _ _ HN.out)
        have bk2 := below_setRow (below_new W1 (.cells (cRow 0 ⟨#[]⟩ 0 0 ⟨#[]⟩) 28)) (Nat.le_refl _) (cRow sr b d e f)
        have HR2 := Lib.hid (blk_below bk2 (blk_lt HR.out) HR.out)
        have hb2 := hb.trans (bk2.mono (Nat.le_of_lt (blk_lt HR.out)))
        have HNE : Hid (B < W1.heap.size) := Lib.hid (blk_lt HR.out)
        clear bk2 HR hb
        have HR := HR2
        have hb := hb2
        clear HR2 hb2
        go_wp2_with (first | (with_reducible refine wpList_store_row rfl 28 _ _ rfl W1.heap.size (cRow sr b d e f) rfl rfl 28 _ HN.out (sizeCert _ _ _ _ _) rfl (oneCert _ _ _ _ _) ?_) | (with_reducible refine wpList_load_row rfl 28 _ rfl W1.heap.size rfl 28 _ (0, 0) _ HG.out Tryz.underlying28 rfl (sizeCert _ _ _ _ _) ?_))
        clear HN hz
        generalize (World.setRow (World.alloc _ _) _ _) = W2 at *
        generalize W1.heap.size = g at *
        refine (CR.out _).mono ?_
        rintro ee W3 ⟨rfl, bk⟩
        replace hb := hb.trans (bk.mono (Nat.le_of_lt (blk_lt HR.out)))
        replace HR := Lib.hid (blk_below bk (blk_lt HR.out) HR.out)
        replace HG := Lib.hid (blk_below bk (blk_lt HG.out) HG.out)
        clear bk CR
        obtain ⟨c0, c1, c2, c3, c4⟩ := cer_cells HG.out
        go_wp2_with (with_reducible refine wpList_store_row rfl 28 _ _ rfl B (cRow 0 ⟨#[]⟩ 0 0 ⟨#[]⟩) rfl rfl 28 _ HR.out (sizeCert _ _ _ _ _) rfl (oneCert _ _ _ _ _) ?_)
        exact bodyPost_ret (results_row_tmpC (by rfl) _ _ B 28 _ (0, 0) _ rfl (setRow_heap _ _ _ _ _ _ HR.out) Tryz.underlying28 rfl (sizeCert _ _ _ _ _)) rfl ⟨by rw [HV.out.1, HV.out.2]; rfl, by rw [HBB.out]; exact below_setRow hb (Nat.le_refl _) _⟩

    · have d2 : ((f.size : Int) != 32) = true := by simp; omega
      rw [decide_eq_false hk, Bool.false_and] at hok
      rw [hok, if_neg Bool.false_ne_true] at hre
      have HV := Lib.hid (hbad 11 hre (by decide))
      clear hok hr hk hre hbad hgood CV CI CW
      go_enter Tryz.func17, Tryz.ntmps17
      go_wp2_with fail
      generalize (w.alloc _) = W0 at *
      generalize hBB : w.heap.size = B at *
      have HBB := Lib.hid hBB
      clear hBB
      refine (CP.out _).mono ?_
      rintro ee W1 ⟨rfl, bk⟩
      replace hb := hb.trans (bk.mono (Nat.le_of_lt (blk_lt HR.out)))
      replace HR := Lib.hid (blk_below bk (blk_lt HR.out) HR.out)
      clear bk CP
      have HN := Lib.hid (blk_new W1 (.cells (cRow 0 ⟨#[]⟩ 0 0 ⟨#[]⟩) 28))
      have HG := Lib.hid (setRow_heap _ W1.heap.size _ (cRow sr b d e f) _ _ HN.out)
      have bk2 := below_setRow (below_new W1 (.cells (cRow 0 ⟨#[]⟩ 0 0 ⟨#[]⟩) 28)) (Nat.le_refl _) (cRow sr b d e f)
      have HR2 := Lib.hid (blk_below bk2 (blk_lt HR.out) HR.out)
      have hb2 := hb.trans (bk2.mono (Nat.le_of_lt (blk_lt HR.out)))
      have HNE : Hid (B < W1.heap.size) := Lib.hid (blk_lt HR.out)
      clear bk2 HR hb
      have HR := HR2
      have hb := hb2
      clear HR2 hb2
      go_wp2_with (first | (with_reducible refine wpList_store_row rfl 28 _ _ rfl W1.heap.size (cRow sr b d e f) rfl rfl 28 _ HN.out (sizeCert _ _ _ _ _) rfl (oneCert _ _ _ _ _) ?_) | (with_reducible refine wpList_load_row rfl 28 _ rfl W1.heap.size rfl 28 _ (0, 0) _ HG.out Tryz.underlying28 rfl (sizeCert _ _ _ _ _) ?_))
      clear HN hz
      generalize (World.setRow (World.alloc _ _) _ _) = W2 at *
      generalize W1.heap.size = g at *
      refine (CR.out _).mono ?_
      rintro ee W3 ⟨rfl, bk⟩
      replace hb := hb.trans (bk.mono (Nat.le_of_lt (blk_lt HR.out)))
      replace HR := Lib.hid (blk_below bk (blk_lt HR.out) HR.out)
      replace HG := Lib.hid (blk_below bk (blk_lt HG.out) HG.out)
      clear bk CR
      obtain ⟨c0, c1, c2, c3, c4⟩ := cer_cells HG.out
      go_wp2_with (with_reducible refine wpList_store_row rfl 28 _ _ rfl B (cRow 0 ⟨#[]⟩ 0 0 ⟨#[]⟩) rfl rfl 28 _ HR.out (sizeCert _ _ _ _ _) rfl (oneCert _ _ _ _ _) ?_)
      exact bodyPost_ret (results_row_tmpC (by rfl) _ _ B 28 _ (0, 0) _ rfl (setRow_heap _ _ _ _ _ _ HR.out) Tryz.underlying28 rfl (sizeCert _ _ _ _ _)) rfl ⟨by rw [HV.out.1, HV.out.2]; rfl, by rw [HBB.out]; exact below_setRow hb (Nat.le_refl _) _⟩
end

section
open Go.RowKit Go.Sort
set_option maxRecDepth 100000
set_option linter.unusedSimpArgs false
set_option linter.unusedVariables false

/-- A slice's strings. -/
def StrsAt (W : World) (ao : Option Addr) (ss : List ByteArray) : Prop := ∀ j, j < ss.length → ∃ g off, ao = some ⟨g, off, none⟩ ∧ W.cell? ⟨g, off + j, none⟩ = some (.string (ss.getD j ⟨#[]⟩))
theorem StrsAt.step {W W' : World} {ao : Option Addr} {ss : List ByteArray} (h : StrsAt W ao ss) (hb : Below W.heap.size W W') : StrsAt W' ao ss := fun j hj => by
  obtain ⟨g, off, ha, hc⟩ := h j hj
  exact ⟨g, off, ha, (hb.cell (block_lt_of_cell hc)).trans hc⟩
theorem StrsAt.nil (W : World) (ao : Option Addr) : StrsAt W ao [] := fun j hj => by cases hj
def fndB (ss : List ByteArray) (z : ByteArray) (k : Nat) : Bool := (ss.take k).any fun p => decide (p = z)
theorem fnd_zero (ss : List ByteArray) (z : ByteArray) : fndB ss z 0 = false := by simp [fndB]
theorem fnd_step (ss : List ByteArray) (z : ByteArray) (k : Nat) (h : k < ss.length) : fndB ss z (k + 1) = (fndB ss z k || decide (ss.getD k ⟨#[]⟩ = z)) := by
  rw [fndB, fndB, List.take_add_one, List.any_append, List.getElem?_eq_getElem h, List.getD_eq_getElem?_getD, List.getElem?_eq_getElem h]
  simp
theorem fnd_all (ss : List ByteArray) (z : ByteArray) (k : Nat) (h : ss.length ≤ k) : fndB ss z k = ss.any fun p => decide (p = z) := by rw [fndB, List.take_of_length_le h]
set_option maxHeartbeats 16000000 in
theorem rAllow_any (F : SignF) (R : SignR F) (s : ByteArray) (now : Int) (ao : Option Addr) (n c : Nat) (ss : List ByteArray) (w : World) (hs : s.size ≤ 1000000) (hn : ss.length = n) (hm : n ≤ 1000000) (hI : StrsAt w ao ss) :
    Calls Tryz.prog 21 #[.string s, .int .i64 now, .slice ao n c] w fun ee w' => ee = .returned (.int .i64 (alE F s now ss)) ∧ Below w.heap.size w w' := by
  have CR := Lib.hid (fun W => rReadC_any F R s W)
  have CP := Lib.hid (fun W => rPrint_any F R s W hs)
  have HI := Lib.hid hI
  have hb := Below.refl w.heap.size w
  obtain ⟨hz, hi⟩ := zero_of_info infoCert
  have hal : alE F s now ss = if reE F s ≠ 0 then reE F s else if (ss.any fun p => decide (p = F.sum s)) = true then (if now < (parT s).1.fr ∨ (parT s).1.to < now then 23 else 0) else 24 := rfl
  have hgood := fun h => (re_good F s h).1
  obtain ⟨⟨sr, b, d, e, f⟩, hc⟩ : ∃ q, reC F s = q := ⟨_, rfl⟩
  rw [hc] at CR hgood
  rw [cer_row] at CR
  have HN := Lib.hid hn
  clear hI hi hs hc R
  by_cases hre : reE F s = 0
  · have hcp := hgood hre
    rw [if_neg (by simp [hre]), ← hcp] at hal
    rw [hre] at CR
    have HAL := Lib.hid hal
    have HST := Lib.hid (fun k h => fnd_step ss (F.sum s) k h)
    have HZE := Lib.hid (fnd_zero ss (F.sum s))
    have HAL2 := Lib.hid (fnd_all ss (F.sum s) n (by omega))
    clear hal hgood hre hcp hn
    generalize F.sum s = z at *
    go_enter Tryz.func21, Tryz.ntmps21
    go_wp2_with fail
    generalize hBB : w.heap.size = B at *
    have HBB := Lib.hid hBB
    have hB : B ≤ w.heap.size := by omega
    clear hBB
    refine (CR.out _).mono ?_
    rintro ee W1 ⟨rfl, bk⟩
    replace hb := hb.trans (bk.mono hB)
    replace hB := Nat.le_trans hB bk.size
    replace HI := Lib.hid (HI.out.step bk)
    clear bk CR
    have HNW := Lib.hid (blk_new W1 (.cells (cRow 0 ⟨#[]⟩ 0 0 ⟨#[]⟩) 28))
    have HG := Lib.hid (setRow_heap _ W1.heap.size _ (cRow sr b d e f) _ _ HNW.out)
    have bk2 := below_setRow (below_new W1 (.cells (cRow 0 ⟨#[]⟩ 0 0 ⟨#[]⟩) 28)) (Nat.le_refl _) (cRow sr b d e f)
    replace HI := Lib.hid (HI.out.step bk2)
    have hb2 := hb.trans (bk2.mono hB)
    have hB2 := Nat.le_trans hB bk2.size
    clear bk2 hb hB
    have hb := hb2
    have hB := hB2
    clear hb2 hB2
    go_wp2_with (with_reducible refine wpList_store_row rfl 28 _ _ rfl W1.heap.size (cRow sr b d e f) rfl rfl 28 _ HNW.out (sizeCert _ _ _ _ _) rfl (oneCert _ _ _ _ _) ?_)
    clear HNW
    generalize (World.setRow (World.alloc _ _) _ _) = W2 at *
    generalize W1.heap.size = g at *
    clear hz
    go_loopw [9, 10] (fun fv iv wr => ∃ k : Nat, k ≤ n ∧ fv = .bool (fndB ss z k) ∧ iv = .int .i64 (k : Int) ∧ StrsAt wr ao ss ∧ wr.heap[g]? = some (.cells (cRow sr b d e f) 28) ∧ Below B w wr ∧ B ≤ wr.heap.size) (fun _ iv _ => n - (intOf iv).toNat)
    case atStart => exact ⟨0, by omega, by rw [HZE.out], rfl, HI.out, HG.out, hb, hB⟩
    case round =>
      clear hb hB HI HG
      obtain ⟨k, hk, rfl, rfl, hI, hg, hb, hB⟩ := hrel
      have HI := Lib.hid hI
      have HG := Lib.hid hg
      clear hI hg
      by_cases hlt : k < n
      · have hd : decide ((k : Int) < (n : Int)) = true := by simp; omega
        have hst := HST.out k (by rw [HN.out]; exact hlt)
        cases hf : fndB ss z k with
        | true =>
          rw [hf, Bool.true_or] at hst
          have HX := Lib.hid hst
          clear hst hf
          go_wp2_with fail
          refine wp_region_reads (by kernel_rfl) (by kernel_rfl) ?_
          repeat (first | go_big_quiet_step (fail) | quiet_step (fail))
          refine wpQuiet_nil ?_
          intro X bk
          replace hb := hb.trans (bk.mono hB)
          replace hB := Nat.le_trans hB bk.size
          replace HI := Lib.hid (HI.out.step bk)
          replace HG := Lib.hid (blk_below bk (blk_lt HG.out) HG.out)
          clear bk
          go_wp2_with fail
          go_roundw
          case rel => exact ⟨k + 1, by omega, by rw [HX.out], by go_num, HI.out, HG.out, hb, hB⟩
          case measure => simp [intOf]; omega
        | false =>
          rw [hf, Bool.false_or] at hst
          obtain ⟨g2, off, rfl, ck⟩ := HI.out k (by rw [HN.out]; exact hlt)
          have hkn : (k : Int) < (n : Int) := by omega
          have heq := str_eq (ss.getD k ⟨#[]⟩) z
          obtain ⟨q, hq⟩ : ∃ q, decide (ss.getD k ⟨#[]⟩ = z) = q := ⟨_, rfl⟩
          rw [hq] at hst heq
          have HX := Lib.hid hst
          clear hst hf hq
          generalize ss.getD k ⟨#[]⟩ = pk at *
          go_wp2_with fail
          refine wp_region_toldg 10 47 [(Told.val (.bool false), [9]),
            (Told.val (.bool false), [25]),
            (Told.val (.slice (some ⟨g2, off, none⟩) n c), [2]),
            (Told.val (.int .i64 (k : Int)), [10]),
            (Told.val (.pointer (some ⟨g2, off + k, none⟩)), [27, 28]),
            (Told.val (.string pk), [29]),
            (Told.val (.string s), [0]),
            (Told.val (.string z), [31]),
            (Told.val (.bool q), [30, 32]),
            (Told.val (.bool q), [26, 33])]
            (by kernel_rfl) (by kernel_rfl) rfl (by simp [toldGuards, Told.val]) ?_ ?_
          · simp only [List.take_succ_cons, List.take_zero, toldObl, and_true]
            refine And.intro ?_ (And.intro ?_ (And.intro ?_ (And.intro ?_ (And.intro ?_ (And.intro ?_ (And.intro ?_ (And.intro ?_ (And.intro ?_ (?_)))))))))
            · intro a w hb h
              have e0 : a.tmps.getD 9 undef = .bool false := h 9 (by simp)
              simp only [Array.getD_eq_getD_getElem?] at e0
              refine told_q ?_
              simp [go_sem, e0, sQuiet]
            · intro a w hb h
              have e0 : a.tmps.getD 25 undef = .bool false := h 25 (by simp)
              simp only [Array.getD_eq_getD_getElem?] at e0
              refine told_q ?_
              simp [go_sem, e0, sQuiet]
            · intro a w hb h
              have e0 : a.tmps.getD 2 undef = .slice (some ⟨g2, off, none⟩) n c := h 2 (by simp)
              simp only [Array.getD_eq_getD_getElem?] at e0
              refine told_q ?_
              simp [go_sem, e0, sQuiet]
            · intro a w hb h
              have e0 : a.tmps.getD 10 undef = .int .i64 (k : Int) := h 10 (by simp)
              simp only [Array.getD_eq_getD_getElem?] at e0
              refine told_q ?_
              simp [go_sem, e0, sQuiet]
            · intro a w hb h
              have e0 : a.tmps.getD 27 undef = .slice (some ⟨g2, off, none⟩) n c := h 27 (by simp)
              have e1 : a.tmps.getD 28 undef = .int .i64 (k : Int) := h 28 (by simp)
              simp only [Array.getD_eq_getD_getElem?] at e0 e1
              refine told_q ?_
              simp [go_sem, e0, e1, sQuiet, hkn, hlt]
            · intro a w hb h
              have e0 : a.tmps.getD 29 undef = .pointer (some ⟨g2, off + k, none⟩) := h 29 (by simp)
              simp only [Array.getD_eq_getD_getElem?] at e0
              have hc := (hb.cell (block_lt_of_cell ck)).trans ck
              refine told_q ?_
              simp [go_sem, e0, sQuiet, hc]
            · intro a w hb h
              have e0 : a.tmps.getD 0 undef = .string s := h 0 (by simp)
              simp only [Array.getD_eq_getD_getElem?] at e0
              refine told_q ?_
              simp [go_sem, e0, sQuiet]
            · intro a w hb h
              have e0 : a.tmps.getD 31 undef = .string s := h 31 (by simp)
              simp only [Array.getD_eq_getD_getElem?] at e0
              refine told_q ?_
              simp [go_sem, e0, sQuiet]
              exact CP.out _
            · intro a w hb h
              have e0 : a.tmps.getD 30 undef = .string pk := h 30 (by simp)
              have e1 : a.tmps.getD 32 undef = .string z := h 32 (by simp)
              simp only [Array.getD_eq_getD_getElem?] at e0 e1
              refine told_q ?_
              simp [go_sem, e0, e1, sQuiet, heq]
            · intro a w hb h
              have e0 : a.tmps.getD 26 undef = .bool false := h 26 (by simp)
              have e1 : a.tmps.getD 33 undef = .bool q := h 33 (by simp)
              simp only [Array.getD_eq_getD_getElem?] at e0 e1
              refine told_q ?_
              simp [go_sem, e0, e1, sQuiet]
          simp only [List.take_succ_cons, List.take_zero, List.drop_succ_cons, List.drop_zero, toldEnd, Act.put, List.setIfInBounds_toArray, List.set_cons_succ, List.set_cons_zero]
          rintro X bk v25 q25 v26 q26 v27 q27 v28 q28 v29 q29 v30 q30 v31 q31 v32 q32 v33 q33 v34 q34
          obtain rfl := q25.symm
          obtain rfl := q26.symm
          obtain rfl := q27.symm
          obtain rfl := q28.symm
          obtain rfl := q29.symm
          obtain rfl := q30.symm
          obtain rfl := q31.symm
          obtain rfl := q32.symm
          obtain rfl := q33.symm
          obtain rfl := q34.symm
          clear q25 q26 q27 q28 q29 q30 q31 q32 q33 q34
          replace hb := hb.trans (bk.mono hB)
          replace hB := Nat.le_trans hB bk.size
          replace HI := Lib.hid (HI.out.step bk)
          replace HG := Lib.hid (blk_below bk (blk_lt HG.out) HG.out)
          clear bk ck heq
          go_wp2_with fail
          go_roundw
          case rel => exact ⟨k + 1, by omega, by rw [HX.out], by go_num, HI.out, HG.out, hb, hB⟩
          case measure => simp [intOf]; omega
      · have hd : decide ((k : Int) < (n : Int)) = false := by simp; omega
        obtain rfl : k = n := by omega
        rw [HAL2.out]
        obtain ⟨c0, c1, c2, c3, c4⟩ := cer_cells HG.out
        have hal := HAL.out
        cases hf : (ss.any fun p => decide (p = z)) with
        | false =>
          rw [hf, if_neg Bool.false_ne_true] at hal
          have HV := Lib.hid hal
          clear hal hf HAL HAL2 HST
          go_wp2_with fail
          go_ret
          exact ⟨by rw [HV.out]; rfl, by rw [HBB.out]; exact hb⟩
        | true =>
          rw [hf, if_pos rfl] at hal
          by_cases h1 : now < d
          · have d1 : decide (now < d) = true := decide_eq_true h1
            rw [if_pos (.inl h1)] at hal
            have HV := Lib.hid hal
            clear hal hf HAL HAL2 HST h1
            go_wp2_with fail
            go_ret
            exact ⟨by rw [HV.out]; rfl, by rw [HBB.out]; exact hb⟩
          have d1 : decide (now < d) = false := decide_eq_false h1
          by_cases h2 : e < now
          · have d2 : decide (e < now) = true := decide_eq_true h2
            rw [if_pos (.inr h2)] at hal
            have HV := Lib.hid hal
            clear hal hf HAL HAL2 HST h1 h2
            go_wp2_with fail
            go_ret
            exact ⟨by rw [HV.out]; rfl, by rw [HBB.out]; exact hb⟩
          · have d2 : decide (e < now) = false := decide_eq_false h2
            rw [if_neg (by omega)] at hal
            have HV := Lib.hid hal
            clear hal hf HAL HAL2 HST h1 h2
            go_wp2_with fail
            go_ret
            exact ⟨by rw [HV.out]; rfl, by rw [HBB.out]; exact hb⟩
  · have d2 : (reE F s != 0) = true := by simp [hre]
    rw [if_pos (by simp [hre])] at hal
    have HV := Lib.hid hal
    clear hal hgood hre hn
    generalize reE F s = q at *
    go_enter Tryz.func21, Tryz.ntmps21
    go_wp2_with fail
    generalize hBB : w.heap.size = B at *
    have HBB := Lib.hid hBB
    have hB : B ≤ w.heap.size := by omega
    clear hBB
    refine (CR.out _).mono ?_
    rintro ee W1 ⟨rfl, bk⟩
    replace hb := hb.trans (bk.mono hB)
    replace hB := Nat.le_trans hB bk.size
    replace HI := Lib.hid (HI.out.step bk)
    clear bk CR
    have HNW := Lib.hid (blk_new W1 (.cells (cRow 0 ⟨#[]⟩ 0 0 ⟨#[]⟩) 28))
    have HG := Lib.hid (setRow_heap _ W1.heap.size _ (cRow sr b d e f) _ _ HNW.out)
    have bk2 := below_setRow (below_new W1 (.cells (cRow 0 ⟨#[]⟩ 0 0 ⟨#[]⟩) 28)) (Nat.le_refl _) (cRow sr b d e f)
    replace HI := Lib.hid (HI.out.step bk2)
    have hb2 := hb.trans (bk2.mono hB)
    have hB2 := Nat.le_trans hB bk2.size
    clear bk2 hb hB
    have hb := hb2
    have hB := hB2
    clear hb2 hB2
    go_wp2_with (with_reducible refine wpList_store_row rfl 28 _ _ rfl W1.heap.size (cRow sr b d e f) rfl rfl 28 _ HNW.out (sizeCert _ _ _ _ _) rfl (oneCert _ _ _ _ _) ?_)
    clear HNW
    generalize (World.setRow (World.alloc _ _) _ _) = W2 at *
    generalize W1.heap.size = g at *
    go_ret
    exact ⟨by rw [HV.out]; rfl, by rw [HBB.out]; exact hb⟩
end
end Go.Proofs.YteomfleofeeofaaGreatDoor
