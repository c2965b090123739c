/- The reference's order, and which of two numbers is less. -/
import Derived.Test.YtjgpcfjnanideaaDoorScaMath
import Derived.Test.YtjgpcfjnanideaaDoorFldR
namespace Go.Proofs.YtjgpcfjnanideaaDoor
open Go.RowKit Go.Sort
set_option maxRecDepth 100000
set_option linter.unusedSimpArgs false
set_option linter.unusedVariables false

theorem order_any (w : World) :
    Calls Tryd.prog 25 #[] w fun e w' => e = .returned (.slice (some ⟨w.heap.size, 0, none⟩) 16 16) ∧ w' = w.alloc (.cells (dcl (digN lF)) 3) := by
  have HL := Lib.hid (show dcl (digN lF) = dcl [54253, 23797, 25370, 22546, 40150, 41719, 63966, 5342, 0, 0, 0, 0, 0, 0, 0, 4096] by rw [lF_digits])
  go_enter Tryd.func25, Tryd.ntmps25
  go_wp2_with fail
  go_ret
  exact ⟨rfl, by rw [HL.out]; rfl⟩

set_option maxHeartbeats 2000000 in
theorem lessRef_any (da db : Value) (x y : Nat) (w : World) (hx : x < mF) (hy : y < mF) (ha : DigAt w da (digN x)) (hb : DigAt w db (digN y)) :
    Calls Tryd.prog 24 #[da, db] w fun e w' => e = .returned (.bool (decide (x < y))) ∧ Below w.heap.size w w' := by
  obtain ⟨Da, ca, rfl, hca⟩ := ha
  obtain ⟨Db, cb, rfl, hcb⟩ := hb
  have HCA := Lib.hid hca; have HCB := Lib.hid hcb
  have HS := Lib.hid (digN_same x y hx hy)
  have HLs := Lib.hid (fun i hi => digN_less x y i hi hx hy)
  have hla := block_lt_of_cell (hca 0 (by decide)); have hlb := block_lt_of_cell (hcb 0 (by decide))
  clear hca hcb hx hy
  go_enter Tryd.func24, Tryd.ntmps24
  go_wp2_with fail
  go_loopw [5] (fun iv wr => ∃ i : Nat, i ≤ 16 ∧ iv = .int .i64 ((i : Int) - 1) ∧ (∀ j, i ≤ j → j < 16 → (digN x).getD j 0 = (digN y).getD j 0) ∧ Below w.heap.size w wr) (fun iv _ => (intOf iv + 1).toNat)
  case atStart => exact ⟨16, by omega, rfl, fun j hj hj2 => absurd hj2 (by omega), Below.refl _ _⟩
  case round =>
    obtain ⟨i, hi, rfl, hs, hb⟩ := hrel
    have HE := Lib.hid hs
    clear hs
    by_cases hi0 : i = 0
    · subst hi0
      have hd : decide ((0 : Int) ≤ ((0 : Nat) : Int) - 1) = false := by decide
      have hxy : decide (x < y) = false := by
        have := HS.out (fun j hj => HE.out j (Nat.zero_le _) hj)
        rw [this]
        simp
      have HXY := Lib.hid hxy
      clear hxy
      go_wp2_with fail
      go_ret
      exact ⟨by rw [HXY.out]; rfl, hb⟩
    · obtain ⟨t, rfl⟩ : ∃ t, i = t + 1 := ⟨i - 1, by omega⟩
      have hcast : ((t + 1 : Nat) : Int) - 1 = (t : Int) := by omega
      rw [hcast]
      have hd : decide ((0 : Int) ≤ (t : Int)) = true := by simp
      have hlt : t < 16 := by omega
      have c1 := (hb.cell (p := ⟨Da, t, none⟩) hla).trans (HCA.out t hlt)
      have c2 := (hb.cell (p := ⟨Db, t, none⟩) hlb).trans (HCB.out t hlt)
      by_cases hne : (digN x).getD t 0 = (digN y).getD t 0
      · have HE2 : Hid (∀ j, t ≤ j → j < 16 → (digN x).getD j 0 = (digN y).getD j 0) := Lib.hid (fun j hj hj2 => by
          by_cases hji : j = t
          · rw [hji]; exact hne
          · exact HE.out j (by omega) hj2)
        generalize (digN x).getD t 0 = p at *
        generalize (digN y).getD t 0 = q at *
        have hq : ((p : Int) != (q : Int)) = false := by simp [hne]
        clear hne hcast
        go_wp2_with fail
        go_quiet (fail)
        go_wp2_with fail
        go_roundw
        case rel => exact ⟨t, by omega, by go_num, HE2.out, below_drewN hb _⟩
        case measure => simp [intOf] <;> omega
      · have hless := HLs.out t hlt (fun j h1 h2 => HE.out j (by omega) h2) hne
        have hxy : decide ((digN x).getD t 0 < (digN y).getD t 0) = decide (x < y) := by
          rw [decide_eq_decide]
          exact hless
        generalize (digN x).getD t 0 = p at *
        generalize (digN y).getD t 0 = q at *
        have hq : ((p : Int) != (q : Int)) = true := by simp; omega
        have HXY := Lib.hid hxy
        clear hne hxy hless hcast
        go_wp2_with fail
        go_quiet (fail)
        go_wp2_with fail
        go_quiet (fail)
        go_wp2_with fail
        go_ret
        exact ⟨by rw [← HXY.out]; rfl, below_drewN (below_drewN hb _) _⟩
end Go.Proofs.YtjgpcfjnanideaaDoor
