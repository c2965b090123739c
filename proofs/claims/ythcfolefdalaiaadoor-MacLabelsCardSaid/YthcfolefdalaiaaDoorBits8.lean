/- Bytes: when an or of a xor is nought. -/
import Derived.Test.YthcfolefdalaiaaDoorMacSpec
namespace Go.Proofs.YthcfolefdalaiaaDoor
open Go.RowKit Go.Sort
set_option maxRecDepth 100000
set_option linter.unusedSimpArgs false
set_option linter.unusedVariables false

theorem xor8_zero : (List.range 256).all (fun x => (List.range 256).all fun y => (bits .xor .u8 (x : Int) (y : Int) == 0) == (x == y)) = true := by decide +kernel
theorem or8_zero : (List.range 256).all (fun x => (List.range 256).all fun y => (bits .or .u8 (x : Int) (y : Int) == 0) == (x == 0 && y == 0)) = true := by decide +kernel
/-- Whether two bytes differ, and what was found before. -/
theorem or_xor_zero (d x y : Nat) (hd : d < 256) (hx : x < 256) (hy : y < 256) : bits .or .u8 (d : Int) (bits .xor .u8 (x : Int) (y : Int)) = 0 ↔ d = 0 ∧ x = y := by
  obtain ⟨h0, h1⟩ := bits8_range .xor (x : Int) (y : Int)
  have e1 := List.all_eq_true.1 (List.all_eq_true.1 xor8_zero x (List.mem_range.2 hx)) y (List.mem_range.2 hy)
  obtain ⟨z, hz⟩ : ∃ z : Nat, bits .xor .u8 (x : Int) (y : Int) = (z : Int) := ⟨_, (Int.toNat_of_nonneg h0).symm⟩
  rw [hz] at e1 h1 ⊢
  have e2 := List.all_eq_true.1 (List.all_eq_true.1 or8_zero d (List.mem_range.2 hd)) z (List.mem_range.2 (by omega))
  generalize bits .or .u8 (d : Int) (z : Int) = q at *
  simp only [beq_iff_eq, Bool.beq_eq_decide_eq] at e1 e2
  by_cases hq : q = 0 <;> by_cases hz0 : z = 0 <;> by_cases hxy : x = y <;> by_cases hd0 : d = 0 <;> simp_all

end Go.Proofs.YthcfolefdalaiaaDoor
