/- A byte xor another, twice (65536 pairs, by the kernel: a minute). -/
import Derived.Test.YtnjeelfeaiakpaaChaSpec
namespace Go.Proofs.Ytnjeelfeaiakpaa
open Go.RowKit Go.Sort
set_option maxRecDepth 100000
set_option linter.unusedSimpArgs false
set_option linter.unusedVariables false

theorem xor8_twice : ∀ a : Nat, a < 256 → ∀ b : Nat, b < 256 → bits .xor .u8 (bits .xor .u8 (a : Int) (b : Int)) (b : Int) = (a : Int) := by decide +kernel
end Go.Proofs.Ytnjeelfeaiakpaa
