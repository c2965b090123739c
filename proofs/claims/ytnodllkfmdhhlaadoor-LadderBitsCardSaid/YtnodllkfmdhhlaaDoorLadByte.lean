/- A bit of a byte, and the answer's form. -/
import Derived.Test.YtnodllkfmdhhlaaDoorLadSpec
import Derived.Test.YtnodllkfmdhhlaaDoorConv
namespace Go.Proofs.YtnodllkfmdhhlaaDoor
open Go.RowKit Go.Sort
set_option maxRecDepth 100000
set_option linter.unusedSimpArgs false
set_option linter.unusedVariables false

/-- The answer. -/
def ansL (s p : List UInt8) : Value := if shareF s p = 0 then .tuple #[.string ⟨#[]⟩, .int .i64 21] else .tuple #[.string ⟨(shareL s p).toArray⟩, .int .i64 0]

theorem and_1b (y : Nat) (h : y < 256) : bits .and .u8 (y : Int) 1 = ((y % 2 : Nat) : Int) := by
  have e : (UInt8.ofNat y).toNat = y := by simp; omega
  have h1 := byte_and (UInt8.ofNat y) 1
  rw [e, UInt8.toNat_and, e] at h1
  rw [show (((1 : UInt8).toNat : Nat) : Int) = 1 from rfl] at h1
  rw [h1, show (1 : UInt8).toNat = 1 from rfl, Nat.and_one_is_mod]
theorem lad_bit (l : List UInt8) (i : Nat) : bits .and .u8 (((l.getD (i / 8) 0).toNat : Int) / 2 ^ (i % 8)) 1 = (bitL l i : Int) := by
  have h := (l.getD (i / 8) 0).toNat_lt
  have e : ((l.getD (i / 8) 0).toNat : Int) / 2 ^ (i % 8) = (((l.getD (i / 8) 0).toNat / 2 ^ (i % 8) : Nat) : Int) := by simp
  rw [e, and_1b _ (Nat.lt_of_le_of_lt (Nat.div_le_self _ _) h)]
  rfl
end Go.Proofs.YtnodllkfmdhhlaaDoor
