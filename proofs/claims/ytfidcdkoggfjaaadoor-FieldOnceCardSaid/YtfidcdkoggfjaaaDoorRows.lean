/-
  NARROWER THAN 'FOR EVERY INPUT', by the rows' own cells (each row's printed sentence says how): FieldTakes: laid · FieldAdds: laid · FieldMuls: laid · FieldInverts: laid · FieldRoots: laid · FieldLaws: laid · FieldSquares: laid · FieldOnce: laid · FieldOf: laid · FieldSmall: laid · FieldSum: laid · FieldSub: laid.
  DERIVED. THE GIVEN ROWS OF THIS SEAT. 12 by the template 'for every input the law returns true; each argument reads behind the call as it read before'; 0 by the template 'total and deterministic' (their statements: YtfidcdkoggfjaaaDoorTotals.lean).
  GIVEN WITH THE SEED: the statements are not yours to turn. If you find one false, say at which input.
  Laid BY PROGRAM, IN A SANDBOX (cutbox-rows.mjs): the forced cells as the released guide's own fill.sh prints them over the translation 7cb860d6ea638277… (all of the seat's roots in one cut). By AI agents, Wed Nov 11 2026. No macro, syntax, notation, axiom, sorry.
-/
import Derived.Test.YtfidcdkoggfjaaaDoorChecked
import GoSem.Claim
import GoSem.ClaimJoined
import GoSem.ClaimMapViews
import Derived.JoinedTies
import Derived.KernelRfl
namespace Go.Proofs.YtfidcdkoggfjaaaDoor
/- THE CELL 'sum', in the pinned program and in every row, IS THE sha256 OF THE DUMP (.gsa) THAT YtfidcdkoggfjaaaDoorProg.lean LOADS. Nothing in Lean hashes anything: it is a label: what it is worth is what the hold of that sum in a sandbox is worth. -/
noncomputable def Tryd.pinned : Pinned := { name := "ytfidcdkoggfjaaadoor", sum := "7cb860d6ea638277aa5dcf8bfaa6d85b4d228bbc7bf8d3887003e874633d7564", checked := Tryd.checked }
namespace Rows
def none {H : Type} : Left H := { results := [], args := [] }

/- WHAT THE LISTED PACKAGE-LEVEL VARIABLES READ AS WHEN THE CALL BEGINS. Each datum BY PROGRAM (the guide's laid-datum.mjs) off the statement by which the dump's own 'gosem.cut.vars' lays the variable. In a bare row this is a premise. The card (YtfidcdkoggfjaaaDoorCards.lean) ties it to the program's text. -/
def laid_cresset_field_prime {H : Type} : DataW H := .agg [.lit (.int .u64 18446744073709551597), .lit (.int .u64 18446744073709551615), .lit (.int .u64 18446744073709551615), .lit (.int .u64 9223372036854775807)]

/-- 'cressetlaw08.FieldTakes': WHATEVER THE INPUT: true; the input reads as it did. -/
def fieldTakesSpec : ChangeSpec := { name := "fieldTakes", fn := fun _ => fun
  | [d1, d2] => { results := [.lit (.bool true)], args := [d1, d2] }
  | _ => none }
def fieldTakesRow : OpenClaim := { program := "ytfidcdkoggfjaaadoor", sum := "7cb860d6ea638277aa5dcf8bfaa6d85b4d228bbc7bf8d3887003e874633d7564", func := "cresset/cressetlaw08.FieldTakes", spec := "fieldTakes", inPlace := ["math/bits.Add64", "math/bits.Sub64"], named := ["cresset/field.prime"], apart := false, laid := [("cresset/field.prime", laid_cresset_field_prime)] }
def FieldTakesSaid : Prop := fieldTakesRow.holds Tryd.pinned (OpenSpec.ofChange fieldTakesSpec)

/-- ITS FALSE NEIGHBOUR: 'it returns false'. Refute it at one input. -/
def fieldTakesWrong : ChangeSpec := { name := "fieldTakes", fn := fun _ => fun
  | [d1, d2] => { results := [.lit (.bool false)], args := [d1, d2] }
  | _ => none }
def FieldTakesWrongFalsely : Prop := fieldTakesRow.holds Tryd.pinned (OpenSpec.ofChange fieldTakesWrong)

/-- 'cressetlaw08.FieldAdds': WHATEVER THE INPUT: true; the input reads as it did. -/
def fieldAddsSpec : ChangeSpec := { name := "fieldAdds", fn := fun _ => fun
  | [d1, d2] => { results := [.lit (.bool true)], args := [d1, d2] }
  | _ => none }
def fieldAddsRow : OpenClaim := { program := "ytfidcdkoggfjaaadoor", sum := "7cb860d6ea638277aa5dcf8bfaa6d85b4d228bbc7bf8d3887003e874633d7564", func := "cresset/cressetlaw08.FieldAdds", spec := "fieldAdds", inPlace := ["math/bits.Add64", "math/bits.Sub64"], named := ["cresset/field.prime"], apart := false, laid := [("cresset/field.prime", laid_cresset_field_prime)] }
def FieldAddsSaid : Prop := fieldAddsRow.holds Tryd.pinned (OpenSpec.ofChange fieldAddsSpec)

/-- ITS FALSE NEIGHBOUR: 'it returns false'. Refute it at one input. -/
def fieldAddsWrong : ChangeSpec := { name := "fieldAdds", fn := fun _ => fun
  | [d1, d2] => { results := [.lit (.bool false)], args := [d1, d2] }
  | _ => none }
def FieldAddsWrongFalsely : Prop := fieldAddsRow.holds Tryd.pinned (OpenSpec.ofChange fieldAddsWrong)

/-- 'cressetlaw08.FieldMuls': WHATEVER THE INPUT: true; the input reads as it did. -/
def fieldMulsSpec : ChangeSpec := { name := "fieldMuls", fn := fun _ => fun
  | [d1, d2] => { results := [.lit (.bool true)], args := [d1, d2] }
  | _ => none }
def fieldMulsRow : OpenClaim := { program := "ytfidcdkoggfjaaadoor", sum := "7cb860d6ea638277aa5dcf8bfaa6d85b4d228bbc7bf8d3887003e874633d7564", func := "cresset/cressetlaw08.FieldMuls", spec := "fieldMuls", inPlace := ["math/bits.Add64", "math/bits.Sub64"], named := ["cresset/field.prime"], apart := false, laid := [("cresset/field.prime", laid_cresset_field_prime)] }
def FieldMulsSaid : Prop := fieldMulsRow.holds Tryd.pinned (OpenSpec.ofChange fieldMulsSpec)

/-- ITS FALSE NEIGHBOUR: 'it returns false'. Refute it at one input. -/
def fieldMulsWrong : ChangeSpec := { name := "fieldMuls", fn := fun _ => fun
  | [d1, d2] => { results := [.lit (.bool false)], args := [d1, d2] }
  | _ => none }
def FieldMulsWrongFalsely : Prop := fieldMulsRow.holds Tryd.pinned (OpenSpec.ofChange fieldMulsWrong)

/-- 'cressetlaw08.FieldInverts': WHATEVER THE INPUT: true; the input reads as it did. -/
def fieldInvertsSpec : ChangeSpec := { name := "fieldInverts", fn := fun _ => fun
  | [d] => { results := [.lit (.bool true)], args := [d] }
  | _ => none }
def fieldInvertsRow : OpenClaim := { program := "ytfidcdkoggfjaaadoor", sum := "7cb860d6ea638277aa5dcf8bfaa6d85b4d228bbc7bf8d3887003e874633d7564", func := "cresset/cressetlaw08.FieldInverts", spec := "fieldInverts", inPlace := ["math/bits.Add64", "math/bits.Sub64"], named := ["cresset/field.prime"], apart := false, laid := [("cresset/field.prime", laid_cresset_field_prime)] }
def FieldInvertsSaid : Prop := fieldInvertsRow.holds Tryd.pinned (OpenSpec.ofChange fieldInvertsSpec)

/-- ITS FALSE NEIGHBOUR: 'it returns false'. Refute it at one input. -/
def fieldInvertsWrong : ChangeSpec := { name := "fieldInverts", fn := fun _ => fun
  | [d] => { results := [.lit (.bool false)], args := [d] }
  | _ => none }
def FieldInvertsWrongFalsely : Prop := fieldInvertsRow.holds Tryd.pinned (OpenSpec.ofChange fieldInvertsWrong)

/-- 'cressetlaw08.FieldRoots': WHATEVER THE INPUT: true; the input reads as it did. -/
def fieldRootsSpec : ChangeSpec := { name := "fieldRoots", fn := fun _ => fun
  | [d] => { results := [.lit (.bool true)], args := [d] }
  | _ => none }
def fieldRootsRow : OpenClaim := { program := "ytfidcdkoggfjaaadoor", sum := "7cb860d6ea638277aa5dcf8bfaa6d85b4d228bbc7bf8d3887003e874633d7564", func := "cresset/cressetlaw08.FieldRoots", spec := "fieldRoots", inPlace := ["math/bits.Add64", "math/bits.Sub64"], named := ["cresset/field.prime"], apart := false, laid := [("cresset/field.prime", laid_cresset_field_prime)] }
def FieldRootsSaid : Prop := fieldRootsRow.holds Tryd.pinned (OpenSpec.ofChange fieldRootsSpec)

/-- ITS FALSE NEIGHBOUR: 'it returns false'. Refute it at one input. -/
def fieldRootsWrong : ChangeSpec := { name := "fieldRoots", fn := fun _ => fun
  | [d] => { results := [.lit (.bool false)], args := [d] }
  | _ => none }
def FieldRootsWrongFalsely : Prop := fieldRootsRow.holds Tryd.pinned (OpenSpec.ofChange fieldRootsWrong)

/-- 'cressetlaw08.FieldLaws': WHATEVER THE INPUT: true; the input reads as it did. -/
def fieldLawsSpec : ChangeSpec := { name := "fieldLaws", fn := fun _ => fun
  | [d1, d2, d3] => { results := [.lit (.bool true)], args := [d1, d2, d3] }
  | _ => none }
def fieldLawsRow : OpenClaim := { program := "ytfidcdkoggfjaaadoor", sum := "7cb860d6ea638277aa5dcf8bfaa6d85b4d228bbc7bf8d3887003e874633d7564", func := "cresset/cressetlaw08.FieldLaws", spec := "fieldLaws", inPlace := ["math/bits.Add64", "math/bits.Sub64"], named := ["cresset/field.prime"], apart := false, laid := [("cresset/field.prime", laid_cresset_field_prime)] }
def FieldLawsSaid : Prop := fieldLawsRow.holds Tryd.pinned (OpenSpec.ofChange fieldLawsSpec)

/-- ITS FALSE NEIGHBOUR: 'it returns false'. Refute it at one input. -/
def fieldLawsWrong : ChangeSpec := { name := "fieldLaws", fn := fun _ => fun
  | [d1, d2, d3] => { results := [.lit (.bool false)], args := [d1, d2, d3] }
  | _ => none }
def FieldLawsWrongFalsely : Prop := fieldLawsRow.holds Tryd.pinned (OpenSpec.ofChange fieldLawsWrong)

/-- 'cressetlaw08.FieldSquares': WHATEVER THE INPUT: true; the input reads as it did. -/
def fieldSquaresSpec : ChangeSpec := { name := "fieldSquares", fn := fun _ => fun
  | [d] => { results := [.lit (.bool true)], args := [d] }
  | _ => none }
def fieldSquaresRow : OpenClaim := { program := "ytfidcdkoggfjaaadoor", sum := "7cb860d6ea638277aa5dcf8bfaa6d85b4d228bbc7bf8d3887003e874633d7564", func := "cresset/cressetlaw08.FieldSquares", spec := "fieldSquares", inPlace := ["math/bits.Add64", "math/bits.Sub64"], named := ["cresset/field.prime"], apart := false, laid := [("cresset/field.prime", laid_cresset_field_prime)] }
def FieldSquaresSaid : Prop := fieldSquaresRow.holds Tryd.pinned (OpenSpec.ofChange fieldSquaresSpec)

/-- ITS FALSE NEIGHBOUR: 'it returns false'. Refute it at one input. -/
def fieldSquaresWrong : ChangeSpec := { name := "fieldSquares", fn := fun _ => fun
  | [d] => { results := [.lit (.bool false)], args := [d] }
  | _ => none }
def FieldSquaresWrongFalsely : Prop := fieldSquaresRow.holds Tryd.pinned (OpenSpec.ofChange fieldSquaresWrong)

/-- 'cressetlaw08.FieldOnce': WHATEVER THE INPUT: true; the input reads as it did. -/
def fieldOnceSpec : ChangeSpec := { name := "fieldOnce", fn := fun _ => fun
  | [d] => { results := [.lit (.bool true)], args := [d] }
  | _ => none }
def fieldOnceRow : OpenClaim := { program := "ytfidcdkoggfjaaadoor", sum := "7cb860d6ea638277aa5dcf8bfaa6d85b4d228bbc7bf8d3887003e874633d7564", func := "cresset/cressetlaw08.FieldOnce", spec := "fieldOnce", inPlace := ["math/bits.Add64", "math/bits.Sub64"], named := ["cresset/field.prime"], apart := false, laid := [("cresset/field.prime", laid_cresset_field_prime)] }
def FieldOnceSaid : Prop := fieldOnceRow.holds Tryd.pinned (OpenSpec.ofChange fieldOnceSpec)

/-- ITS FALSE NEIGHBOUR: 'it returns false'. Refute it at one input. -/
def fieldOnceWrong : ChangeSpec := { name := "fieldOnce", fn := fun _ => fun
  | [d] => { results := [.lit (.bool false)], args := [d] }
  | _ => none }
def FieldOnceWrongFalsely : Prop := fieldOnceRow.holds Tryd.pinned (OpenSpec.ofChange fieldOnceWrong)

/-- 'cressetlaw08.FieldOf': WHATEVER THE INPUT: true; the input reads as it did. -/
def fieldOfSpec : ChangeSpec := { name := "fieldOf", fn := fun _ => fun
  | [d] => { results := [.lit (.bool true)], args := [d] }
  | _ => none }
def fieldOfRow : OpenClaim := { program := "ytfidcdkoggfjaaadoor", sum := "7cb860d6ea638277aa5dcf8bfaa6d85b4d228bbc7bf8d3887003e874633d7564", func := "cresset/cressetlaw08.FieldOf", spec := "fieldOf", inPlace := ["math/bits.Add64", "math/bits.Sub64"], named := ["cresset/field.prime"], apart := false, laid := [("cresset/field.prime", laid_cresset_field_prime)] }
def FieldOfSaid : Prop := fieldOfRow.holds Tryd.pinned (OpenSpec.ofChange fieldOfSpec)

/-- ITS FALSE NEIGHBOUR: 'it returns false'. Refute it at one input. -/
def fieldOfWrong : ChangeSpec := { name := "fieldOf", fn := fun _ => fun
  | [d] => { results := [.lit (.bool false)], args := [d] }
  | _ => none }
def FieldOfWrongFalsely : Prop := fieldOfRow.holds Tryd.pinned (OpenSpec.ofChange fieldOfWrong)

/-- 'cressetlaw08.FieldSmall': WHATEVER THE INPUT: true; the input reads as it did. -/
def fieldSmallSpec : ChangeSpec := { name := "fieldSmall", fn := fun _ => fun
  | [d] => { results := [.lit (.bool true)], args := [d] }
  | _ => none }
def fieldSmallRow : OpenClaim := { program := "ytfidcdkoggfjaaadoor", sum := "7cb860d6ea638277aa5dcf8bfaa6d85b4d228bbc7bf8d3887003e874633d7564", func := "cresset/cressetlaw08.FieldSmall", spec := "fieldSmall", inPlace := ["math/bits.Add64", "math/bits.Sub64"], named := ["cresset/field.prime"], apart := false, laid := [("cresset/field.prime", laid_cresset_field_prime)] }
def FieldSmallSaid : Prop := fieldSmallRow.holds Tryd.pinned (OpenSpec.ofChange fieldSmallSpec)

/-- ITS FALSE NEIGHBOUR: 'it returns false'. Refute it at one input. -/
def fieldSmallWrong : ChangeSpec := { name := "fieldSmall", fn := fun _ => fun
  | [d] => { results := [.lit (.bool false)], args := [d] }
  | _ => none }
def FieldSmallWrongFalsely : Prop := fieldSmallRow.holds Tryd.pinned (OpenSpec.ofChange fieldSmallWrong)

/-- 'cressetlaw08.FieldSum': WHATEVER THE INPUT: true; the input reads as it did. -/
def fieldSumSpec : ChangeSpec := { name := "fieldSum", fn := fun _ => fun
  | [d1, d2] => { results := [.lit (.bool true)], args := [d1, d2] }
  | _ => none }
def fieldSumRow : OpenClaim := { program := "ytfidcdkoggfjaaadoor", sum := "7cb860d6ea638277aa5dcf8bfaa6d85b4d228bbc7bf8d3887003e874633d7564", func := "cresset/cressetlaw08.FieldSum", spec := "fieldSum", inPlace := ["math/bits.Add64", "math/bits.Sub64"], named := ["cresset/field.prime"], apart := false, laid := [("cresset/field.prime", laid_cresset_field_prime)] }
def FieldSumSaid : Prop := fieldSumRow.holds Tryd.pinned (OpenSpec.ofChange fieldSumSpec)

/-- ITS FALSE NEIGHBOUR: 'it returns false'. Refute it at one input. -/
def fieldSumWrong : ChangeSpec := { name := "fieldSum", fn := fun _ => fun
  | [d1, d2] => { results := [.lit (.bool false)], args := [d1, d2] }
  | _ => none }
def FieldSumWrongFalsely : Prop := fieldSumRow.holds Tryd.pinned (OpenSpec.ofChange fieldSumWrong)

/-- 'cressetlaw08.FieldSub': WHATEVER THE INPUT: true; the input reads as it did. -/
def fieldSubSpec : ChangeSpec := { name := "fieldSub", fn := fun _ => fun
  | [d1, d2] => { results := [.lit (.bool true)], args := [d1, d2] }
  | _ => none }
def fieldSubRow : OpenClaim := { program := "ytfidcdkoggfjaaadoor", sum := "7cb860d6ea638277aa5dcf8bfaa6d85b4d228bbc7bf8d3887003e874633d7564", func := "cresset/cressetlaw08.FieldSub", spec := "fieldSub", inPlace := ["math/bits.Add64", "math/bits.Sub64"], named := ["cresset/field.prime"], apart := false, laid := [("cresset/field.prime", laid_cresset_field_prime)] }
def FieldSubSaid : Prop := fieldSubRow.holds Tryd.pinned (OpenSpec.ofChange fieldSubSpec)

/-- ITS FALSE NEIGHBOUR: 'it returns false'. Refute it at one input. -/
def fieldSubWrong : ChangeSpec := { name := "fieldSub", fn := fun _ => fun
  | [d1, d2] => { results := [.lit (.bool false)], args := [d1, d2] }
  | _ => none }
def FieldSubWrongFalsely : Prop := fieldSubRow.holds Tryd.pinned (OpenSpec.ofChange fieldSubWrong)

/- THE SECOND FORM. 'bulk': how many values and letters a reading holds, each counted each time it is reached (what is shared counts as often as it is met; a slice's spare places count too). A statement '..UptoSaid' is the law's where the arguments, and the package variables that the reading takes, are together of bulk at most 1048576: NARROWER than '..Said'. Prove '..Said' where nothing that the law and all that it calls make is longer than what came in: it says more and counts as full. Else prove '..UptoSaid'. A law counts once. -/
mutual
def uptoBulk {H : Type} : DataW H → Nat
  | .lit (.string bytes) => bytes.length + 1
  | .lit _ => 1
  | .nil => 1
  | .ptr d => uptoBulk d + 1
  | .slice elems spare => uptoBulkAll elems + uptoBulkAll spare + 1
  | .agg parts => uptoBulkAll parts + 1
  | .iface _ d => uptoBulk d + 1
  | .map entries => uptoBulkEntries entries + 1
  | .held _ => 1
def uptoBulkAll {H : Type} : List (DataW H) → Nat
  | [] => 0
  | d :: r => uptoBulk d + uptoBulkAll r
def uptoBulkEntries {H : Type} : List (Lit × DataW H) → Nat
  | [] => 0
  | x :: r => uptoBulkEntry x + uptoBulkEntries r
def uptoBulkEntry {H : Type} : Lit × DataW H → Nat
  | (.string bytes, d) => bytes.length + uptoBulk d + 1
  | (_, d) => uptoBulk d + 1
 end
def uptoSmall : (H : Type) → List (DataW H) → Bool := fun _ ds => decide (uptoBulkAll ds ≤ 1048576)
def OpenSpec.upto (s : _root_.Go.ChangeSpec) : _root_.Go.OpenSpec := { _root_.Go.OpenSpec.ofChange s with cond := some uptoSmall }

/-- 'cressetlaw08.FieldTakes', WHERE WHAT IT READS IS OF BULK AT MOST 1048576: true; the input reads as it did. -/
def fieldTakesUptoRow : OpenClaim := { program := "ytfidcdkoggfjaaadoor", sum := "7cb860d6ea638277aa5dcf8bfaa6d85b4d228bbc7bf8d3887003e874633d7564", func := "cresset/cressetlaw08.FieldTakes", spec := "fieldTakes", inPlace := ["math/bits.Add64", "math/bits.Sub64"], named := ["cresset/field.prime"], apart := false, laid := [("cresset/field.prime", laid_cresset_field_prime)], narrowed := true }
def FieldTakesUptoSaid : Prop := fieldTakesUptoRow.holds Tryd.pinned (OpenSpec.upto fieldTakesSpec)

/-- 'cressetlaw08.FieldAdds', WHERE WHAT IT READS IS OF BULK AT MOST 1048576: true; the input reads as it did. -/
def fieldAddsUptoRow : OpenClaim := { program := "ytfidcdkoggfjaaadoor", sum := "7cb860d6ea638277aa5dcf8bfaa6d85b4d228bbc7bf8d3887003e874633d7564", func := "cresset/cressetlaw08.FieldAdds", spec := "fieldAdds", inPlace := ["math/bits.Add64", "math/bits.Sub64"], named := ["cresset/field.prime"], apart := false, laid := [("cresset/field.prime", laid_cresset_field_prime)], narrowed := true }
def FieldAddsUptoSaid : Prop := fieldAddsUptoRow.holds Tryd.pinned (OpenSpec.upto fieldAddsSpec)

/-- 'cressetlaw08.FieldMuls', WHERE WHAT IT READS IS OF BULK AT MOST 1048576: true; the input reads as it did. -/
def fieldMulsUptoRow : OpenClaim := { program := "ytfidcdkoggfjaaadoor", sum := "7cb860d6ea638277aa5dcf8bfaa6d85b4d228bbc7bf8d3887003e874633d7564", func := "cresset/cressetlaw08.FieldMuls", spec := "fieldMuls", inPlace := ["math/bits.Add64", "math/bits.Sub64"], named := ["cresset/field.prime"], apart := false, laid := [("cresset/field.prime", laid_cresset_field_prime)], narrowed := true }
def FieldMulsUptoSaid : Prop := fieldMulsUptoRow.holds Tryd.pinned (OpenSpec.upto fieldMulsSpec)

/-- 'cressetlaw08.FieldInverts', WHERE WHAT IT READS IS OF BULK AT MOST 1048576: true; the input reads as it did. -/
def fieldInvertsUptoRow : OpenClaim := { program := "ytfidcdkoggfjaaadoor", sum := "7cb860d6ea638277aa5dcf8bfaa6d85b4d228bbc7bf8d3887003e874633d7564", func := "cresset/cressetlaw08.FieldInverts", spec := "fieldInverts", inPlace := ["math/bits.Add64", "math/bits.Sub64"], named := ["cresset/field.prime"], apart := false, laid := [("cresset/field.prime", laid_cresset_field_prime)], narrowed := true }
def FieldInvertsUptoSaid : Prop := fieldInvertsUptoRow.holds Tryd.pinned (OpenSpec.upto fieldInvertsSpec)

/-- 'cressetlaw08.FieldRoots', WHERE WHAT IT READS IS OF BULK AT MOST 1048576: true; the input reads as it did. -/
def fieldRootsUptoRow : OpenClaim := { program := "ytfidcdkoggfjaaadoor", sum := "7cb860d6ea638277aa5dcf8bfaa6d85b4d228bbc7bf8d3887003e874633d7564", func := "cresset/cressetlaw08.FieldRoots", spec := "fieldRoots", inPlace := ["math/bits.Add64", "math/bits.Sub64"], named := ["cresset/field.prime"], apart := false, laid := [("cresset/field.prime", laid_cresset_field_prime)], narrowed := true }
def FieldRootsUptoSaid : Prop := fieldRootsUptoRow.holds Tryd.pinned (OpenSpec.upto fieldRootsSpec)

/-- 'cressetlaw08.FieldLaws', WHERE WHAT IT READS IS OF BULK AT MOST 1048576: true; the input reads as it did. -/
def fieldLawsUptoRow : OpenClaim := { program := "ytfidcdkoggfjaaadoor", sum := "7cb860d6ea638277aa5dcf8bfaa6d85b4d228bbc7bf8d3887003e874633d7564", func := "cresset/cressetlaw08.FieldLaws", spec := "fieldLaws", inPlace := ["math/bits.Add64", "math/bits.Sub64"], named := ["cresset/field.prime"], apart := false, laid := [("cresset/field.prime", laid_cresset_field_prime)], narrowed := true }
def FieldLawsUptoSaid : Prop := fieldLawsUptoRow.holds Tryd.pinned (OpenSpec.upto fieldLawsSpec)

/-- 'cressetlaw08.FieldSquares', WHERE WHAT IT READS IS OF BULK AT MOST 1048576: true; the input reads as it did. -/
def fieldSquaresUptoRow : OpenClaim := { program := "ytfidcdkoggfjaaadoor", sum := "7cb860d6ea638277aa5dcf8bfaa6d85b4d228bbc7bf8d3887003e874633d7564", func := "cresset/cressetlaw08.FieldSquares", spec := "fieldSquares", inPlace := ["math/bits.Add64", "math/bits.Sub64"], named := ["cresset/field.prime"], apart := false, laid := [("cresset/field.prime", laid_cresset_field_prime)], narrowed := true }
def FieldSquaresUptoSaid : Prop := fieldSquaresUptoRow.holds Tryd.pinned (OpenSpec.upto fieldSquaresSpec)

/-- 'cressetlaw08.FieldOnce', WHERE WHAT IT READS IS OF BULK AT MOST 1048576: true; the input reads as it did. -/
def fieldOnceUptoRow : OpenClaim := { program := "ytfidcdkoggfjaaadoor", sum := "7cb860d6ea638277aa5dcf8bfaa6d85b4d228bbc7bf8d3887003e874633d7564", func := "cresset/cressetlaw08.FieldOnce", spec := "fieldOnce", inPlace := ["math/bits.Add64", "math/bits.Sub64"], named := ["cresset/field.prime"], apart := false, laid := [("cresset/field.prime", laid_cresset_field_prime)], narrowed := true }
def FieldOnceUptoSaid : Prop := fieldOnceUptoRow.holds Tryd.pinned (OpenSpec.upto fieldOnceSpec)

/-- 'cressetlaw08.FieldOf', WHERE WHAT IT READS IS OF BULK AT MOST 1048576: true; the input reads as it did. -/
def fieldOfUptoRow : OpenClaim := { program := "ytfidcdkoggfjaaadoor", sum := "7cb860d6ea638277aa5dcf8bfaa6d85b4d228bbc7bf8d3887003e874633d7564", func := "cresset/cressetlaw08.FieldOf", spec := "fieldOf", inPlace := ["math/bits.Add64", "math/bits.Sub64"], named := ["cresset/field.prime"], apart := false, laid := [("cresset/field.prime", laid_cresset_field_prime)], narrowed := true }
def FieldOfUptoSaid : Prop := fieldOfUptoRow.holds Tryd.pinned (OpenSpec.upto fieldOfSpec)

/-- 'cressetlaw08.FieldSmall', WHERE WHAT IT READS IS OF BULK AT MOST 1048576: true; the input reads as it did. -/
def fieldSmallUptoRow : OpenClaim := { program := "ytfidcdkoggfjaaadoor", sum := "7cb860d6ea638277aa5dcf8bfaa6d85b4d228bbc7bf8d3887003e874633d7564", func := "cresset/cressetlaw08.FieldSmall", spec := "fieldSmall", inPlace := ["math/bits.Add64", "math/bits.Sub64"], named := ["cresset/field.prime"], apart := false, laid := [("cresset/field.prime", laid_cresset_field_prime)], narrowed := true }
def FieldSmallUptoSaid : Prop := fieldSmallUptoRow.holds Tryd.pinned (OpenSpec.upto fieldSmallSpec)

/-- 'cressetlaw08.FieldSum', WHERE WHAT IT READS IS OF BULK AT MOST 1048576: true; the input reads as it did. -/
def fieldSumUptoRow : OpenClaim := { program := "ytfidcdkoggfjaaadoor", sum := "7cb860d6ea638277aa5dcf8bfaa6d85b4d228bbc7bf8d3887003e874633d7564", func := "cresset/cressetlaw08.FieldSum", spec := "fieldSum", inPlace := ["math/bits.Add64", "math/bits.Sub64"], named := ["cresset/field.prime"], apart := false, laid := [("cresset/field.prime", laid_cresset_field_prime)], narrowed := true }
def FieldSumUptoSaid : Prop := fieldSumUptoRow.holds Tryd.pinned (OpenSpec.upto fieldSumSpec)

/-- 'cressetlaw08.FieldSub', WHERE WHAT IT READS IS OF BULK AT MOST 1048576: true; the input reads as it did. -/
def fieldSubUptoRow : OpenClaim := { program := "ytfidcdkoggfjaaadoor", sum := "7cb860d6ea638277aa5dcf8bfaa6d85b4d228bbc7bf8d3887003e874633d7564", func := "cresset/cressetlaw08.FieldSub", spec := "fieldSub", inPlace := ["math/bits.Add64", "math/bits.Sub64"], named := ["cresset/field.prime"], apart := false, laid := [("cresset/field.prime", laid_cresset_field_prime)], narrowed := true }
def FieldSubUptoSaid : Prop := fieldSubUptoRow.holds Tryd.pinned (OpenSpec.upto fieldSubSpec)

end Rows
end Go.Proofs.YtfidcdkoggfjaaaDoor
