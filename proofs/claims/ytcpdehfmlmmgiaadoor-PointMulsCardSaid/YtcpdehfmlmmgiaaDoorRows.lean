/-
  NARROWER THAN 'FOR EVERY INPUT', by the rows' own cells (each row's printed sentence says how): PointReads: laid · PointAdds: laid · PointMuls: laid · PointLaws: laid · PointTimes: laid · PointNeg: laid.
  DERIVED. THE GIVEN ROWS OF THIS SEAT. 6 by the template 'for every input the law returns true; each argument reads behind the call as it read before'; 0 by the template 'total and deterministic' (their statements: YtcpdehfmlmmgiaaDoorTotals.lean).
  GIVEN WITH THE SEED: the statements are not yours to turn. If you find one false, say at which input.
  Laid BY PROGRAM, IN A SANDBOX (cutbox-rows.mjs): the forced cells as the released guide's own fill.sh prints them over the translation 033a8a62ec6cd9cd… (all of the seat's roots in one cut). By AI agents, Wed Nov 11 2026. No macro, syntax, notation, axiom, sorry.
-/
import Derived.Test.YtcpdehfmlmmgiaaDoorChecked
import GoSem.Claim
import GoSem.ClaimJoined
import GoSem.ClaimMapViews
import Derived.JoinedTies
import Derived.KernelRfl
namespace Go.Proofs.YtcpdehfmlmmgiaaDoor
/- THE CELL 'sum', in the pinned program and in every row, IS THE sha256 OF THE DUMP (.gsa) THAT YtcpdehfmlmmgiaaDoorProg.lean LOADS. Nothing in Lean hashes anything: it is a label: what it is worth is what the hold of that sum in a sandbox is worth. -/
noncomputable def Tryd.pinned : Pinned := { name := "ytcpdehfmlmmgiaadoor", sum := "033a8a62ec6cd9cd14572c20c0a9f674ff71e9a73c688d0f8c3c2c3d3560bddb", checked := Tryd.checked }
namespace Rows
def none {H : Type} : Left H := { results := [], args := [] }

/- WHAT THE LISTED PACKAGE-LEVEL VARIABLES READ AS WHEN THE CALL BEGINS. Each datum BY PROGRAM (the guide's laid-datum.mjs) off the statement by which the dump's own 'gosem.cut.vars' lays the variable. In a bare row this is a premise. The card (YtcpdehfmlmmgiaaDoorCards.lean) ties it to the program's text. -/
def laid_cresset_field_prime {H : Type} : DataW H := .agg [.lit (.int .u64 18446744073709551597), .lit (.int .u64 18446744073709551615), .lit (.int .u64 18446744073709551615), .lit (.int .u64 9223372036854775807)]

/-- 'cressetlaw11.PointReads': WHATEVER THE INPUT: true; the input reads as it did. -/
def pointReadsSpec : ChangeSpec := { name := "pointReads", fn := fun _ => fun
  | [d] => { results := [.lit (.bool true)], args := [d] }
  | _ => none }
def pointReadsRow : OpenClaim := { program := "ytcpdehfmlmmgiaadoor", sum := "033a8a62ec6cd9cd14572c20c0a9f674ff71e9a73c688d0f8c3c2c3d3560bddb", func := "cresset/cressetlaw11.PointReads", spec := "pointReads", inPlace := ["math/bits.Add64", "math/bits.Sub64"], named := ["cresset/field.prime"], apart := false, laid := [("cresset/field.prime", laid_cresset_field_prime)] }
def PointReadsSaid : Prop := pointReadsRow.holds Tryd.pinned (OpenSpec.ofChange pointReadsSpec)

/-- ITS FALSE NEIGHBOUR: 'it returns false'. Refute it at one input. -/
def pointReadsWrong : ChangeSpec := { name := "pointReads", fn := fun _ => fun
  | [d] => { results := [.lit (.bool false)], args := [d] }
  | _ => none }
def PointReadsWrongFalsely : Prop := pointReadsRow.holds Tryd.pinned (OpenSpec.ofChange pointReadsWrong)

/-- 'cressetlaw11.PointAdds': WHATEVER THE INPUT: true; the input reads as it did. -/
def pointAddsSpec : ChangeSpec := { name := "pointAdds", fn := fun _ => fun
  | [d1, d2] => { results := [.lit (.bool true)], args := [d1, d2] }
  | _ => none }
def pointAddsRow : OpenClaim := { program := "ytcpdehfmlmmgiaadoor", sum := "033a8a62ec6cd9cd14572c20c0a9f674ff71e9a73c688d0f8c3c2c3d3560bddb", func := "cresset/cressetlaw11.PointAdds", spec := "pointAdds", inPlace := ["math/bits.Add64", "math/bits.Sub64"], named := ["cresset/field.prime"], apart := false, laid := [("cresset/field.prime", laid_cresset_field_prime)] }
def PointAddsSaid : Prop := pointAddsRow.holds Tryd.pinned (OpenSpec.ofChange pointAddsSpec)

/-- ITS FALSE NEIGHBOUR: 'it returns false'. Refute it at one input. -/
def pointAddsWrong : ChangeSpec := { name := "pointAdds", fn := fun _ => fun
  | [d1, d2] => { results := [.lit (.bool false)], args := [d1, d2] }
  | _ => none }
def PointAddsWrongFalsely : Prop := pointAddsRow.holds Tryd.pinned (OpenSpec.ofChange pointAddsWrong)

/-- 'cressetlaw11.PointMuls': WHATEVER THE INPUT: true; the input reads as it did. -/
def pointMulsSpec : ChangeSpec := { name := "pointMuls", fn := fun _ => fun
  | [d1, d2] => { results := [.lit (.bool true)], args := [d1, d2] }
  | _ => none }
def pointMulsRow : OpenClaim := { program := "ytcpdehfmlmmgiaadoor", sum := "033a8a62ec6cd9cd14572c20c0a9f674ff71e9a73c688d0f8c3c2c3d3560bddb", func := "cresset/cressetlaw11.PointMuls", spec := "pointMuls", inPlace := ["math/bits.Add64", "math/bits.Sub64"], named := ["cresset/field.prime"], apart := false, laid := [("cresset/field.prime", laid_cresset_field_prime)] }
def PointMulsSaid : Prop := pointMulsRow.holds Tryd.pinned (OpenSpec.ofChange pointMulsSpec)

/-- ITS FALSE NEIGHBOUR: 'it returns false'. Refute it at one input. -/
def pointMulsWrong : ChangeSpec := { name := "pointMuls", fn := fun _ => fun
  | [d1, d2] => { results := [.lit (.bool false)], args := [d1, d2] }
  | _ => none }
def PointMulsWrongFalsely : Prop := pointMulsRow.holds Tryd.pinned (OpenSpec.ofChange pointMulsWrong)

/-- 'cressetlaw11.PointLaws': WHATEVER THE INPUT: true; the input reads as it did. -/
def pointLawsSpec : ChangeSpec := { name := "pointLaws", fn := fun _ => fun
  | [d1, d2] => { results := [.lit (.bool true)], args := [d1, d2] }
  | _ => none }
def pointLawsRow : OpenClaim := { program := "ytcpdehfmlmmgiaadoor", sum := "033a8a62ec6cd9cd14572c20c0a9f674ff71e9a73c688d0f8c3c2c3d3560bddb", func := "cresset/cressetlaw11.PointLaws", spec := "pointLaws", inPlace := ["math/bits.Add64", "math/bits.Sub64"], named := ["cresset/field.prime"], apart := false, laid := [("cresset/field.prime", laid_cresset_field_prime)] }
def PointLawsSaid : Prop := pointLawsRow.holds Tryd.pinned (OpenSpec.ofChange pointLawsSpec)

/-- ITS FALSE NEIGHBOUR: 'it returns false'. Refute it at one input. -/
def pointLawsWrong : ChangeSpec := { name := "pointLaws", fn := fun _ => fun
  | [d1, d2] => { results := [.lit (.bool false)], args := [d1, d2] }
  | _ => none }
def PointLawsWrongFalsely : Prop := pointLawsRow.holds Tryd.pinned (OpenSpec.ofChange pointLawsWrong)

/-- 'cressetlaw11.PointTimes': WHATEVER THE INPUT: true; the input reads as it did. -/
def pointTimesSpec : ChangeSpec := { name := "pointTimes", fn := fun _ => fun
  | [d1, d2] => { results := [.lit (.bool true)], args := [d1, d2] }
  | _ => none }
def pointTimesRow : OpenClaim := { program := "ytcpdehfmlmmgiaadoor", sum := "033a8a62ec6cd9cd14572c20c0a9f674ff71e9a73c688d0f8c3c2c3d3560bddb", func := "cresset/cressetlaw11.PointTimes", spec := "pointTimes", inPlace := ["math/bits.Add64", "math/bits.Sub64"], named := ["cresset/field.prime"], apart := false, laid := [("cresset/field.prime", laid_cresset_field_prime)] }
def PointTimesSaid : Prop := pointTimesRow.holds Tryd.pinned (OpenSpec.ofChange pointTimesSpec)

/-- ITS FALSE NEIGHBOUR: 'it returns false'. Refute it at one input. -/
def pointTimesWrong : ChangeSpec := { name := "pointTimes", fn := fun _ => fun
  | [d1, d2] => { results := [.lit (.bool false)], args := [d1, d2] }
  | _ => none }
def PointTimesWrongFalsely : Prop := pointTimesRow.holds Tryd.pinned (OpenSpec.ofChange pointTimesWrong)

/-- 'cressetlaw11.PointNeg': WHATEVER THE INPUT: true; the input reads as it did. -/
def pointNegSpec : ChangeSpec := { name := "pointNeg", fn := fun _ => fun
  | [d] => { results := [.lit (.bool true)], args := [d] }
  | _ => none }
def pointNegRow : OpenClaim := { program := "ytcpdehfmlmmgiaadoor", sum := "033a8a62ec6cd9cd14572c20c0a9f674ff71e9a73c688d0f8c3c2c3d3560bddb", func := "cresset/cressetlaw11.PointNeg", spec := "pointNeg", inPlace := ["math/bits.Add64", "math/bits.Sub64"], named := ["cresset/field.prime"], apart := false, laid := [("cresset/field.prime", laid_cresset_field_prime)] }
def PointNegSaid : Prop := pointNegRow.holds Tryd.pinned (OpenSpec.ofChange pointNegSpec)

/-- ITS FALSE NEIGHBOUR: 'it returns false'. Refute it at one input. -/
def pointNegWrong : ChangeSpec := { name := "pointNeg", fn := fun _ => fun
  | [d] => { results := [.lit (.bool false)], args := [d] }
  | _ => none }
def PointNegWrongFalsely : Prop := pointNegRow.holds Tryd.pinned (OpenSpec.ofChange pointNegWrong)

/- THE SECOND FORM. 'bulk': how many values and letters a reading holds, each counted each time it is reached (what is shared counts as often as it is met; a slice's spare places count too). A statement '..UptoSaid' is the law's where the arguments, and the package variables that the reading takes, are together of bulk at most 1048576: NARROWER than '..Said'. Prove '..Said' where nothing that the law and all that it calls make is longer than what came in: it says more and counts as full. Else prove '..UptoSaid'. A law counts once. -/
mutual
def uptoBulk {H : Type} : DataW H → Nat
  | .lit (.string bytes) => bytes.length + 1
  | .lit _ => 1
  | .nil => 1
  | .ptr d => uptoBulk d + 1
  | .slice elems spare => uptoBulkAll elems + uptoBulkAll spare + 1
  | .agg parts => uptoBulkAll parts + 1
  | .iface _ d => uptoBulk d + 1
  | .map entries => uptoBulkEntries entries + 1
  | .held _ => 1
def uptoBulkAll {H : Type} : List (DataW H) → Nat
  | [] => 0
  | d :: r => uptoBulk d + uptoBulkAll r
def uptoBulkEntries {H : Type} : List (Lit × DataW H) → Nat
  | [] => 0
  | x :: r => uptoBulkEntry x + uptoBulkEntries r
def uptoBulkEntry {H : Type} : Lit × DataW H → Nat
  | (.string bytes, d) => bytes.length + uptoBulk d + 1
  | (_, d) => uptoBulk d + 1
 end
def uptoSmall : (H : Type) → List (DataW H) → Bool := fun _ ds => decide (uptoBulkAll ds ≤ 1048576)
def OpenSpec.upto (s : _root_.Go.ChangeSpec) : _root_.Go.OpenSpec := { _root_.Go.OpenSpec.ofChange s with cond := some uptoSmall }

/-- 'cressetlaw11.PointReads', WHERE WHAT IT READS IS OF BULK AT MOST 1048576: true; the input reads as it did. -/
def pointReadsUptoRow : OpenClaim := { program := "ytcpdehfmlmmgiaadoor", sum := "033a8a62ec6cd9cd14572c20c0a9f674ff71e9a73c688d0f8c3c2c3d3560bddb", func := "cresset/cressetlaw11.PointReads", spec := "pointReads", inPlace := ["math/bits.Add64", "math/bits.Sub64"], named := ["cresset/field.prime"], apart := false, laid := [("cresset/field.prime", laid_cresset_field_prime)], narrowed := true }
def PointReadsUptoSaid : Prop := pointReadsUptoRow.holds Tryd.pinned (OpenSpec.upto pointReadsSpec)

/-- 'cressetlaw11.PointAdds', WHERE WHAT IT READS IS OF BULK AT MOST 1048576: true; the input reads as it did. -/
def pointAddsUptoRow : OpenClaim := { program := "ytcpdehfmlmmgiaadoor", sum := "033a8a62ec6cd9cd14572c20c0a9f674ff71e9a73c688d0f8c3c2c3d3560bddb", func := "cresset/cressetlaw11.PointAdds", spec := "pointAdds", inPlace := ["math/bits.Add64", "math/bits.Sub64"], named := ["cresset/field.prime"], apart := false, laid := [("cresset/field.prime", laid_cresset_field_prime)], narrowed := true }
def PointAddsUptoSaid : Prop := pointAddsUptoRow.holds Tryd.pinned (OpenSpec.upto pointAddsSpec)

/-- 'cressetlaw11.PointMuls', WHERE WHAT IT READS IS OF BULK AT MOST 1048576: true; the input reads as it did. -/
def pointMulsUptoRow : OpenClaim := { program := "ytcpdehfmlmmgiaadoor", sum := "033a8a62ec6cd9cd14572c20c0a9f674ff71e9a73c688d0f8c3c2c3d3560bddb", func := "cresset/cressetlaw11.PointMuls", spec := "pointMuls", inPlace := ["math/bits.Add64", "math/bits.Sub64"], named := ["cresset/field.prime"], apart := false, laid := [("cresset/field.prime", laid_cresset_field_prime)], narrowed := true }
def PointMulsUptoSaid : Prop := pointMulsUptoRow.holds Tryd.pinned (OpenSpec.upto pointMulsSpec)

/-- 'cressetlaw11.PointLaws', WHERE WHAT IT READS IS OF BULK AT MOST 1048576: true; the input reads as it did. -/
def pointLawsUptoRow : OpenClaim := { program := "ytcpdehfmlmmgiaadoor", sum := "033a8a62ec6cd9cd14572c20c0a9f674ff71e9a73c688d0f8c3c2c3d3560bddb", func := "cresset/cressetlaw11.PointLaws", spec := "pointLaws", inPlace := ["math/bits.Add64", "math/bits.Sub64"], named := ["cresset/field.prime"], apart := false, laid := [("cresset/field.prime", laid_cresset_field_prime)], narrowed := true }
def PointLawsUptoSaid : Prop := pointLawsUptoRow.holds Tryd.pinned (OpenSpec.upto pointLawsSpec)

/-- 'cressetlaw11.PointTimes', WHERE WHAT IT READS IS OF BULK AT MOST 1048576: true; the input reads as it did. -/
def pointTimesUptoRow : OpenClaim := { program := "ytcpdehfmlmmgiaadoor", sum := "033a8a62ec6cd9cd14572c20c0a9f674ff71e9a73c688d0f8c3c2c3d3560bddb", func := "cresset/cressetlaw11.PointTimes", spec := "pointTimes", inPlace := ["math/bits.Add64", "math/bits.Sub64"], named := ["cresset/field.prime"], apart := false, laid := [("cresset/field.prime", laid_cresset_field_prime)], narrowed := true }
def PointTimesUptoSaid : Prop := pointTimesUptoRow.holds Tryd.pinned (OpenSpec.upto pointTimesSpec)

/-- 'cressetlaw11.PointNeg', WHERE WHAT IT READS IS OF BULK AT MOST 1048576: true; the input reads as it did. -/
def pointNegUptoRow : OpenClaim := { program := "ytcpdehfmlmmgiaadoor", sum := "033a8a62ec6cd9cd14572c20c0a9f674ff71e9a73c688d0f8c3c2c3d3560bddb", func := "cresset/cressetlaw11.PointNeg", spec := "pointNeg", inPlace := ["math/bits.Add64", "math/bits.Sub64"], named := ["cresset/field.prime"], apart := false, laid := [("cresset/field.prime", laid_cresset_field_prime)], narrowed := true }
def PointNegUptoSaid : Prop := pointNegUptoRow.holds Tryd.pinned (OpenSpec.upto pointNegSpec)

end Rows
end Go.Proofs.YtcpdehfmlmmgiaaDoor
