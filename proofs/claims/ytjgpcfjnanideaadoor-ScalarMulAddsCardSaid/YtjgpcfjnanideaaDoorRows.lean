/-
  NARROWER THAN 'FOR EVERY INPUT', by the rows' own cells (each row's printed sentence says how): ScalarWide: laid · ScalarRight: laid · ScalarMulAdds: laid · ScalarLaws: laid · ScalarSpread: laid · ScalarSmall: laid.
  DERIVED. THE GIVEN ROWS OF THIS SEAT. 6 by the template 'for every input the law returns true; each argument reads behind the call as it read before'; 0 by the template 'total and deterministic' (their statements: YtjgpcfjnanideaaDoorTotals.lean).
  GIVEN WITH THE SEED: the statements are not yours to turn. If you find one false, say at which input.
  Laid BY PROGRAM, IN A SANDBOX (cutbox-rows.mjs): the forced cells as the released guide's own fill.sh prints them over the translation 2a0479274eed29f8… (all of the seat's roots in one cut). By AI agents, Wed Nov 11 2026. No macro, syntax, notation, axiom, sorry.
-/
import Derived.Test.YtjgpcfjnanideaaDoorChecked
import GoSem.Claim
import GoSem.ClaimJoined
import GoSem.ClaimMapViews
import Derived.JoinedTies
import Derived.KernelRfl
namespace Go.Proofs.YtjgpcfjnanideaaDoor
/- THE CELL 'sum', in the pinned program and in every row, IS THE sha256 OF THE DUMP (.gsa) THAT YtjgpcfjnanideaaDoorProg.lean LOADS. Nothing in Lean hashes anything: it is a label: what it is worth is what the hold of that sum in a sandbox is worth. -/
noncomputable def Tryd.pinned : Pinned := { name := "ytjgpcfjnanideaadoor", sum := "2a0479274eed29f8dd2fc149eb2846b34635e3e1e536ec2e2c8925b253c43424", checked := Tryd.checked }
namespace Rows
def none {H : Type} : Left H := { results := [], args := [] }

/- WHAT THE LISTED PACKAGE-LEVEL VARIABLES READ AS WHEN THE CALL BEGINS. Each datum BY PROGRAM (the guide's laid-datum.mjs) off the statement by which the dump's own 'gosem.cut.vars' lays the variable. In a bare row this is a premise. The card (YtjgpcfjnanideaaDoorCards.lean) ties it to the program's text. -/
def laid_cresset_scalar_order {H : Type} : DataW H := .agg [.lit (.int .i64 44509287405), .lit (.int .i64 57537537585), .lit (.int .i64 42389927836), .lit (.int .i64 85487), .lit (.int .i64 0), .lit (.int .i64 0), .lit (.int .i64 0), .lit (.int .i64 1)]

/-- 'cressetlaw10.ScalarWide': WHATEVER THE INPUT: true; the input reads as it did. -/
def scalarWideSpec : ChangeSpec := { name := "scalarWide", fn := fun _ => fun
  | [d] => { results := [.lit (.bool true)], args := [d] }
  | _ => none }
def scalarWideRow : OpenClaim := { program := "ytjgpcfjnanideaadoor", sum := "2a0479274eed29f8dd2fc149eb2846b34635e3e1e536ec2e2c8925b253c43424", func := "cresset/cressetlaw10.ScalarWide", spec := "scalarWide", named := ["cresset/scalar.order"], apart := false, laid := [("cresset/scalar.order", laid_cresset_scalar_order)] }
def ScalarWideSaid : Prop := scalarWideRow.holds Tryd.pinned (OpenSpec.ofChange scalarWideSpec)

/-- ITS FALSE NEIGHBOUR: 'it returns false'. Refute it at one input. -/
def scalarWideWrong : ChangeSpec := { name := "scalarWide", fn := fun _ => fun
  | [d] => { results := [.lit (.bool false)], args := [d] }
  | _ => none }
def ScalarWideWrongFalsely : Prop := scalarWideRow.holds Tryd.pinned (OpenSpec.ofChange scalarWideWrong)

/-- 'cressetlaw10.ScalarRight': WHATEVER THE INPUT: true; the input reads as it did. -/
def scalarRightSpec : ChangeSpec := { name := "scalarRight", fn := fun _ => fun
  | [d] => { results := [.lit (.bool true)], args := [d] }
  | _ => none }
def scalarRightRow : OpenClaim := { program := "ytjgpcfjnanideaadoor", sum := "2a0479274eed29f8dd2fc149eb2846b34635e3e1e536ec2e2c8925b253c43424", func := "cresset/cressetlaw10.ScalarRight", spec := "scalarRight", named := ["cresset/scalar.order"], apart := false, laid := [("cresset/scalar.order", laid_cresset_scalar_order)] }
def ScalarRightSaid : Prop := scalarRightRow.holds Tryd.pinned (OpenSpec.ofChange scalarRightSpec)

/-- ITS FALSE NEIGHBOUR: 'it returns false'. Refute it at one input. -/
def scalarRightWrong : ChangeSpec := { name := "scalarRight", fn := fun _ => fun
  | [d] => { results := [.lit (.bool false)], args := [d] }
  | _ => none }
def ScalarRightWrongFalsely : Prop := scalarRightRow.holds Tryd.pinned (OpenSpec.ofChange scalarRightWrong)

/-- 'cressetlaw10.ScalarMulAdds': WHATEVER THE INPUT: true; the input reads as it did. -/
def scalarMulAddsSpec : ChangeSpec := { name := "scalarMulAdds", fn := fun _ => fun
  | [d1, d2, d3] => { results := [.lit (.bool true)], args := [d1, d2, d3] }
  | _ => none }
def scalarMulAddsRow : OpenClaim := { program := "ytjgpcfjnanideaadoor", sum := "2a0479274eed29f8dd2fc149eb2846b34635e3e1e536ec2e2c8925b253c43424", func := "cresset/cressetlaw10.ScalarMulAdds", spec := "scalarMulAdds", named := ["cresset/scalar.order"], apart := false, laid := [("cresset/scalar.order", laid_cresset_scalar_order)] }
def ScalarMulAddsSaid : Prop := scalarMulAddsRow.holds Tryd.pinned (OpenSpec.ofChange scalarMulAddsSpec)

/-- ITS FALSE NEIGHBOUR: 'it returns false'. Refute it at one input. -/
def scalarMulAddsWrong : ChangeSpec := { name := "scalarMulAdds", fn := fun _ => fun
  | [d1, d2, d3] => { results := [.lit (.bool false)], args := [d1, d2, d3] }
  | _ => none }
def ScalarMulAddsWrongFalsely : Prop := scalarMulAddsRow.holds Tryd.pinned (OpenSpec.ofChange scalarMulAddsWrong)

/-- 'cressetlaw10.ScalarLaws': WHATEVER THE INPUT: true; the input reads as it did. -/
def scalarLawsSpec : ChangeSpec := { name := "scalarLaws", fn := fun _ => fun
  | [d1, d2, d3] => { results := [.lit (.bool true)], args := [d1, d2, d3] }
  | _ => none }
def scalarLawsRow : OpenClaim := { program := "ytjgpcfjnanideaadoor", sum := "2a0479274eed29f8dd2fc149eb2846b34635e3e1e536ec2e2c8925b253c43424", func := "cresset/cressetlaw10.ScalarLaws", spec := "scalarLaws", named := ["cresset/scalar.order"], apart := false, laid := [("cresset/scalar.order", laid_cresset_scalar_order)] }
def ScalarLawsSaid : Prop := scalarLawsRow.holds Tryd.pinned (OpenSpec.ofChange scalarLawsSpec)

/-- ITS FALSE NEIGHBOUR: 'it returns false'. Refute it at one input. -/
def scalarLawsWrong : ChangeSpec := { name := "scalarLaws", fn := fun _ => fun
  | [d1, d2, d3] => { results := [.lit (.bool false)], args := [d1, d2, d3] }
  | _ => none }
def ScalarLawsWrongFalsely : Prop := scalarLawsRow.holds Tryd.pinned (OpenSpec.ofChange scalarLawsWrong)

/-- 'cressetlaw10.ScalarSpread': WHATEVER THE INPUT: true; the input reads as it did. -/
def scalarSpreadSpec : ChangeSpec := { name := "scalarSpread", fn := fun _ => fun
  | [d1, d2, d3] => { results := [.lit (.bool true)], args := [d1, d2, d3] }
  | _ => none }
def scalarSpreadRow : OpenClaim := { program := "ytjgpcfjnanideaadoor", sum := "2a0479274eed29f8dd2fc149eb2846b34635e3e1e536ec2e2c8925b253c43424", func := "cresset/cressetlaw10.ScalarSpread", spec := "scalarSpread", named := ["cresset/scalar.order"], apart := false, laid := [("cresset/scalar.order", laid_cresset_scalar_order)] }
def ScalarSpreadSaid : Prop := scalarSpreadRow.holds Tryd.pinned (OpenSpec.ofChange scalarSpreadSpec)

/-- ITS FALSE NEIGHBOUR: 'it returns false'. Refute it at one input. -/
def scalarSpreadWrong : ChangeSpec := { name := "scalarSpread", fn := fun _ => fun
  | [d1, d2, d3] => { results := [.lit (.bool false)], args := [d1, d2, d3] }
  | _ => none }
def ScalarSpreadWrongFalsely : Prop := scalarSpreadRow.holds Tryd.pinned (OpenSpec.ofChange scalarSpreadWrong)

/-- 'cressetlaw10.ScalarSmall': WHATEVER THE INPUT: true; the input reads as it did. -/
def scalarSmallSpec : ChangeSpec := { name := "scalarSmall", fn := fun _ => fun
  | [d1, d2, d3] => { results := [.lit (.bool true)], args := [d1, d2, d3] }
  | _ => none }
def scalarSmallRow : OpenClaim := { program := "ytjgpcfjnanideaadoor", sum := "2a0479274eed29f8dd2fc149eb2846b34635e3e1e536ec2e2c8925b253c43424", func := "cresset/cressetlaw10.ScalarSmall", spec := "scalarSmall", named := ["cresset/scalar.order"], apart := false, laid := [("cresset/scalar.order", laid_cresset_scalar_order)] }
def ScalarSmallSaid : Prop := scalarSmallRow.holds Tryd.pinned (OpenSpec.ofChange scalarSmallSpec)

/-- ITS FALSE NEIGHBOUR: 'it returns false'. Refute it at one input. -/
def scalarSmallWrong : ChangeSpec := { name := "scalarSmall", fn := fun _ => fun
  | [d1, d2, d3] => { results := [.lit (.bool false)], args := [d1, d2, d3] }
  | _ => none }
def ScalarSmallWrongFalsely : Prop := scalarSmallRow.holds Tryd.pinned (OpenSpec.ofChange scalarSmallWrong)

/- THE SECOND FORM. 'bulk': how many values and letters a reading holds, each counted each time it is reached (what is shared counts as often as it is met; a slice's spare places count too). A statement '..UptoSaid' is the law's where the arguments, and the package variables that the reading takes, are together of bulk at most 1048576: NARROWER than '..Said'. Prove '..Said' where nothing that the law and all that it calls make is longer than what came in: it says more and counts as full. Else prove '..UptoSaid'. A law counts once. -/
mutual
def uptoBulk {H : Type} : DataW H → Nat
  | .lit (.string bytes) => bytes.length + 1
  | .lit _ => 1
  | .nil => 1
  | .ptr d => uptoBulk d + 1
  | .slice elems spare => uptoBulkAll elems + uptoBulkAll spare + 1
  | .agg parts => uptoBulkAll parts + 1
  | .iface _ d => uptoBulk d + 1
  | .map entries => uptoBulkEntries entries + 1
  | .held _ => 1
def uptoBulkAll {H : Type} : List (DataW H) → Nat
  | [] => 0
  | d :: r => uptoBulk d + uptoBulkAll r
def uptoBulkEntries {H : Type} : List (Lit × DataW H) → Nat
  | [] => 0
  | x :: r => uptoBulkEntry x + uptoBulkEntries r
def uptoBulkEntry {H : Type} : Lit × DataW H → Nat
  | (.string bytes, d) => bytes.length + uptoBulk d + 1
  | (_, d) => uptoBulk d + 1
 end
def uptoSmall : (H : Type) → List (DataW H) → Bool := fun _ ds => decide (uptoBulkAll ds ≤ 1048576)
def OpenSpec.upto (s : _root_.Go.ChangeSpec) : _root_.Go.OpenSpec := { _root_.Go.OpenSpec.ofChange s with cond := some uptoSmall }

/-- 'cressetlaw10.ScalarWide', WHERE WHAT IT READS IS OF BULK AT MOST 1048576: true; the input reads as it did. -/
def scalarWideUptoRow : OpenClaim := { program := "ytjgpcfjnanideaadoor", sum := "2a0479274eed29f8dd2fc149eb2846b34635e3e1e536ec2e2c8925b253c43424", func := "cresset/cressetlaw10.ScalarWide", spec := "scalarWide", named := ["cresset/scalar.order"], apart := false, laid := [("cresset/scalar.order", laid_cresset_scalar_order)], narrowed := true }
def ScalarWideUptoSaid : Prop := scalarWideUptoRow.holds Tryd.pinned (OpenSpec.upto scalarWideSpec)

/-- 'cressetlaw10.ScalarRight', WHERE WHAT IT READS IS OF BULK AT MOST 1048576: true; the input reads as it did. -/
def scalarRightUptoRow : OpenClaim := { program := "ytjgpcfjnanideaadoor", sum := "2a0479274eed29f8dd2fc149eb2846b34635e3e1e536ec2e2c8925b253c43424", func := "cresset/cressetlaw10.ScalarRight", spec := "scalarRight", named := ["cresset/scalar.order"], apart := false, laid := [("cresset/scalar.order", laid_cresset_scalar_order)], narrowed := true }
def ScalarRightUptoSaid : Prop := scalarRightUptoRow.holds Tryd.pinned (OpenSpec.upto scalarRightSpec)

/-- 'cressetlaw10.ScalarMulAdds', WHERE WHAT IT READS IS OF BULK AT MOST 1048576: true; the input reads as it did. -/
def scalarMulAddsUptoRow : OpenClaim := { program := "ytjgpcfjnanideaadoor", sum := "2a0479274eed29f8dd2fc149eb2846b34635e3e1e536ec2e2c8925b253c43424", func := "cresset/cressetlaw10.ScalarMulAdds", spec := "scalarMulAdds", named := ["cresset/scalar.order"], apart := false, laid := [("cresset/scalar.order", laid_cresset_scalar_order)], narrowed := true }
def ScalarMulAddsUptoSaid : Prop := scalarMulAddsUptoRow.holds Tryd.pinned (OpenSpec.upto scalarMulAddsSpec)

/-- 'cressetlaw10.ScalarLaws', WHERE WHAT IT READS IS OF BULK AT MOST 1048576: true; the input reads as it did. -/
def scalarLawsUptoRow : OpenClaim := { program := "ytjgpcfjnanideaadoor", sum := "2a0479274eed29f8dd2fc149eb2846b34635e3e1e536ec2e2c8925b253c43424", func := "cresset/cressetlaw10.ScalarLaws", spec := "scalarLaws", named := ["cresset/scalar.order"], apart := false, laid := [("cresset/scalar.order", laid_cresset_scalar_order)], narrowed := true }
def ScalarLawsUptoSaid : Prop := scalarLawsUptoRow.holds Tryd.pinned (OpenSpec.upto scalarLawsSpec)

/-- 'cressetlaw10.ScalarSpread', WHERE WHAT IT READS IS OF BULK AT MOST 1048576: true; the input reads as it did. -/
def scalarSpreadUptoRow : OpenClaim := { program := "ytjgpcfjnanideaadoor", sum := "2a0479274eed29f8dd2fc149eb2846b34635e3e1e536ec2e2c8925b253c43424", func := "cresset/cressetlaw10.ScalarSpread", spec := "scalarSpread", named := ["cresset/scalar.order"], apart := false, laid := [("cresset/scalar.order", laid_cresset_scalar_order)], narrowed := true }
def ScalarSpreadUptoSaid : Prop := scalarSpreadUptoRow.holds Tryd.pinned (OpenSpec.upto scalarSpreadSpec)

/-- 'cressetlaw10.ScalarSmall', WHERE WHAT IT READS IS OF BULK AT MOST 1048576: true; the input reads as it did. -/
def scalarSmallUptoRow : OpenClaim := { program := "ytjgpcfjnanideaadoor", sum := "2a0479274eed29f8dd2fc149eb2846b34635e3e1e536ec2e2c8925b253c43424", func := "cresset/cressetlaw10.ScalarSmall", spec := "scalarSmall", named := ["cresset/scalar.order"], apart := false, laid := [("cresset/scalar.order", laid_cresset_scalar_order)], narrowed := true }
def ScalarSmallUptoSaid : Prop := scalarSmallUptoRow.holds Tryd.pinned (OpenSpec.upto scalarSmallSpec)

end Rows
end Go.Proofs.YtjgpcfjnanideaaDoor
