/-
  NARROWER THAN 'FOR EVERY INPUT', by the rows' own cells (each row's printed sentence says how): SealSeals: laid · SealOpens: laid.
  DERIVED. THE GIVEN ROWS OF THIS SEAT. 2 by the template 'for every input the law returns true; each argument reads behind the call as it read before'; 0 by the template 'total and deterministic' (their statements: YtaodbhhdjehnnaaGreatDoorTotals.lean).
  GIVEN WITH THE SEED: the statements are not yours to turn. If you find one false, say at which input.
  Laid BY PROGRAM, IN A SANDBOX (cutbox-rows.mjs): the forced cells as the released guide's own fill.sh prints them over the translation 458ecc25d63eed5c… (all of the seat's roots in one cut). By AI agents, Wed Nov 11 2026. No macro, syntax, notation, axiom, sorry.
-/
import Derived.Test.YtaodbhhdjehnnaaGreatDoorChecked
import GoSem.Claim
import GoSem.ClaimJoined
import GoSem.ClaimMapViews
import Derived.JoinedTies
import Derived.KernelRfl
namespace Go.Proofs.YtaodbhhdjehnnaaGreatDoor
/- THE CELL 'sum', in the pinned program and in every row, IS THE sha256 OF THE DUMP (.gsa) THAT YtaodbhhdjehnnaaGreatDoorProg.lean LOADS. Nothing in Lean hashes anything: it is a label: what it is worth is what the hold of that sum in a sandbox is worth. -/
noncomputable def Tryz.pinned : Pinned := { name := "ytaodbhhdjehnnaagreatdoor", sum := "458ecc25d63eed5c1819d99570324918c833739d436d6dc7ac1b13dbfd412fd8", checked := Tryz.checked }
namespace Rows
def none {H : Type} : Left H := { results := [], args := [] }

/- WHAT THE LISTED PACKAGE-LEVEL VARIABLES READ AS WHEN THE CALL BEGINS. Each datum BY PROGRAM (the guide's laid-datum.mjs) off the statement by which the dump's own 'gosem.cut.vars' lays the variable. In a bare row this is a premise. The card (YtaodbhhdjehnnaaGreatDoorCards.lean) ties it to the program's text. -/
def laid_cresset_aes_squares {H : Type} : DataW H := .agg [.lit (.int .u64 1), .lit (.int .u64 4), .lit (.int .u64 16), .lit (.int .u64 64), .lit (.int .u64 27), .lit (.int .u64 108), .lit (.int .u64 171), .lit (.int .u64 154)]

/-- 'cressetlaw07.SealSeals': WHATEVER THE INPUT: true; the input reads as it did. -/
def sealSealsSpec : ChangeSpec := { name := "sealSeals", fn := fun _ => fun
  | [d1, d2] => { results := [.lit (.bool true)], args := [d1, d2] }
  | _ => none }
def sealSealsRow : OpenClaim := { program := "ytaodbhhdjehnnaagreatdoor", sum := "458ecc25d63eed5c1819d99570324918c833739d436d6dc7ac1b13dbfd412fd8", func := "cresset/cressetlaw07.SealSeals", spec := "sealSeals", inPlace := ["internal/abi.NoEscape", "internal/bytealg.MakeNoZero"], named := ["cresset/aes.squares"], apart := false, laid := [("cresset/aes.squares", laid_cresset_aes_squares)] }
def SealSealsSaid : Prop := sealSealsRow.holds Tryz.pinned (OpenSpec.ofChange sealSealsSpec)

/-- ITS FALSE NEIGHBOUR: 'it returns false'. Refute it at one input. -/
def sealSealsWrong : ChangeSpec := { name := "sealSeals", fn := fun _ => fun
  | [d1, d2] => { results := [.lit (.bool false)], args := [d1, d2] }
  | _ => none }
def SealSealsWrongFalsely : Prop := sealSealsRow.holds Tryz.pinned (OpenSpec.ofChange sealSealsWrong)

/-- 'cressetlaw07.SealOpens': WHATEVER THE INPUT: true; the input reads as it did. -/
def sealOpensSpec : ChangeSpec := { name := "sealOpens", fn := fun _ => fun
  | [d1, d2] => { results := [.lit (.bool true)], args := [d1, d2] }
  | _ => none }
def sealOpensRow : OpenClaim := { program := "ytaodbhhdjehnnaagreatdoor", sum := "458ecc25d63eed5c1819d99570324918c833739d436d6dc7ac1b13dbfd412fd8", func := "cresset/cressetlaw07.SealOpens", spec := "sealOpens", inPlace := ["internal/abi.NoEscape", "internal/bytealg.MakeNoZero"], named := ["cresset/aes.squares"], apart := false, laid := [("cresset/aes.squares", laid_cresset_aes_squares)] }
def SealOpensSaid : Prop := sealOpensRow.holds Tryz.pinned (OpenSpec.ofChange sealOpensSpec)

/-- ITS FALSE NEIGHBOUR: 'it returns false'. Refute it at one input. -/
def sealOpensWrong : ChangeSpec := { name := "sealOpens", fn := fun _ => fun
  | [d1, d2] => { results := [.lit (.bool false)], args := [d1, d2] }
  | _ => none }
def SealOpensWrongFalsely : Prop := sealOpensRow.holds Tryz.pinned (OpenSpec.ofChange sealOpensWrong)

/- THE SECOND FORM. 'bulk': how many values and letters a reading holds, each counted each time it is reached (what is shared counts as often as it is met; a slice's spare places count too). A statement '..UptoSaid' is the law's where the arguments, and the package variables that the reading takes, are together of bulk at most 1048576: NARROWER than '..Said'. Prove '..Said' where nothing that the law and all that it calls make is longer than what came in: it says more and counts as full. Else prove '..UptoSaid'. A law counts once. -/
mutual
def uptoBulk {H : Type} : DataW H → Nat
  | .lit (.string bytes) => bytes.length + 1
  | .lit _ => 1
  | .nil => 1
  | .ptr d => uptoBulk d + 1
  | .slice elems spare => uptoBulkAll elems + uptoBulkAll spare + 1
  | .agg parts => uptoBulkAll parts + 1
  | .iface _ d => uptoBulk d + 1
  | .map entries => uptoBulkEntries entries + 1
  | .held _ => 1
def uptoBulkAll {H : Type} : List (DataW H) → Nat
  | [] => 0
  | d :: r => uptoBulk d + uptoBulkAll r
def uptoBulkEntries {H : Type} : List (Lit × DataW H) → Nat
  | [] => 0
  | x :: r => uptoBulkEntry x + uptoBulkEntries r
def uptoBulkEntry {H : Type} : Lit × DataW H → Nat
  | (.string bytes, d) => bytes.length + uptoBulk d + 1
  | (_, d) => uptoBulk d + 1
 end
def uptoSmall : (H : Type) → List (DataW H) → Bool := fun _ ds => decide (uptoBulkAll ds ≤ 1048576)
def OpenSpec.upto (s : _root_.Go.ChangeSpec) : _root_.Go.OpenSpec := { _root_.Go.OpenSpec.ofChange s with cond := some uptoSmall }

/-- 'cressetlaw07.SealSeals', WHERE WHAT IT READS IS OF BULK AT MOST 1048576: true; the input reads as it did. -/
def sealSealsUptoRow : OpenClaim := { program := "ytaodbhhdjehnnaagreatdoor", sum := "458ecc25d63eed5c1819d99570324918c833739d436d6dc7ac1b13dbfd412fd8", func := "cresset/cressetlaw07.SealSeals", spec := "sealSeals", inPlace := ["internal/abi.NoEscape", "internal/bytealg.MakeNoZero"], named := ["cresset/aes.squares"], apart := false, laid := [("cresset/aes.squares", laid_cresset_aes_squares)], narrowed := true }
def SealSealsUptoSaid : Prop := sealSealsUptoRow.holds Tryz.pinned (OpenSpec.upto sealSealsSpec)

/-- 'cressetlaw07.SealOpens', WHERE WHAT IT READS IS OF BULK AT MOST 1048576: true; the input reads as it did. -/
def sealOpensUptoRow : OpenClaim := { program := "ytaodbhhdjehnnaagreatdoor", sum := "458ecc25d63eed5c1819d99570324918c833739d436d6dc7ac1b13dbfd412fd8", func := "cresset/cressetlaw07.SealOpens", spec := "sealOpens", inPlace := ["internal/abi.NoEscape", "internal/bytealg.MakeNoZero"], named := ["cresset/aes.squares"], apart := false, laid := [("cresset/aes.squares", laid_cresset_aes_squares)], narrowed := true }
def SealOpensUptoSaid : Prop := sealOpensUptoRow.holds Tryz.pinned (OpenSpec.upto sealOpensSpec)

end Rows
end Go.Proofs.YtaodbhhdjehnnaaGreatDoor
