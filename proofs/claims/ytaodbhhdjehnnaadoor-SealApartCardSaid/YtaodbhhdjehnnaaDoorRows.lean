/-
  NARROWER THAN 'FOR EVERY INPUT', by the rows' own cells (each row's printed sentence says how): SealNonces: laid · SealBack: laid · SealApart: laid · SealSizes: laid.
  DERIVED. THE GIVEN ROWS OF THIS SEAT. 4 by the template 'for every input the law returns true; each argument reads behind the call as it read before'; 0 by the template 'total and deterministic' (their statements: YtaodbhhdjehnnaaDoorTotals.lean).
  GIVEN WITH THE SEED: the statements are not yours to turn. If you find one false, say at which input.
  Laid BY PROGRAM, IN A SANDBOX (cutbox-rows.mjs): the forced cells as the released guide's own fill.sh prints them over the translation be65aba2550043a6… (all of the seat's roots in one cut). By AI agents, Wed Nov 11 2026. No macro, syntax, notation, axiom, sorry.
-/
import Derived.Test.YtaodbhhdjehnnaaDoorChecked
import GoSem.Claim
import GoSem.ClaimJoined
import GoSem.ClaimMapViews
import Derived.JoinedTies
import Derived.KernelRfl
namespace Go.Proofs.YtaodbhhdjehnnaaDoor
/- THE CELL 'sum', in the pinned program and in every row, IS THE sha256 OF THE DUMP (.gsa) THAT YtaodbhhdjehnnaaDoorProg.lean LOADS. Nothing in Lean hashes anything: it is a label: what it is worth is what the hold of that sum in a sandbox is worth. -/
noncomputable def Tryd.pinned : Pinned := { name := "ytaodbhhdjehnnaadoor", sum := "be65aba2550043a6be1a357a8c1681140f1061d24c073d37ae1ebd0d7d712f7c", checked := Tryd.checked }
namespace Rows
def none {H : Type} : Left H := { results := [], args := [] }

/- WHAT THE LISTED PACKAGE-LEVEL VARIABLES READ AS WHEN THE CALL BEGINS. Each datum BY PROGRAM (the guide's laid-datum.mjs) off the statement by which the dump's own 'gosem.cut.vars' lays the variable. In a bare row this is a premise. The card (YtaodbhhdjehnnaaDoorCards.lean) ties it to the program's text. -/
def laid_cresset_aes_squares {H : Type} : DataW H := .agg [.lit (.int .u64 1), .lit (.int .u64 4), .lit (.int .u64 16), .lit (.int .u64 64), .lit (.int .u64 27), .lit (.int .u64 108), .lit (.int .u64 171), .lit (.int .u64 154)]

/-- 'cressetlaw07.SealNonces': WHATEVER THE INPUT: true; the input reads as it did. -/
def sealNoncesSpec : ChangeSpec := { name := "sealNonces", fn := fun _ => fun
  | [d1, d2, d3] => { results := [.lit (.bool true)], args := [d1, d2, d3] }
  | _ => none }
def sealNoncesRow : OpenClaim := { program := "ytaodbhhdjehnnaadoor", sum := "be65aba2550043a6be1a357a8c1681140f1061d24c073d37ae1ebd0d7d712f7c", func := "cresset/cressetlaw07.SealNonces", spec := "sealNonces", inPlace := ["internal/abi.NoEscape", "internal/bytealg.MakeNoZero"], named := ["cresset/aes.squares"], apart := false, laid := [("cresset/aes.squares", laid_cresset_aes_squares)] }
def SealNoncesSaid : Prop := sealNoncesRow.holds Tryd.pinned (OpenSpec.ofChange sealNoncesSpec)

/-- ITS FALSE NEIGHBOUR: 'it returns false'. Refute it at one input. -/
def sealNoncesWrong : ChangeSpec := { name := "sealNonces", fn := fun _ => fun
  | [d1, d2, d3] => { results := [.lit (.bool false)], args := [d1, d2, d3] }
  | _ => none }
def SealNoncesWrongFalsely : Prop := sealNoncesRow.holds Tryd.pinned (OpenSpec.ofChange sealNoncesWrong)

/-- 'cressetlaw07.SealBack': WHATEVER THE INPUT: true; the input reads as it did. -/
def sealBackSpec : ChangeSpec := { name := "sealBack", fn := fun _ => fun
  | [d1, d2, d3] => { results := [.lit (.bool true)], args := [d1, d2, d3] }
  | _ => none }
def sealBackRow : OpenClaim := { program := "ytaodbhhdjehnnaadoor", sum := "be65aba2550043a6be1a357a8c1681140f1061d24c073d37ae1ebd0d7d712f7c", func := "cresset/cressetlaw07.SealBack", spec := "sealBack", inPlace := ["internal/abi.NoEscape", "internal/bytealg.MakeNoZero"], named := ["cresset/aes.squares"], apart := false, laid := [("cresset/aes.squares", laid_cresset_aes_squares)] }
def SealBackSaid : Prop := sealBackRow.holds Tryd.pinned (OpenSpec.ofChange sealBackSpec)

/-- ITS FALSE NEIGHBOUR: 'it returns false'. Refute it at one input. -/
def sealBackWrong : ChangeSpec := { name := "sealBack", fn := fun _ => fun
  | [d1, d2, d3] => { results := [.lit (.bool false)], args := [d1, d2, d3] }
  | _ => none }
def SealBackWrongFalsely : Prop := sealBackRow.holds Tryd.pinned (OpenSpec.ofChange sealBackWrong)

/-- 'cressetlaw07.SealApart': WHATEVER THE INPUT: true; the input reads as it did. -/
def sealApartSpec : ChangeSpec := { name := "sealApart", fn := fun _ => fun
  | [d1, d2, d3] => { results := [.lit (.bool true)], args := [d1, d2, d3] }
  | _ => none }
def sealApartRow : OpenClaim := { program := "ytaodbhhdjehnnaadoor", sum := "be65aba2550043a6be1a357a8c1681140f1061d24c073d37ae1ebd0d7d712f7c", func := "cresset/cressetlaw07.SealApart", spec := "sealApart", inPlace := ["internal/abi.NoEscape", "internal/bytealg.MakeNoZero"], named := ["cresset/aes.squares"], apart := false, laid := [("cresset/aes.squares", laid_cresset_aes_squares)] }
def SealApartSaid : Prop := sealApartRow.holds Tryd.pinned (OpenSpec.ofChange sealApartSpec)

/-- ITS FALSE NEIGHBOUR: 'it returns false'. Refute it at one input. -/
def sealApartWrong : ChangeSpec := { name := "sealApart", fn := fun _ => fun
  | [d1, d2, d3] => { results := [.lit (.bool false)], args := [d1, d2, d3] }
  | _ => none }
def SealApartWrongFalsely : Prop := sealApartRow.holds Tryd.pinned (OpenSpec.ofChange sealApartWrong)

/-- 'cressetlaw07.SealSizes': WHATEVER THE INPUT: true; the input reads as it did. -/
def sealSizesSpec : ChangeSpec := { name := "sealSizes", fn := fun _ => fun
  | [d] => { results := [.lit (.bool true)], args := [d] }
  | _ => none }
def sealSizesRow : OpenClaim := { program := "ytaodbhhdjehnnaadoor", sum := "be65aba2550043a6be1a357a8c1681140f1061d24c073d37ae1ebd0d7d712f7c", func := "cresset/cressetlaw07.SealSizes", spec := "sealSizes", inPlace := ["internal/abi.NoEscape", "internal/bytealg.MakeNoZero"], named := ["cresset/aes.squares"], apart := false, laid := [("cresset/aes.squares", laid_cresset_aes_squares)] }
def SealSizesSaid : Prop := sealSizesRow.holds Tryd.pinned (OpenSpec.ofChange sealSizesSpec)

/-- ITS FALSE NEIGHBOUR: 'it returns false'. Refute it at one input. -/
def sealSizesWrong : ChangeSpec := { name := "sealSizes", fn := fun _ => fun
  | [d] => { results := [.lit (.bool false)], args := [d] }
  | _ => none }
def SealSizesWrongFalsely : Prop := sealSizesRow.holds Tryd.pinned (OpenSpec.ofChange sealSizesWrong)

/- THE SECOND FORM. 'bulk': how many values and letters a reading holds, each counted each time it is reached (what is shared counts as often as it is met; a slice's spare places count too). A statement '..UptoSaid' is the law's where the arguments, and the package variables that the reading takes, are together of bulk at most 1048576: NARROWER than '..Said'. Prove '..Said' where nothing that the law and all that it calls make is longer than what came in: it says more and counts as full. Else prove '..UptoSaid'. A law counts once. -/
mutual
def uptoBulk {H : Type} : DataW H → Nat
  | .lit (.string bytes) => bytes.length + 1
  | .lit _ => 1
  | .nil => 1
  | .ptr d => uptoBulk d + 1
  | .slice elems spare => uptoBulkAll elems + uptoBulkAll spare + 1
  | .agg parts => uptoBulkAll parts + 1
  | .iface _ d => uptoBulk d + 1
  | .map entries => uptoBulkEntries entries + 1
  | .held _ => 1
def uptoBulkAll {H : Type} : List (DataW H) → Nat
  | [] => 0
  | d :: r => uptoBulk d + uptoBulkAll r
def uptoBulkEntries {H : Type} : List (Lit × DataW H) → Nat
  | [] => 0
  | x :: r => uptoBulkEntry x + uptoBulkEntries r
def uptoBulkEntry {H : Type} : Lit × DataW H → Nat
  | (.string bytes, d) => bytes.length + uptoBulk d + 1
  | (_, d) => uptoBulk d + 1
 end
def uptoSmall : (H : Type) → List (DataW H) → Bool := fun _ ds => decide (uptoBulkAll ds ≤ 1048576)
def OpenSpec.upto (s : _root_.Go.ChangeSpec) : _root_.Go.OpenSpec := { _root_.Go.OpenSpec.ofChange s with cond := some uptoSmall }

/-- 'cressetlaw07.SealNonces', WHERE WHAT IT READS IS OF BULK AT MOST 1048576: true; the input reads as it did. -/
def sealNoncesUptoRow : OpenClaim := { program := "ytaodbhhdjehnnaadoor", sum := "be65aba2550043a6be1a357a8c1681140f1061d24c073d37ae1ebd0d7d712f7c", func := "cresset/cressetlaw07.SealNonces", spec := "sealNonces", inPlace := ["internal/abi.NoEscape", "internal/bytealg.MakeNoZero"], named := ["cresset/aes.squares"], apart := false, laid := [("cresset/aes.squares", laid_cresset_aes_squares)], narrowed := true }
def SealNoncesUptoSaid : Prop := sealNoncesUptoRow.holds Tryd.pinned (OpenSpec.upto sealNoncesSpec)

/-- 'cressetlaw07.SealBack', WHERE WHAT IT READS IS OF BULK AT MOST 1048576: true; the input reads as it did. -/
def sealBackUptoRow : OpenClaim := { program := "ytaodbhhdjehnnaadoor", sum := "be65aba2550043a6be1a357a8c1681140f1061d24c073d37ae1ebd0d7d712f7c", func := "cresset/cressetlaw07.SealBack", spec := "sealBack", inPlace := ["internal/abi.NoEscape", "internal/bytealg.MakeNoZero"], named := ["cresset/aes.squares"], apart := false, laid := [("cresset/aes.squares", laid_cresset_aes_squares)], narrowed := true }
def SealBackUptoSaid : Prop := sealBackUptoRow.holds Tryd.pinned (OpenSpec.upto sealBackSpec)

/-- 'cressetlaw07.SealApart', WHERE WHAT IT READS IS OF BULK AT MOST 1048576: true; the input reads as it did. -/
def sealApartUptoRow : OpenClaim := { program := "ytaodbhhdjehnnaadoor", sum := "be65aba2550043a6be1a357a8c1681140f1061d24c073d37ae1ebd0d7d712f7c", func := "cresset/cressetlaw07.SealApart", spec := "sealApart", inPlace := ["internal/abi.NoEscape", "internal/bytealg.MakeNoZero"], named := ["cresset/aes.squares"], apart := false, laid := [("cresset/aes.squares", laid_cresset_aes_squares)], narrowed := true }
def SealApartUptoSaid : Prop := sealApartUptoRow.holds Tryd.pinned (OpenSpec.upto sealApartSpec)

/-- 'cressetlaw07.SealSizes', WHERE WHAT IT READS IS OF BULK AT MOST 1048576: true; the input reads as it did. -/
def sealSizesUptoRow : OpenClaim := { program := "ytaodbhhdjehnnaadoor", sum := "be65aba2550043a6be1a357a8c1681140f1061d24c073d37ae1ebd0d7d712f7c", func := "cresset/cressetlaw07.SealSizes", spec := "sealSizes", inPlace := ["internal/abi.NoEscape", "internal/bytealg.MakeNoZero"], named := ["cresset/aes.squares"], apart := false, laid := [("cresset/aes.squares", laid_cresset_aes_squares)], narrowed := true }
def SealSizesUptoSaid : Prop := sealSizesUptoRow.holds Tryd.pinned (OpenSpec.upto sealSizesSpec)

end Rows
end Go.Proofs.YtaodbhhdjehnnaaDoor
