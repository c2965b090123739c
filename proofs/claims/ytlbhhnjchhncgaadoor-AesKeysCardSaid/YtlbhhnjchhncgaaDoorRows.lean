/-
  NARROWER THAN 'FOR EVERY INPUT', by the rows' own cells (each row's printed sentence says how): AesBlocks: laid · AesKeys: laid · AesSwaps: laid · AesMany: laid · AesApart: laid.
  DERIVED. THE GIVEN ROWS OF THIS SEAT. 5 by the template 'for every input the law returns true; each argument reads behind the call as it read before'; 0 by the template 'total and deterministic' (their statements: YtlbhhnjchhncgaaDoorTotals.lean).
  GIVEN WITH THE SEED: the statements are not yours to turn. If you find one false, say at which input.
  Laid BY PROGRAM, IN A SANDBOX (cutbox-rows.mjs): the forced cells as the released guide's own fill.sh prints them over the translation 28554880dbda05e8… (all of the seat's roots in one cut). By AI agents, Wed Nov 11 2026. No macro, syntax, notation, axiom, sorry.
-/
import Derived.Test.YtlbhhnjchhncgaaDoorChecked
import GoSem.Claim
import GoSem.ClaimJoined
import GoSem.ClaimMapViews
import Derived.JoinedTies
import Derived.KernelRfl
namespace Go.Proofs.YtlbhhnjchhncgaaDoor
/- THE CELL 'sum', in the pinned program and in every row, IS THE sha256 OF THE DUMP (.gsa) THAT YtlbhhnjchhncgaaDoorProg.lean LOADS. Nothing in Lean hashes anything: it is a label: what it is worth is what the hold of that sum in a sandbox is worth. -/
noncomputable def Tryd.pinned : Pinned := { name := "ytlbhhnjchhncgaadoor", sum := "28554880dbda05e8b5b39ead9b83995ee3bcd235bac67e012c87a0754960ac67", checked := Tryd.checked }
namespace Rows
def none {H : Type} : Left H := { results := [], args := [] }

/- WHAT THE LISTED PACKAGE-LEVEL VARIABLES READ AS WHEN THE CALL BEGINS. Each datum BY PROGRAM (the guide's laid-datum.mjs) off the statement by which the dump's own 'gosem.cut.vars' lays the variable. In a bare row this is a premise. The card (YtlbhhnjchhncgaaDoorCards.lean) ties it to the program's text. -/
def laid_cresset_aes_squares {H : Type} : DataW H := .agg [.lit (.int .u64 1), .lit (.int .u64 4), .lit (.int .u64 16), .lit (.int .u64 64), .lit (.int .u64 27), .lit (.int .u64 108), .lit (.int .u64 171), .lit (.int .u64 154)]

/-- 'cressetlaw05.AesBlocks': WHATEVER THE INPUT: true; the input reads as it did. -/
def aesBlocksSpec : ChangeSpec := { name := "aesBlocks", fn := fun _ => fun
  | [d1, d2] => { results := [.lit (.bool true)], args := [d1, d2] }
  | _ => none }
def aesBlocksRow : OpenClaim := { program := "ytlbhhnjchhncgaadoor", sum := "28554880dbda05e8b5b39ead9b83995ee3bcd235bac67e012c87a0754960ac67", func := "cresset/cressetlaw05.AesBlocks", spec := "aesBlocks", named := ["cresset/aes.squares"], apart := false, laid := [("cresset/aes.squares", laid_cresset_aes_squares)] }
def AesBlocksSaid : Prop := aesBlocksRow.holds Tryd.pinned (OpenSpec.ofChange aesBlocksSpec)

/-- ITS FALSE NEIGHBOUR: 'it returns false'. Refute it at one input. -/
def aesBlocksWrong : ChangeSpec := { name := "aesBlocks", fn := fun _ => fun
  | [d1, d2] => { results := [.lit (.bool false)], args := [d1, d2] }
  | _ => none }
def AesBlocksWrongFalsely : Prop := aesBlocksRow.holds Tryd.pinned (OpenSpec.ofChange aesBlocksWrong)

/-- 'cressetlaw05.AesKeys': WHATEVER THE INPUT: true; the input reads as it did. -/
def aesKeysSpec : ChangeSpec := { name := "aesKeys", fn := fun _ => fun
  | [d] => { results := [.lit (.bool true)], args := [d] }
  | _ => none }
def aesKeysRow : OpenClaim := { program := "ytlbhhnjchhncgaadoor", sum := "28554880dbda05e8b5b39ead9b83995ee3bcd235bac67e012c87a0754960ac67", func := "cresset/cressetlaw05.AesKeys", spec := "aesKeys", named := ["cresset/aes.squares"], apart := false, laid := [("cresset/aes.squares", laid_cresset_aes_squares)] }
def AesKeysSaid : Prop := aesKeysRow.holds Tryd.pinned (OpenSpec.ofChange aesKeysSpec)

/-- ITS FALSE NEIGHBOUR: 'it returns false'. Refute it at one input. -/
def aesKeysWrong : ChangeSpec := { name := "aesKeys", fn := fun _ => fun
  | [d] => { results := [.lit (.bool false)], args := [d] }
  | _ => none }
def AesKeysWrongFalsely : Prop := aesKeysRow.holds Tryd.pinned (OpenSpec.ofChange aesKeysWrong)

/-- 'cressetlaw05.AesSwaps': WHATEVER THE INPUT: true; the input reads as it did. -/
def aesSwapsSpec : ChangeSpec := { name := "aesSwaps", fn := fun _ => fun
  | [d] => { results := [.lit (.bool true)], args := [d] }
  | _ => none }
def aesSwapsRow : OpenClaim := { program := "ytlbhhnjchhncgaadoor", sum := "28554880dbda05e8b5b39ead9b83995ee3bcd235bac67e012c87a0754960ac67", func := "cresset/cressetlaw05.AesSwaps", spec := "aesSwaps", named := ["cresset/aes.squares"], apart := false, laid := [("cresset/aes.squares", laid_cresset_aes_squares)] }
def AesSwapsSaid : Prop := aesSwapsRow.holds Tryd.pinned (OpenSpec.ofChange aesSwapsSpec)

/-- ITS FALSE NEIGHBOUR: 'it returns false'. Refute it at one input. -/
def aesSwapsWrong : ChangeSpec := { name := "aesSwaps", fn := fun _ => fun
  | [d] => { results := [.lit (.bool false)], args := [d] }
  | _ => none }
def AesSwapsWrongFalsely : Prop := aesSwapsRow.holds Tryd.pinned (OpenSpec.ofChange aesSwapsWrong)

/-- 'cressetlaw05.AesMany': WHATEVER THE INPUT: true; the input reads as it did. -/
def aesManySpec : ChangeSpec := { name := "aesMany", fn := fun _ => fun
  | [d1, d2] => { results := [.lit (.bool true)], args := [d1, d2] }
  | _ => none }
def aesManyRow : OpenClaim := { program := "ytlbhhnjchhncgaadoor", sum := "28554880dbda05e8b5b39ead9b83995ee3bcd235bac67e012c87a0754960ac67", func := "cresset/cressetlaw05.AesMany", spec := "aesMany", named := ["cresset/aes.squares"], apart := false, laid := [("cresset/aes.squares", laid_cresset_aes_squares)] }
def AesManySaid : Prop := aesManyRow.holds Tryd.pinned (OpenSpec.ofChange aesManySpec)

/-- ITS FALSE NEIGHBOUR: 'it returns false'. Refute it at one input. -/
def aesManyWrong : ChangeSpec := { name := "aesMany", fn := fun _ => fun
  | [d1, d2] => { results := [.lit (.bool false)], args := [d1, d2] }
  | _ => none }
def AesManyWrongFalsely : Prop := aesManyRow.holds Tryd.pinned (OpenSpec.ofChange aesManyWrong)

/-- 'cressetlaw05.AesApart': WHATEVER THE INPUT: true; the input reads as it did. -/
def aesApartSpec : ChangeSpec := { name := "aesApart", fn := fun _ => fun
  | [d1, d2, d3] => { results := [.lit (.bool true)], args := [d1, d2, d3] }
  | _ => none }
def aesApartRow : OpenClaim := { program := "ytlbhhnjchhncgaadoor", sum := "28554880dbda05e8b5b39ead9b83995ee3bcd235bac67e012c87a0754960ac67", func := "cresset/cressetlaw05.AesApart", spec := "aesApart", named := ["cresset/aes.squares"], apart := false, laid := [("cresset/aes.squares", laid_cresset_aes_squares)] }
def AesApartSaid : Prop := aesApartRow.holds Tryd.pinned (OpenSpec.ofChange aesApartSpec)

/-- ITS FALSE NEIGHBOUR: 'it returns false'. Refute it at one input. -/
def aesApartWrong : ChangeSpec := { name := "aesApart", fn := fun _ => fun
  | [d1, d2, d3] => { results := [.lit (.bool false)], args := [d1, d2, d3] }
  | _ => none }
def AesApartWrongFalsely : Prop := aesApartRow.holds Tryd.pinned (OpenSpec.ofChange aesApartWrong)

/- THE SECOND FORM. 'bulk': how many values and letters a reading holds, each counted each time it is reached (what is shared counts as often as it is met; a slice's spare places count too). A statement '..UptoSaid' is the law's where the arguments, and the package variables that the reading takes, are together of bulk at most 1048576: NARROWER than '..Said'. Prove '..Said' where nothing that the law and all that it calls make is longer than what came in: it says more and counts as full. Else prove '..UptoSaid'. A law counts once. -/
mutual
def uptoBulk {H : Type} : DataW H → Nat
  | .lit (.string bytes) => bytes.length + 1
  | .lit _ => 1
  | .nil => 1
  | .ptr d => uptoBulk d + 1
  | .slice elems spare => uptoBulkAll elems + uptoBulkAll spare + 1
  | .agg parts => uptoBulkAll parts + 1
  | .iface _ d => uptoBulk d + 1
  | .map entries => uptoBulkEntries entries + 1
  | .held _ => 1
def uptoBulkAll {H : Type} : List (DataW H) → Nat
  | [] => 0
  | d :: r => uptoBulk d + uptoBulkAll r
def uptoBulkEntries {H : Type} : List (Lit × DataW H) → Nat
  | [] => 0
  | x :: r => uptoBulkEntry x + uptoBulkEntries r
def uptoBulkEntry {H : Type} : Lit × DataW H → Nat
  | (.string bytes, d) => bytes.length + uptoBulk d + 1
  | (_, d) => uptoBulk d + 1
 end
def uptoSmall : (H : Type) → List (DataW H) → Bool := fun _ ds => decide (uptoBulkAll ds ≤ 1048576)
def OpenSpec.upto (s : _root_.Go.ChangeSpec) : _root_.Go.OpenSpec := { _root_.Go.OpenSpec.ofChange s with cond := some uptoSmall }

/-- 'cressetlaw05.AesBlocks', WHERE WHAT IT READS IS OF BULK AT MOST 1048576: true; the input reads as it did. -/
def aesBlocksUptoRow : OpenClaim := { program := "ytlbhhnjchhncgaadoor", sum := "28554880dbda05e8b5b39ead9b83995ee3bcd235bac67e012c87a0754960ac67", func := "cresset/cressetlaw05.AesBlocks", spec := "aesBlocks", named := ["cresset/aes.squares"], apart := false, laid := [("cresset/aes.squares", laid_cresset_aes_squares)], narrowed := true }
def AesBlocksUptoSaid : Prop := aesBlocksUptoRow.holds Tryd.pinned (OpenSpec.upto aesBlocksSpec)

/-- 'cressetlaw05.AesKeys', WHERE WHAT IT READS IS OF BULK AT MOST 1048576: true; the input reads as it did. -/
def aesKeysUptoRow : OpenClaim := { program := "ytlbhhnjchhncgaadoor", sum := "28554880dbda05e8b5b39ead9b83995ee3bcd235bac67e012c87a0754960ac67", func := "cresset/cressetlaw05.AesKeys", spec := "aesKeys", named := ["cresset/aes.squares"], apart := false, laid := [("cresset/aes.squares", laid_cresset_aes_squares)], narrowed := true }
def AesKeysUptoSaid : Prop := aesKeysUptoRow.holds Tryd.pinned (OpenSpec.upto aesKeysSpec)

/-- 'cressetlaw05.AesSwaps', WHERE WHAT IT READS IS OF BULK AT MOST 1048576: true; the input reads as it did. -/
def aesSwapsUptoRow : OpenClaim := { program := "ytlbhhnjchhncgaadoor", sum := "28554880dbda05e8b5b39ead9b83995ee3bcd235bac67e012c87a0754960ac67", func := "cresset/cressetlaw05.AesSwaps", spec := "aesSwaps", named := ["cresset/aes.squares"], apart := false, laid := [("cresset/aes.squares", laid_cresset_aes_squares)], narrowed := true }
def AesSwapsUptoSaid : Prop := aesSwapsUptoRow.holds Tryd.pinned (OpenSpec.upto aesSwapsSpec)

/-- 'cressetlaw05.AesMany', WHERE WHAT IT READS IS OF BULK AT MOST 1048576: true; the input reads as it did. -/
def aesManyUptoRow : OpenClaim := { program := "ytlbhhnjchhncgaadoor", sum := "28554880dbda05e8b5b39ead9b83995ee3bcd235bac67e012c87a0754960ac67", func := "cresset/cressetlaw05.AesMany", spec := "aesMany", named := ["cresset/aes.squares"], apart := false, laid := [("cresset/aes.squares", laid_cresset_aes_squares)], narrowed := true }
def AesManyUptoSaid : Prop := aesManyUptoRow.holds Tryd.pinned (OpenSpec.upto aesManySpec)

/-- 'cressetlaw05.AesApart', WHERE WHAT IT READS IS OF BULK AT MOST 1048576: true; the input reads as it did. -/
def aesApartUptoRow : OpenClaim := { program := "ytlbhhnjchhncgaadoor", sum := "28554880dbda05e8b5b39ead9b83995ee3bcd235bac67e012c87a0754960ac67", func := "cresset/cressetlaw05.AesApart", spec := "aesApart", named := ["cresset/aes.squares"], apart := false, laid := [("cresset/aes.squares", laid_cresset_aes_squares)], narrowed := true }
def AesApartUptoSaid : Prop := aesApartUptoRow.holds Tryd.pinned (OpenSpec.upto aesApartSpec)

end Rows
end Go.Proofs.YtlbhhnjchhncgaaDoor
