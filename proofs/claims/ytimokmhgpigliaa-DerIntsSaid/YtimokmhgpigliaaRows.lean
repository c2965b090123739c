/-
  No cell of these rows narrows 'for every input' (looked for: loops, veiled, ifaces, maps, wideKeys, modest, calm, conditions, laid).
  DERIVED. THE GIVEN ROWS OF THIS SEAT. 11 by the template 'for every input the law returns true; each argument reads behind the call as it read before'; 0 by the template 'total and deterministic' (their statements: YtimokmhgpigliaaTotals.lean).
  GIVEN WITH THE SEED: the statements are not yours to turn. If you find one false, say at which input.
  Laid BY PROGRAM, IN A SANDBOX (cutbox-rows.mjs): the forced cells as the released guide's own fill.sh prints them over the translation d9dda3e6284a4f5d… (all of the seat's roots in one cut). By AI agents, Wed Nov 11 2026. No macro, syntax, notation, axiom, sorry.
-/
import Derived.Test.YtimokmhgpigliaaChecked
import GoSem.Claim
import GoSem.ClaimJoined
import GoSem.ClaimMapViews
import Derived.JoinedTies
import Derived.KernelRfl
namespace Go.Proofs.Ytimokmhgpigliaa
/- THE CELL 'sum', in the pinned program and in every row, IS THE sha256 OF THE DUMP (.gsa) THAT YtimokmhgpigliaaProg.lean LOADS. Nothing in Lean hashes anything: it is a label: what it is worth is what the hold of that sum in a sandbox is worth. -/
noncomputable def Try.pinned : Pinned := { name := "ytimokmhgpigliaa", sum := "d9dda3e6284a4f5df8d204fe08def6b0b6f39bfb9cd5926a0a71a33a3985bacc", checked := Try.checked }
namespace Rows
def none {H : Type} : Left H := { results := [], args := [] }

/-- 'cressetlaw13.DerWrites': WHATEVER THE INPUT: true; the input reads as it did. -/
def derWritesSpec : ChangeSpec := { name := "derWrites", fn := fun _ => fun
  | [d1, d2] => { results := [.lit (.bool true)], args := [d1, d2] }
  | _ => none }
def derWritesRow : OpenClaim := { program := "ytimokmhgpigliaa", sum := "d9dda3e6284a4f5df8d204fe08def6b0b6f39bfb9cd5926a0a71a33a3985bacc", func := "cresset/cressetlaw13.DerWrites", spec := "derWrites", apart := false }
def DerWritesSaid : Prop := derWritesRow.holds Try.pinned (OpenSpec.ofChange derWritesSpec)

/-- ITS FALSE NEIGHBOUR: 'it returns false'. Refute it at one input. -/
def derWritesWrong : ChangeSpec := { name := "derWrites", fn := fun _ => fun
  | [d1, d2] => { results := [.lit (.bool false)], args := [d1, d2] }
  | _ => none }
def DerWritesWrongFalsely : Prop := derWritesRow.holds Try.pinned (OpenSpec.ofChange derWritesWrong)

/-- 'cressetlaw13.DerReads': WHATEVER THE INPUT: true; the input reads as it did. -/
def derReadsSpec : ChangeSpec := { name := "derReads", fn := fun _ => fun
  | [d] => { results := [.lit (.bool true)], args := [d] }
  | _ => none }
def derReadsRow : OpenClaim := { program := "ytimokmhgpigliaa", sum := "d9dda3e6284a4f5df8d204fe08def6b0b6f39bfb9cd5926a0a71a33a3985bacc", func := "cresset/cressetlaw13.DerReads", spec := "derReads", apart := false }
def DerReadsSaid : Prop := derReadsRow.holds Try.pinned (OpenSpec.ofChange derReadsSpec)

/-- ITS FALSE NEIGHBOUR: 'it returns false'. Refute it at one input. -/
def derReadsWrong : ChangeSpec := { name := "derReads", fn := fun _ => fun
  | [d] => { results := [.lit (.bool false)], args := [d] }
  | _ => none }
def DerReadsWrongFalsely : Prop := derReadsRow.holds Try.pinned (OpenSpec.ofChange derReadsWrong)

/-- 'cressetlaw13.DerChecks': WHATEVER THE INPUT: true; the input reads as it did. -/
def derChecksSpec : ChangeSpec := { name := "derChecks", fn := fun _ => fun
  | [d] => { results := [.lit (.bool true)], args := [d] }
  | _ => none }
def derChecksRow : OpenClaim := { program := "ytimokmhgpigliaa", sum := "d9dda3e6284a4f5df8d204fe08def6b0b6f39bfb9cd5926a0a71a33a3985bacc", func := "cresset/cressetlaw13.DerChecks", spec := "derChecks", recurses := true, apart := false }
def DerChecksSaid : Prop := derChecksRow.holds Try.pinned (OpenSpec.ofChange derChecksSpec)

/-- ITS FALSE NEIGHBOUR: 'it returns false'. Refute it at one input. -/
def derChecksWrong : ChangeSpec := { name := "derChecks", fn := fun _ => fun
  | [d] => { results := [.lit (.bool false)], args := [d] }
  | _ => none }
def DerChecksWrongFalsely : Prop := derChecksRow.holds Try.pinned (OpenSpec.ofChange derChecksWrong)

/-- 'cressetlaw13.DerInts': WHATEVER THE INPUT: true; the input reads as it did. -/
def derIntsSpec : ChangeSpec := { name := "derInts", fn := fun _ => fun
  | [d1, d2] => { results := [.lit (.bool true)], args := [d1, d2] }
  | _ => none }
def derIntsRow : OpenClaim := { program := "ytimokmhgpigliaa", sum := "d9dda3e6284a4f5df8d204fe08def6b0b6f39bfb9cd5926a0a71a33a3985bacc", func := "cresset/cressetlaw13.DerInts", spec := "derInts", apart := false }
def DerIntsSaid : Prop := derIntsRow.holds Try.pinned (OpenSpec.ofChange derIntsSpec)

/-- ITS FALSE NEIGHBOUR: 'it returns false'. Refute it at one input. -/
def derIntsWrong : ChangeSpec := { name := "derInts", fn := fun _ => fun
  | [d1, d2] => { results := [.lit (.bool false)], args := [d1, d2] }
  | _ => none }
def DerIntsWrongFalsely : Prop := derIntsRow.holds Try.pinned (OpenSpec.ofChange derIntsWrong)

/-- 'cressetlaw13.DerOids': WHATEVER THE INPUT: true; the input reads as it did. -/
def derOidsSpec : ChangeSpec := { name := "derOids", fn := fun _ => fun
  | [d1, d2] => { results := [.lit (.bool true)], args := [d1, d2] }
  | _ => none }
def derOidsRow : OpenClaim := { program := "ytimokmhgpigliaa", sum := "d9dda3e6284a4f5df8d204fe08def6b0b6f39bfb9cd5926a0a71a33a3985bacc", func := "cresset/cressetlaw13.DerOids", spec := "derOids", apart := false }
def DerOidsSaid : Prop := derOidsRow.holds Try.pinned (OpenSpec.ofChange derOidsSpec)

/-- ITS FALSE NEIGHBOUR: 'it returns false'. Refute it at one input. -/
def derOidsWrong : ChangeSpec := { name := "derOids", fn := fun _ => fun
  | [d1, d2] => { results := [.lit (.bool false)], args := [d1, d2] }
  | _ => none }
def DerOidsWrongFalsely : Prop := derOidsRow.holds Try.pinned (OpenSpec.ofChange derOidsWrong)

/-- 'cressetlaw13.DerBack': WHATEVER THE INPUT: true; the input reads as it did. -/
def derBackSpec : ChangeSpec := { name := "derBack", fn := fun _ => fun
  | [d1, d2, d3] => { results := [.lit (.bool true)], args := [d1, d2, d3] }
  | _ => none }
def derBackRow : OpenClaim := { program := "ytimokmhgpigliaa", sum := "d9dda3e6284a4f5df8d204fe08def6b0b6f39bfb9cd5926a0a71a33a3985bacc", func := "cresset/cressetlaw13.DerBack", spec := "derBack", apart := false }
def DerBackSaid : Prop := derBackRow.holds Try.pinned (OpenSpec.ofChange derBackSpec)

/-- ITS FALSE NEIGHBOUR: 'it returns false'. Refute it at one input. -/
def derBackWrong : ChangeSpec := { name := "derBack", fn := fun _ => fun
  | [d1, d2, d3] => { results := [.lit (.bool false)], args := [d1, d2, d3] }
  | _ => none }
def DerBackWrongFalsely : Prop := derBackRow.holds Try.pinned (OpenSpec.ofChange derBackWrong)

/-- 'cressetlaw13.DerNumbers': WHATEVER THE INPUT: true; the input reads as it did. -/
def derNumbersSpec : ChangeSpec := { name := "derNumbers", fn := fun _ => fun
  | [d1, d2, d3] => { results := [.lit (.bool true)], args := [d1, d2, d3] }
  | _ => none }
def derNumbersRow : OpenClaim := { program := "ytimokmhgpigliaa", sum := "d9dda3e6284a4f5df8d204fe08def6b0b6f39bfb9cd5926a0a71a33a3985bacc", func := "cresset/cressetlaw13.DerNumbers", spec := "derNumbers", apart := false }
def DerNumbersSaid : Prop := derNumbersRow.holds Try.pinned (OpenSpec.ofChange derNumbersSpec)

/-- ITS FALSE NEIGHBOUR: 'it returns false'. Refute it at one input. -/
def derNumbersWrong : ChangeSpec := { name := "derNumbers", fn := fun _ => fun
  | [d1, d2, d3] => { results := [.lit (.bool false)], args := [d1, d2, d3] }
  | _ => none }
def DerNumbersWrongFalsely : Prop := derNumbersRow.holds Try.pinned (OpenSpec.ofChange derNumbersWrong)

/-- 'cressetlaw13.DerInt': WHATEVER THE INPUT: true; the input reads as it did. -/
def derIntSpec : ChangeSpec := { name := "derInt", fn := fun _ => fun
  | [d] => { results := [.lit (.bool true)], args := [d] }
  | _ => none }
def derIntRow : OpenClaim := { program := "ytimokmhgpigliaa", sum := "d9dda3e6284a4f5df8d204fe08def6b0b6f39bfb9cd5926a0a71a33a3985bacc", func := "cresset/cressetlaw13.DerInt", spec := "derInt", apart := false }
def DerIntSaid : Prop := derIntRow.holds Try.pinned (OpenSpec.ofChange derIntSpec)

/-- ITS FALSE NEIGHBOUR: 'it returns false'. Refute it at one input. -/
def derIntWrong : ChangeSpec := { name := "derInt", fn := fun _ => fun
  | [d] => { results := [.lit (.bool false)], args := [d] }
  | _ => none }
def DerIntWrongFalsely : Prop := derIntRow.holds Try.pinned (OpenSpec.ofChange derIntWrong)

/-- 'cressetlaw13.DerReadInt': WHATEVER THE INPUT: true; the input reads as it did. -/
def derReadIntSpec : ChangeSpec := { name := "derReadInt", fn := fun _ => fun
  | [d] => { results := [.lit (.bool true)], args := [d] }
  | _ => none }
def derReadIntRow : OpenClaim := { program := "ytimokmhgpigliaa", sum := "d9dda3e6284a4f5df8d204fe08def6b0b6f39bfb9cd5926a0a71a33a3985bacc", func := "cresset/cressetlaw13.DerReadInt", spec := "derReadInt", apart := false }
def DerReadIntSaid : Prop := derReadIntRow.holds Try.pinned (OpenSpec.ofChange derReadIntSpec)

/-- ITS FALSE NEIGHBOUR: 'it returns false'. Refute it at one input. -/
def derReadIntWrong : ChangeSpec := { name := "derReadInt", fn := fun _ => fun
  | [d] => { results := [.lit (.bool false)], args := [d] }
  | _ => none }
def DerReadIntWrongFalsely : Prop := derReadIntRow.holds Try.pinned (OpenSpec.ofChange derReadIntWrong)

/-- 'cressetlaw13.DerOid': WHATEVER THE INPUT: true; the input reads as it did. -/
def derOidSpec : ChangeSpec := { name := "derOid", fn := fun _ => fun
  | [d] => { results := [.lit (.bool true)], args := [d] }
  | _ => none }
def derOidRow : OpenClaim := { program := "ytimokmhgpigliaa", sum := "d9dda3e6284a4f5df8d204fe08def6b0b6f39bfb9cd5926a0a71a33a3985bacc", func := "cresset/cressetlaw13.DerOid", spec := "derOid", apart := false }
def DerOidSaid : Prop := derOidRow.holds Try.pinned (OpenSpec.ofChange derOidSpec)

/-- ITS FALSE NEIGHBOUR: 'it returns false'. Refute it at one input. -/
def derOidWrong : ChangeSpec := { name := "derOid", fn := fun _ => fun
  | [d] => { results := [.lit (.bool false)], args := [d] }
  | _ => none }
def DerOidWrongFalsely : Prop := derOidRow.holds Try.pinned (OpenSpec.ofChange derOidWrong)

/-- 'cressetlaw13.DerReadOid': WHATEVER THE INPUT: true; the input reads as it did. -/
def derReadOidSpec : ChangeSpec := { name := "derReadOid", fn := fun _ => fun
  | [d] => { results := [.lit (.bool true)], args := [d] }
  | _ => none }
def derReadOidRow : OpenClaim := { program := "ytimokmhgpigliaa", sum := "d9dda3e6284a4f5df8d204fe08def6b0b6f39bfb9cd5926a0a71a33a3985bacc", func := "cresset/cressetlaw13.DerReadOid", spec := "derReadOid", apart := false }
def DerReadOidSaid : Prop := derReadOidRow.holds Try.pinned (OpenSpec.ofChange derReadOidSpec)

/-- ITS FALSE NEIGHBOUR: 'it returns false'. Refute it at one input. -/
def derReadOidWrong : ChangeSpec := { name := "derReadOid", fn := fun _ => fun
  | [d] => { results := [.lit (.bool false)], args := [d] }
  | _ => none }
def DerReadOidWrongFalsely : Prop := derReadOidRow.holds Try.pinned (OpenSpec.ofChange derReadOidWrong)

/- THE SECOND FORM. 'bulk': how many values and letters a reading holds, each counted each time it is reached (what is shared counts as often as it is met; a slice's spare places count too). A statement '..UptoSaid' is the law's where the arguments, and the package variables that the reading takes, are together of bulk at most 1048576: NARROWER than '..Said'. Prove '..Said' where nothing that the law and all that it calls make is longer than what came in: it says more and counts as full. Else prove '..UptoSaid'. A law counts once. -/
mutual
def uptoBulk {H : Type} : DataW H → Nat
  | .lit (.string bytes) => bytes.length + 1
  | .lit _ => 1
  | .nil => 1
  | .ptr d => uptoBulk d + 1
  | .slice elems spare => uptoBulkAll elems + uptoBulkAll spare + 1
  | .agg parts => uptoBulkAll parts + 1
  | .iface _ d => uptoBulk d + 1
  | .map entries => uptoBulkEntries entries + 1
  | .held _ => 1
def uptoBulkAll {H : Type} : List (DataW H) → Nat
  | [] => 0
  | d :: r => uptoBulk d + uptoBulkAll r
def uptoBulkEntries {H : Type} : List (Lit × DataW H) → Nat
  | [] => 0
  | x :: r => uptoBulkEntry x + uptoBulkEntries r
def uptoBulkEntry {H : Type} : Lit × DataW H → Nat
  | (.string bytes, d) => bytes.length + uptoBulk d + 1
  | (_, d) => uptoBulk d + 1
 end
def uptoSmall : (H : Type) → List (DataW H) → Bool := fun _ ds => decide (uptoBulkAll ds ≤ 1048576)
def OpenSpec.upto (s : _root_.Go.ChangeSpec) : _root_.Go.OpenSpec := { _root_.Go.OpenSpec.ofChange s with cond := some uptoSmall }

/-- 'cressetlaw13.DerWrites', WHERE WHAT IT READS IS OF BULK AT MOST 1048576: true; the input reads as it did. -/
def derWritesUptoRow : OpenClaim := { program := "ytimokmhgpigliaa", sum := "d9dda3e6284a4f5df8d204fe08def6b0b6f39bfb9cd5926a0a71a33a3985bacc", func := "cresset/cressetlaw13.DerWrites", spec := "derWrites", apart := false, narrowed := true }
def DerWritesUptoSaid : Prop := derWritesUptoRow.holds Try.pinned (OpenSpec.upto derWritesSpec)

/-- 'cressetlaw13.DerReads', WHERE WHAT IT READS IS OF BULK AT MOST 1048576: true; the input reads as it did. -/
def derReadsUptoRow : OpenClaim := { program := "ytimokmhgpigliaa", sum := "d9dda3e6284a4f5df8d204fe08def6b0b6f39bfb9cd5926a0a71a33a3985bacc", func := "cresset/cressetlaw13.DerReads", spec := "derReads", apart := false, narrowed := true }
def DerReadsUptoSaid : Prop := derReadsUptoRow.holds Try.pinned (OpenSpec.upto derReadsSpec)

/-- 'cressetlaw13.DerChecks', WHERE WHAT IT READS IS OF BULK AT MOST 1048576: true; the input reads as it did. -/
def derChecksUptoRow : OpenClaim := { program := "ytimokmhgpigliaa", sum := "d9dda3e6284a4f5df8d204fe08def6b0b6f39bfb9cd5926a0a71a33a3985bacc", func := "cresset/cressetlaw13.DerChecks", spec := "derChecks", recurses := true, apart := false, narrowed := true }
def DerChecksUptoSaid : Prop := derChecksUptoRow.holds Try.pinned (OpenSpec.upto derChecksSpec)

/-- 'cressetlaw13.DerInts', WHERE WHAT IT READS IS OF BULK AT MOST 1048576: true; the input reads as it did. -/
def derIntsUptoRow : OpenClaim := { program := "ytimokmhgpigliaa", sum := "d9dda3e6284a4f5df8d204fe08def6b0b6f39bfb9cd5926a0a71a33a3985bacc", func := "cresset/cressetlaw13.DerInts", spec := "derInts", apart := false, narrowed := true }
def DerIntsUptoSaid : Prop := derIntsUptoRow.holds Try.pinned (OpenSpec.upto derIntsSpec)

/-- 'cressetlaw13.DerOids', WHERE WHAT IT READS IS OF BULK AT MOST 1048576: true; the input reads as it did. -/
def derOidsUptoRow : OpenClaim := { program := "ytimokmhgpigliaa", sum := "d9dda3e6284a4f5df8d204fe08def6b0b6f39bfb9cd5926a0a71a33a3985bacc", func := "cresset/cressetlaw13.DerOids", spec := "derOids", apart := false, narrowed := true }
def DerOidsUptoSaid : Prop := derOidsUptoRow.holds Try.pinned (OpenSpec.upto derOidsSpec)

/-- 'cressetlaw13.DerBack', WHERE WHAT IT READS IS OF BULK AT MOST 1048576: true; the input reads as it did. -/
def derBackUptoRow : OpenClaim := { program := "ytimokmhgpigliaa", sum := "d9dda3e6284a4f5df8d204fe08def6b0b6f39bfb9cd5926a0a71a33a3985bacc", func := "cresset/cressetlaw13.DerBack", spec := "derBack", apart := false, narrowed := true }
def DerBackUptoSaid : Prop := derBackUptoRow.holds Try.pinned (OpenSpec.upto derBackSpec)

/-- 'cressetlaw13.DerNumbers', WHERE WHAT IT READS IS OF BULK AT MOST 1048576: true; the input reads as it did. -/
def derNumbersUptoRow : OpenClaim := { program := "ytimokmhgpigliaa", sum := "d9dda3e6284a4f5df8d204fe08def6b0b6f39bfb9cd5926a0a71a33a3985bacc", func := "cresset/cressetlaw13.DerNumbers", spec := "derNumbers", apart := false, narrowed := true }
def DerNumbersUptoSaid : Prop := derNumbersUptoRow.holds Try.pinned (OpenSpec.upto derNumbersSpec)

/-- 'cressetlaw13.DerInt', WHERE WHAT IT READS IS OF BULK AT MOST 1048576: true; the input reads as it did. -/
def derIntUptoRow : OpenClaim := { program := "ytimokmhgpigliaa", sum := "d9dda3e6284a4f5df8d204fe08def6b0b6f39bfb9cd5926a0a71a33a3985bacc", func := "cresset/cressetlaw13.DerInt", spec := "derInt", apart := false, narrowed := true }
def DerIntUptoSaid : Prop := derIntUptoRow.holds Try.pinned (OpenSpec.upto derIntSpec)

/-- 'cressetlaw13.DerReadInt', WHERE WHAT IT READS IS OF BULK AT MOST 1048576: true; the input reads as it did. -/
def derReadIntUptoRow : OpenClaim := { program := "ytimokmhgpigliaa", sum := "d9dda3e6284a4f5df8d204fe08def6b0b6f39bfb9cd5926a0a71a33a3985bacc", func := "cresset/cressetlaw13.DerReadInt", spec := "derReadInt", apart := false, narrowed := true }
def DerReadIntUptoSaid : Prop := derReadIntUptoRow.holds Try.pinned (OpenSpec.upto derReadIntSpec)

/-- 'cressetlaw13.DerOid', WHERE WHAT IT READS IS OF BULK AT MOST 1048576: true; the input reads as it did. -/
def derOidUptoRow : OpenClaim := { program := "ytimokmhgpigliaa", sum := "d9dda3e6284a4f5df8d204fe08def6b0b6f39bfb9cd5926a0a71a33a3985bacc", func := "cresset/cressetlaw13.DerOid", spec := "derOid", apart := false, narrowed := true }
def DerOidUptoSaid : Prop := derOidUptoRow.holds Try.pinned (OpenSpec.upto derOidSpec)

/-- 'cressetlaw13.DerReadOid', WHERE WHAT IT READS IS OF BULK AT MOST 1048576: true; the input reads as it did. -/
def derReadOidUptoRow : OpenClaim := { program := "ytimokmhgpigliaa", sum := "d9dda3e6284a4f5df8d204fe08def6b0b6f39bfb9cd5926a0a71a33a3985bacc", func := "cresset/cressetlaw13.DerReadOid", spec := "derReadOid", apart := false, narrowed := true }
def DerReadOidUptoSaid : Prop := derReadOidUptoRow.holds Try.pinned (OpenSpec.upto derReadOidSpec)

end Rows
end Go.Proofs.Ytimokmhgpigliaa
