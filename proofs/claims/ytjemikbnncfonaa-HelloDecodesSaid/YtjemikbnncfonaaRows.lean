/-
  No cell of these rows narrows 'for every input' (looked for: loops, veiled, ifaces, maps, wideKeys, modest, calm, conditions, laid).
  DERIVED. THE GIVEN ROWS OF THIS SEAT. 4 by the template 'for every input the law returns true; each argument reads behind the call as it read before'; 0 by the template 'total and deterministic' (their statements: YtjemikbnncfonaaTotals.lean).
  GIVEN WITH THE SEED: the statements are not yours to turn. If you find one false, say at which input.
  Laid BY PROGRAM, IN A SANDBOX (cutbox-rows.mjs): the forced cells as the released guide's own fill.sh prints them over the translation a63d6fc5711e41de… (all of the seat's roots in one cut). By AI agents, Wed Nov 11 2026. No macro, syntax, notation, axiom, sorry.
-/
import Derived.Test.YtjemikbnncfonaaChecked
import GoSem.Claim
import GoSem.ClaimJoined
import GoSem.ClaimMapViews
import Derived.JoinedTies
import Derived.KernelRfl
namespace Go.Proofs.Ytjemikbnncfonaa
/- THE CELL 'sum', in the pinned program and in every row, IS THE sha256 OF THE DUMP (.gsa) THAT YtjemikbnncfonaaProg.lean LOADS. Nothing in Lean hashes anything: it is a label: what it is worth is what the hold of that sum in a sandbox is worth. -/
noncomputable def Try.pinned : Pinned := { name := "ytjemikbnncfonaa", sum := "a63d6fc5711e41de89bb01f44dce8f73da4872cbfa49a5b666d43bb8319d2478", checked := Try.checked }
namespace Rows
def none {H : Type} : Left H := { results := [], args := [] }

/-- 'cressetlaw16.HelloEncodes': WHATEVER THE INPUT: true; the input reads as it did. -/
def helloEncodesSpec : ChangeSpec := { name := "helloEncodes", fn := fun _ => fun
  | [d] => { results := [.lit (.bool true)], args := [d] }
  | _ => none }
def helloEncodesRow : OpenClaim := { program := "ytjemikbnncfonaa", sum := "a63d6fc5711e41de89bb01f44dce8f73da4872cbfa49a5b666d43bb8319d2478", func := "cresset/cressetlaw16.HelloEncodes", spec := "helloEncodes", apart := false }
def HelloEncodesSaid : Prop := helloEncodesRow.holds Try.pinned (OpenSpec.ofChange helloEncodesSpec)

/-- ITS FALSE NEIGHBOUR: 'it returns false'. Refute it at one input. -/
def helloEncodesWrong : ChangeSpec := { name := "helloEncodes", fn := fun _ => fun
  | [d] => { results := [.lit (.bool false)], args := [d] }
  | _ => none }
def HelloEncodesWrongFalsely : Prop := helloEncodesRow.holds Try.pinned (OpenSpec.ofChange helloEncodesWrong)

/-- 'cressetlaw16.HelloDecodes': WHATEVER THE INPUT: true; the input reads as it did. -/
def helloDecodesSpec : ChangeSpec := { name := "helloDecodes", fn := fun _ => fun
  | [d] => { results := [.lit (.bool true)], args := [d] }
  | _ => none }
def helloDecodesRow : OpenClaim := { program := "ytjemikbnncfonaa", sum := "a63d6fc5711e41de89bb01f44dce8f73da4872cbfa49a5b666d43bb8319d2478", func := "cresset/cressetlaw16.HelloDecodes", spec := "helloDecodes", apart := false }
def HelloDecodesSaid : Prop := helloDecodesRow.holds Try.pinned (OpenSpec.ofChange helloDecodesSpec)

/-- ITS FALSE NEIGHBOUR: 'it returns false'. Refute it at one input. -/
def helloDecodesWrong : ChangeSpec := { name := "helloDecodes", fn := fun _ => fun
  | [d] => { results := [.lit (.bool false)], args := [d] }
  | _ => none }
def HelloDecodesWrongFalsely : Prop := helloDecodesRow.holds Try.pinned (OpenSpec.ofChange helloDecodesWrong)

/-- 'cressetlaw16.HelloBack': WHATEVER THE INPUT: true; the input reads as it did. -/
def helloBackSpec : ChangeSpec := { name := "helloBack", fn := fun _ => fun
  | [d1, d2] => { results := [.lit (.bool true)], args := [d1, d2] }
  | _ => none }
def helloBackRow : OpenClaim := { program := "ytjemikbnncfonaa", sum := "a63d6fc5711e41de89bb01f44dce8f73da4872cbfa49a5b666d43bb8319d2478", func := "cresset/cressetlaw16.HelloBack", spec := "helloBack", apart := false }
def HelloBackSaid : Prop := helloBackRow.holds Try.pinned (OpenSpec.ofChange helloBackSpec)

/-- ITS FALSE NEIGHBOUR: 'it returns false'. Refute it at one input. -/
def helloBackWrong : ChangeSpec := { name := "helloBack", fn := fun _ => fun
  | [d1, d2] => { results := [.lit (.bool false)], args := [d1, d2] }
  | _ => none }
def HelloBackWrongFalsely : Prop := helloBackRow.holds Try.pinned (OpenSpec.ofChange helloBackWrong)

/-- 'cressetlaw16.HelloBusy': WHATEVER THE INPUT: true; the input reads as it did. -/
def helloBusySpec : ChangeSpec := { name := "helloBusy", fn := fun _ => fun
  | [d1, d2] => { results := [.lit (.bool true)], args := [d1, d2] }
  | _ => none }
def helloBusyRow : OpenClaim := { program := "ytjemikbnncfonaa", sum := "a63d6fc5711e41de89bb01f44dce8f73da4872cbfa49a5b666d43bb8319d2478", func := "cresset/cressetlaw16.HelloBusy", spec := "helloBusy", apart := false }
def HelloBusySaid : Prop := helloBusyRow.holds Try.pinned (OpenSpec.ofChange helloBusySpec)

/-- ITS FALSE NEIGHBOUR: 'it returns false'. Refute it at one input. -/
def helloBusyWrong : ChangeSpec := { name := "helloBusy", fn := fun _ => fun
  | [d1, d2] => { results := [.lit (.bool false)], args := [d1, d2] }
  | _ => none }
def HelloBusyWrongFalsely : Prop := helloBusyRow.holds Try.pinned (OpenSpec.ofChange helloBusyWrong)

/- THE SECOND FORM. 'bulk': how many values and letters a reading holds, each counted each time it is reached (what is shared counts as often as it is met; a slice's spare places count too). A statement '..UptoSaid' is the law's where the arguments, and the package variables that the reading takes, are together of bulk at most 1048576: NARROWER than '..Said'. Prove '..Said' where nothing that the law and all that it calls make is longer than what came in: it says more and counts as full. Else prove '..UptoSaid'. A law counts once. -/
mutual
def uptoBulk {H : Type} : DataW H → Nat
  | .lit (.string bytes) => bytes.length + 1
  | .lit _ => 1
  | .nil => 1
  | .ptr d => uptoBulk d + 1
  | .slice elems spare => uptoBulkAll elems + uptoBulkAll spare + 1
  | .agg parts => uptoBulkAll parts + 1
  | .iface _ d => uptoBulk d + 1
  | .map entries => uptoBulkEntries entries + 1
  | .held _ => 1
def uptoBulkAll {H : Type} : List (DataW H) → Nat
  | [] => 0
  | d :: r => uptoBulk d + uptoBulkAll r
def uptoBulkEntries {H : Type} : List (Lit × DataW H) → Nat
  | [] => 0
  | x :: r => uptoBulkEntry x + uptoBulkEntries r
def uptoBulkEntry {H : Type} : Lit × DataW H → Nat
  | (.string bytes, d) => bytes.length + uptoBulk d + 1
  | (_, d) => uptoBulk d + 1
 end
def uptoSmall : (H : Type) → List (DataW H) → Bool := fun _ ds => decide (uptoBulkAll ds ≤ 1048576)
def OpenSpec.upto (s : _root_.Go.ChangeSpec) : _root_.Go.OpenSpec := { _root_.Go.OpenSpec.ofChange s with cond := some uptoSmall }

/-- 'cressetlaw16.HelloEncodes', WHERE WHAT IT READS IS OF BULK AT MOST 1048576: true; the input reads as it did. -/
def helloEncodesUptoRow : OpenClaim := { program := "ytjemikbnncfonaa", sum := "a63d6fc5711e41de89bb01f44dce8f73da4872cbfa49a5b666d43bb8319d2478", func := "cresset/cressetlaw16.HelloEncodes", spec := "helloEncodes", apart := false, narrowed := true }
def HelloEncodesUptoSaid : Prop := helloEncodesUptoRow.holds Try.pinned (OpenSpec.upto helloEncodesSpec)

/-- 'cressetlaw16.HelloDecodes', WHERE WHAT IT READS IS OF BULK AT MOST 1048576: true; the input reads as it did. -/
def helloDecodesUptoRow : OpenClaim := { program := "ytjemikbnncfonaa", sum := "a63d6fc5711e41de89bb01f44dce8f73da4872cbfa49a5b666d43bb8319d2478", func := "cresset/cressetlaw16.HelloDecodes", spec := "helloDecodes", apart := false, narrowed := true }
def HelloDecodesUptoSaid : Prop := helloDecodesUptoRow.holds Try.pinned (OpenSpec.upto helloDecodesSpec)

/-- 'cressetlaw16.HelloBack', WHERE WHAT IT READS IS OF BULK AT MOST 1048576: true; the input reads as it did. -/
def helloBackUptoRow : OpenClaim := { program := "ytjemikbnncfonaa", sum := "a63d6fc5711e41de89bb01f44dce8f73da4872cbfa49a5b666d43bb8319d2478", func := "cresset/cressetlaw16.HelloBack", spec := "helloBack", apart := false, narrowed := true }
def HelloBackUptoSaid : Prop := helloBackUptoRow.holds Try.pinned (OpenSpec.upto helloBackSpec)

/-- 'cressetlaw16.HelloBusy', WHERE WHAT IT READS IS OF BULK AT MOST 1048576: true; the input reads as it did. -/
def helloBusyUptoRow : OpenClaim := { program := "ytjemikbnncfonaa", sum := "a63d6fc5711e41de89bb01f44dce8f73da4872cbfa49a5b666d43bb8319d2478", func := "cresset/cressetlaw16.HelloBusy", spec := "helloBusy", apart := false, narrowed := true }
def HelloBusyUptoSaid : Prop := helloBusyUptoRow.holds Try.pinned (OpenSpec.upto helloBusySpec)

end Rows
end Go.Proofs.Ytjemikbnncfonaa
