/- What the laws of signatures ask of the program's calls. -/
import Derived.Test.YteomfleofeeofaaGreatDoorSgLaid
import Derived.Test.YteomfleofeeofaaGreatDoorSgSpec
import Derived.Test.YteomfleofeeofaaGreatDoorConvS
namespace Go.Proofs.YteomfleofeeofaaGreatDoor
set_option maxRecDepth 100000
set_option linter.unusedSimpArgs false
set_option linter.unusedVariables false
open Go.RowKit Go.Sort
structure SgCalls:Prop where
 pub:∀ (s:ByteArray) (w:World),SgnQ w→Calls Tryz.prog 22 #[.string s] w fun e w'=>e=.returned (.tuple #[.string (pubX s),.int .i64 (seedE s)])∧Below w.heap.size w w'
 sgn:∀ (s t:ByteArray) (w:World),t.size≤1000000→SgnQ w→Calls Tryz.prog 31 #[.string s,.string t] w fun e w'=>e=.returned (.tuple #[.string (sgnX s t),.int .i64 (seedE s)])∧Below w.heap.size w w'
 ver:∀ (p t g:ByteArray) (w:World),t.size≤1000000→SgnQ w→Calls Tryz.prog 39 #[.string p,.string t,.string g] w fun e w'=>e=.returned (.int .i64 (verE p t g))∧Below w.heap.size w w'
end Go.Proofs.YteomfleofeeofaaGreatDoor
