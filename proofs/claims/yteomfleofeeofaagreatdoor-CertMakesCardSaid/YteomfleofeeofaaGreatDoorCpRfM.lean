/- The reference's signatures. -/
import Derived.Test.YteomfleofeeofaaGreatDoorCpMkC
import Derived.Test.YteomfleofeeofaaGreatDoorSgRef
namespace Go.Proofs.YteomfleofeeofaaGreatDoor
set_option maxRecDepth 100000
set_option linter.unusedSimpArgs false
set_option linter.unusedVariables false
section
open Go.RowKit Go.Sort
theorem ctRM:SignRM ctF where
 pub:=fun s w=>rpublic_any s w
 sgn:=fun s t w ht=>rsign_any s t w ht
end
end Go.Proofs.YteomfleofeeofaaGreatDoor
