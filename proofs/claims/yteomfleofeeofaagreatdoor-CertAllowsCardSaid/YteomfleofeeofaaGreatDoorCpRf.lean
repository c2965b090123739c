/- The reference's signatures and digests. -/
import Derived.Test.YteomfleofeeofaaGreatDoorCpF
import Derived.Test.YteomfleofeeofaaGreatDoorSgRver
import Derived.Test.YteomfleofeeofaaGreatDoorShaRs
namespace Go.Proofs.YteomfleofeeofaaGreatDoor
set_option maxRecDepth 100000
set_option linter.unusedSimpArgs false
set_option linter.unusedVariables false
section
open Go.RowKit Go.Sort
theorem ctR:SignR ctF where
 ver:=fun p t g w ht=>rverify_any p t g w ht
 sum:=fun s w hs=>refSum32_any s w (by omega)
end
end Go.Proofs.YteomfleofeeofaaGreatDoor
