/- The reference's nought, its modulus, and its carries; The reference's carries; The reference's number below the modulus; The reference's sum and difference; The reference's difference; The reference's product; The reference's number of bytes; The reference's bytes of a number; The reference's small numbers; The reference's powers, its inverse, whether two numbers are the same; The reference's halves and its root. -/
import Derived.Test.YteomfleofeeofaaGreatDoorFldA
import Derived.Test.YteomfleofeeofaaGreatDoorFldP
import Derived.Test.YteomfleofeeofaaGreatDoorBase
import Derived.Laws.BitsAllLaws
import Derived.WalkSmall
namespace Go.Proofs.YteomfleofeeofaaGreatDoor
set_option maxRecDepth 100000
set_option linter.unusedSimpArgs false
set_option linter.unusedVariables false
section
open Go.RowKit Go.Sort
end
section
open Go.RowKit Go.Sort
end
section
open Go.RowKit Go.Sort
end
section
open Go.RowKit Go.Sort
end
section
open Go.RowKit Go.Sort
end
section
open Go.RowKit Go.Sort
end
section
open Go.RowKit Go.Sort
theorem getDF_byte (s:ByteArray) (i:Nat) (h:i<s.size):s.data.toList.getD i 0=s[i]:=by rw [List.getD_eq_getElem?_getD,Array.getElem?_toList];simp [h];rfl
end
section
open Go.RowKit Go.Sort
end
section
open Go.RowKit Go.Sort
end
section
open Go.RowKit Go.Sort
end
section
open Go.RowKit Go.Sort
end
end Go.Proofs.YteomfleofeeofaaGreatDoor
