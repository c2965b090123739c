/- From the row's condition on the four variables to what the walks ask. -/
import Derived.Test.YteomfleofeeofaaGreatDoorShaP
import Derived.Test.YteomfleofeeofaaGreatDoorScaP
import Derived.LaidMore
import Derived.Stop.Joined
import Derived.Lib.LaidTab
namespace Go.Proofs.YteomfleofeeofaaGreatDoor
set_option maxRecDepth 100000
set_option linter.unusedSimpArgs false
set_option linter.unusedVariables false
open Go.ChangeShapes Go.WideShapes Go.ChangeAt Go.WideMaps Go.WideElems Go.RowKit
theorem g4P:Tryz.prog.globalNamed "cresset/field.prime"=some 0:=by kernel_rfl
theorem g4O:Tryz.prog.globalNamed "cresset/scalar.order"=some 2:=by kernel_rfl
theorem g4H:Tryz.prog.globalNamed "cresset/sha.initialValues"=some 1:=by kernel_rfl
theorem g4K:Tryz.prog.globalNamed "cresset/sha.roundConstants"=some 3:=by kernel_rfl
theorem t4P:(Tryz.prog.globals[0]?).map (·.type)=some 59:=by kernel_rfl
theorem t4O:(Tryz.prog.globals[2]?).map (·.type)=some 113:=by kernel_rfl
theorem t4H:(Tryz.prog.globals[1]?).map (·.type)=some 175:=by kernel_rfl
theorem t4K:(Tryz.prog.globals[3]?).map (·.type)=some 197:=by kernel_rfl
def SgnQ(w:World):Prop:=TabK w kf∧TabH w hf∧PrmQ w∧OrdQ w
theorem SgnQ.step{w w':World}(h:SgnQ w)(hb:Below w.heap.size w w'):SgnQ w':=
 ⟨h.1.below hb h.1.lt,h.2.1.below hb h.2.1.lt,h.2.2.1.step hb,h.2.2.2.step hb⟩
theorem SgnQ.below{w w':World}{B:Nat}(h:SgnQ w)(hb:Below B w w')(hB:B=w.heap.size):SgnQ w':=h.step (hB▸hb)
end Go.Proofs.YteomfleofeeofaaGreatDoor
