/- From the row's condition on the table of squares to what the walks ask. -/
import Derived.Test.YtoejkiblampecaaDoorAesTop
import Derived.Test.YtoejkiblampecaaDoorRows
import Derived.ProofKit
import Derived.LaidMore
import Derived.OpenShut
import Derived.Stop.Joined
import Derived.Lib.LaidTab
namespace Go.Proofs.YtoejkiblampecaaDoor
open Go.ChangeShapes Go.WideShapes Go.ChangeAt Go.WideMaps Go.WideElems Go.RowKit
set_option maxRecDepth 100000
set_option linter.unusedSimpArgs false
set_option linter.unusedVariables false

def laid1 : List (String × DataW Unit) := [("cresset/aes.squares", Rows.laid_cresset_aes_squares)]
theorem own1 : ownKnob Tryd.prog.godebug = none := by kernel_rfl
theorem gQ : Tryd.prog.globalNamed "cresset/aes.squares" = some 0 := by kernel_rfl
theorem tQ : (Tryd.prog.globals[0]?).map (·.type) = some 98 := by kernel_rfl
/-- The door's own heap meets the condition. -/
theorem door_met1 (os : Os) (args : Array Value) : laidMetH Tryd.prog laid1 ((World.doorLaid Tryd.prog 400 os).forCall (fun _ _ => 0) ⟨#[], args, []⟩).memory :=
  laidMetH_of_parts3 (fuel := 8) (laidMet_of_run' 8 (by kernel_rfl) (by kernel_rfl)) (by kernel_rfl) (by kernel_rfl)
/-- What the condition gives the walks. -/
theorem of_laid1 {W : World} (h : laidMetH Tryd.prog laid1 W) : TabQ W := by
  rw [MakeChecks.laidMetH_plain _ _ _ (by kernel_rfl)] at h
  obtain ⟨ps, ⟨g0, t0, cs0, f0, p0, q0, hg0, ht0, hv0, hd0, _, _⟩, _, _⟩ := h
  obtain rfl := Option.some.inj (gQ.symm.trans hg0)
  obtain rfl := Option.some.inj (tQ.symm.trans ht0)
  have e0 : cs0.toList = ([1, 4, 16, 64, 27, 108, 171, 154] : List Int).map fun z => Value.int .u64 z := Lib.cells_of_tab (n := 8) Tryd.underlying98 Tryd.underlying84 (by kernel_rfl) (by kernel_rfl) hd0
  intro t ht
  have := World.var?_cell hg0 hv0 t
  rw [this, ← Array.getElem?_toList, e0]
  rcases (show t = 0 ∨ t = 1 ∨ t = 2 ∨ t = 3 ∨ t = 4 ∨ t = 5 ∨ t = 6 ∨ t = 7 by omega) with rfl | rfl | rfl | rfl | rfl | rfl | rfl | rfl <;> rfl
end Go.Proofs.YtoejkiblampecaaDoor
