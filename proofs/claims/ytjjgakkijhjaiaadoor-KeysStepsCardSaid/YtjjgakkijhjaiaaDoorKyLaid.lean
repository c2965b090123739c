/- From the row's condition on the two tables to what the walks ask; the world in which the door's own run leaves them. -/
import Derived.Test.YtjjgakkijhjaiaaDoorKyC
import Derived.Test.YtjjgakkijhjaiaaDoorRows
import Derived.ProofKit
import Derived.LaidMore
import Derived.OpenShut
import Derived.Stop.Joined
import Derived.Lib.LaidTab
namespace Go.Proofs.YtjjgakkijhjaiaaDoor
open Go.ChangeShapes Go.WideShapes Go.ChangeAt Go.WideMaps Go.WideElems Go.RowKit
set_option maxRecDepth 100000
set_option linter.unusedSimpArgs false
set_option linter.unusedVariables false

def laid2 : List (String × DataW Unit) := [("cresset/sha.initialValues", Rows.laid_cresset_sha_initialValues), ("cresset/sha.roundConstants", Rows.laid_cresset_sha_roundConstants)]
theorem own2 : ownKnob Tryd.prog.godebug = none := by kernel_rfl
theorem gH : Tryd.prog.globalNamed "cresset/sha.initialValues" = some 0 := by kernel_rfl
theorem gK : Tryd.prog.globalNamed "cresset/sha.roundConstants" = some 1 := by kernel_rfl
theorem tH : (Tryd.prog.globals[0]?).map (·.type) = some 89 := by kernel_rfl
theorem tK : (Tryd.prog.globals[1]?).map (·.type) = some 99 := by kernel_rfl

/-- The door's own heap meets the condition. -/
theorem door_met2 (os : Os) (args : Array Value) : laidMetH Tryd.prog laid2 ((World.doorLaid Tryd.prog 400 os).forCall (fun _ _ => 0) ⟨#[], args, []⟩).memory :=
  laidMetH_of_parts3 (fuel := 8) (laidMet_of_run' 8 (by kernel_rfl) (by kernel_rfl)) (by kernel_rfl) (by kernel_rfl)

/-- What the condition gives the walks. -/
theorem of_laid2 {W : World} (h : laidMetH Tryd.prog laid2 W) : ShQ W := by
  rw [MakeChecks.laidMetH_plain _ _ _ (by kernel_rfl)] at h
  obtain ⟨ps, ⟨g0, t0, cs0, f0, p0, q0, hg0, ht0, hv0, hd0, ⟨g1, t1, cs1, f1, p1, q1, hg1, ht1, hv1, hd1, _, _⟩, _⟩, _, _⟩ := h
  obtain rfl := Option.some.inj (gH.symm.trans hg0)
  obtain rfl := Option.some.inj (gK.symm.trans hg1)
  obtain rfl := Option.some.inj (tH.symm.trans ht0)
  obtain rfl := Option.some.inj (tK.symm.trans ht1)
  have e0 : cs0.toList = hList.map fun z => Value.int .u64 z := Lib.cells_of_tab (n := 8) Tryd.underlying89 Tryd.underlying54 (by kernel_rfl) (by kernel_rfl) hd0
  have e1 : cs1.toList = kList.map fun z => Value.int .u64 z := Lib.cells_of_tab (n := 80) Tryd.underlying99 Tryd.underlying54 (by kernel_rfl) (by kernel_rfl) hd1
  refine ⟨?_, ?_⟩
  · intro t ht
    have := World.var?_cell hg1 hv1 t
    rw [this, ← Array.getElem?_toList, e1]
    have hl : t < kList.length := by simpa [kList] using ht
    simp [kf, hl]
  · intro t ht
    have := World.var?_cell hg0 hv0 t
    rw [this, ← Array.getElem?_toList, e0]
    have hl : t < hList.length := by simpa [hList] using ht
    simp [hf, hl]
end Go.Proofs.YtjjgakkijhjaiaaDoor
