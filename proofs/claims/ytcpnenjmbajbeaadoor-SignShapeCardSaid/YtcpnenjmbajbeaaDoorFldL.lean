/- From the row's condition on the prime to what the walks ask. -/
import Derived.Test.YtcpnenjmbajbeaaDoorFldP
import Derived.Test.YtcpnenjmbajbeaaDoorRows
import Derived.ProofKit
import Derived.LaidMore
import Derived.OpenShut
import Derived.Stop.Joined
import Derived.Lib.LaidTab
namespace Go.Proofs.YtcpnenjmbajbeaaDoor
section
open Go.ChangeShapes Go.WideShapes Go.ChangeAt Go.WideMaps Go.WideElems Go.RowKit
set_option maxRecDepth 100000
set_option linter.unusedSimpArgs false
set_option linter.unusedVariables false

def laid1 : List (String × DataW Unit) := [("cresset/field.prime", Rows.laid_cresset_field_prime)]
theorem own1 : ownKnob Tryd.prog.godebug = none := by kernel_rfl
theorem gQ : Tryd.prog.globalNamed "cresset/field.prime" = some 0 := by kernel_rfl
theorem tQ : (Tryd.prog.globals[0]?).map (·.type) = some 35 := by kernel_rfl
/-- The door's own heap meets the condition. -/
theorem door_met1 (os : Os) (args : Array Value) : laidMetH Tryd.prog laid1 ((World.doorLaid Tryd.prog 400 os).forCall (fun _ _ => 0) ⟨#[], args, []⟩).memory :=
  laidMetH_of_parts3 (fuel := 8) (laidMet_of_run' 8 (by kernel_rfl) (by kernel_rfl)) (by kernel_rfl) (by kernel_rfl)
/-- What the condition gives the walks. -/
theorem of_laid1 {W : World} (h : laidMetH Tryd.prog laid1 W) : PrmQ W := by
  rw [MakeChecks.laidMetH_plain _ _ _ (by kernel_rfl)] at h
  obtain ⟨ps, ⟨g0, t0, cs0, f0, p0, q0, hg0, ht0, hv0, hd0, _, _⟩, _, _⟩ := h
  obtain rfl := Option.some.inj (gQ.symm.trans hg0)
  obtain rfl := Option.some.inj (tQ.symm.trans ht0)
  have e0 : cs0.toList = ([18446744073709551597, 18446744073709551615, 18446744073709551615, 9223372036854775807] : List Int).map fun z => Value.int .u64 z := Lib.cells_of_tab (n := 4) Tryd.underlying35 Tryd.underlying33 (by kernel_rfl) (by kernel_rfl) hd0
  have e1 : cs0 = uc (limN 4 pF) := by
    apply Array.toList_inj.1
    rw [e0]
    rfl
  simp only [World.var?, gQ, Option.bind_some] at hv0
  split at hv0
  · rename_i cs T fr hh
    simp only [Option.some.injEq] at hv0
    rw [hv0, e1] at hh
    exact ⟨T, fr, hh⟩
  · cases hv0
end
end Go.Proofs.YtcpnenjmbajbeaaDoor
