/- From the row's condition on the four variables to what the walks ask. -/
import Derived.Test.YtcpnenjmbajbeaaDoorShaP
import Derived.Test.YtcpnenjmbajbeaaDoorScaP
import Derived.Test.YtcpnenjmbajbeaaDoorFldP
import Derived.Test.YtcpnenjmbajbeaaDoorRows
import Derived.ProofKit
import Derived.LaidMore
import Derived.OpenShut
import Derived.Stop.Joined
import Derived.Lib.LaidTab
namespace Go.Proofs.YtcpnenjmbajbeaaDoor
open Go.ChangeShapes Go.WideShapes Go.ChangeAt Go.WideMaps Go.WideElems Go.RowKit
set_option maxRecDepth 100000
set_option linter.unusedSimpArgs false
set_option linter.unusedVariables false

def laid4 : List (String × DataW Unit) := [("cresset/field.prime", Rows.laid_cresset_field_prime), ("cresset/scalar.order", Rows.laid_cresset_scalar_order), ("cresset/sha.initialValues", Rows.laid_cresset_sha_initialValues), ("cresset/sha.roundConstants", Rows.laid_cresset_sha_roundConstants)]
theorem own4 : ownKnob Tryd.prog.godebug = none := by kernel_rfl
theorem g4P : Tryd.prog.globalNamed "cresset/field.prime" = some 0 := by kernel_rfl
theorem g4O : Tryd.prog.globalNamed "cresset/scalar.order" = some 1 := by kernel_rfl
theorem g4H : Tryd.prog.globalNamed "cresset/sha.initialValues" = some 2 := by kernel_rfl
theorem g4K : Tryd.prog.globalNamed "cresset/sha.roundConstants" = some 3 := by kernel_rfl
theorem t4P : (Tryd.prog.globals[0]?).map (·.type) = some 35 := by kernel_rfl
theorem t4O : (Tryd.prog.globals[1]?).map (·.type) = some 49 := by kernel_rfl
theorem t4H : (Tryd.prog.globals[2]?).map (·.type) = some 83 := by kernel_rfl
theorem t4K : (Tryd.prog.globals[3]?).map (·.type) = some 100 := by kernel_rfl
/-- The door's own heap meets the condition. -/
theorem door_met4 (os : Os) (args : Array Value) : laidMetH Tryd.prog laid4 ((World.doorLaid Tryd.prog 400 os).forCall (fun _ _ => 0) ⟨#[], args, []⟩).memory :=
  laidMetH_of_parts3 (fuel := 8) (laidMet_of_run' 8 (by kernel_rfl) (by kernel_rfl)) (by kernel_rfl) (by kernel_rfl)
/-- What the four variables hold. -/
def SgnQ (w : World) : Prop := TabK w kf ∧ TabH w hf ∧ PrmQ w ∧ OrdQ w
theorem SgnQ.step {w w' : World} (h : SgnQ w) (hb : Below w.heap.size w w') : SgnQ w' :=
  ⟨h.1.below hb h.1.lt, h.2.1.below hb h.2.1.lt, h.2.2.1.step hb, h.2.2.2.step hb⟩
theorem SgnQ.below {w w' : World} {B : Nat} (h : SgnQ w) (hb : Below B w w') (hB : B = w.heap.size) : SgnQ w' := h.step (hB ▸ hb)
/-- What the condition gives the walks. -/
theorem of_laid4 {W : World} (h : laidMetH Tryd.prog laid4 W) : SgnQ W := by
  rw [MakeChecks.laidMetH_plain _ _ _ (by kernel_rfl)] at h
  obtain ⟨ps, ⟨g0, t0, cs0, f0, p0, q0, hg0, ht0, hv0, hd0, ⟨g1, t1, cs1, f1, p1, q1, hg1, ht1, hv1, hd1, ⟨g2, t2, cs2, f2, p2, q2, hg2, ht2, hv2, hd2, ⟨g3, t3, cs3, f3, p3, q3, hg3, ht3, hv3, hd3, _, _⟩, _⟩, _⟩, _⟩, _, _⟩ := h
  obtain rfl := Option.some.inj (g4P.symm.trans hg0)
  obtain rfl := Option.some.inj (g4O.symm.trans hg1)
  obtain rfl := Option.some.inj (g4H.symm.trans hg2)
  obtain rfl := Option.some.inj (g4K.symm.trans hg3)
  obtain rfl := Option.some.inj (t4P.symm.trans ht0)
  obtain rfl := Option.some.inj (t4O.symm.trans ht1)
  obtain rfl := Option.some.inj (t4H.symm.trans ht2)
  obtain rfl := Option.some.inj (t4K.symm.trans ht3)
  have e0 : cs0.toList = ([18446744073709551597, 18446744073709551615, 18446744073709551615, 9223372036854775807] : List Int).map fun z => Value.int .u64 z := Lib.cells_of_tab (n := 4) Tryd.underlying35 Tryd.underlying33 (by kernel_rfl) (by kernel_rfl) hd0
  have e1 : cs1.toList = ordI.map fun z => Value.int .i64 z := Lib.cells_of_tab (n := 8) Tryd.underlying49 Tryd.underlying2 (by kernel_rfl) (by kernel_rfl) hd1
  have e2 : cs2.toList = hList.map fun z => Value.int .u64 z := Lib.cells_of_tab (n := 8) Tryd.underlying83 Tryd.underlying33 (by kernel_rfl) (by kernel_rfl) hd2
  have e3 : cs3.toList = kList.map fun z => Value.int .u64 z := Lib.cells_of_tab (n := 80) Tryd.underlying100 Tryd.underlying33 (by kernel_rfl) (by kernel_rfl) hd3
  refine ⟨?_, ?_, ?_, ?_⟩
  · intro t ht
    have := World.var?_cell hg3 hv3 t
    rw [this, ← Array.getElem?_toList, e3]
    have hl : t < kList.length := by simpa [kList] using ht
    simp [kf, hl]
  · intro t ht
    have := World.var?_cell hg2 hv2 t
    rw [this, ← Array.getElem?_toList, e2]
    have hl : t < hList.length := by simpa [hList] using ht
    simp [hf, hl]
  · have e : cs0 = uc (limN 4 pF) := by
      apply Array.toList_inj.1
      rw [e0]
      rfl
    simp only [World.var?, g4P, Option.bind_some] at hv0
    split at hv0
    · rename_i cs T fr hh
      simp only [Option.some.injEq] at hv0
      rw [hv0, e] at hh
      exact ⟨T, fr, hh⟩
    · cases hv0
  · have e : cs1 = ic ordI := by
      apply Array.toList_inj.1
      rw [e1]
      rfl
    simp only [World.var?, g4O, Option.bind_some] at hv1
    split at hv1
    · rename_i cs T fr hh
      simp only [Option.some.injEq] at hv1
      rw [hv1, e] at hh
      exact ⟨T, fr, hh⟩
    · cases hv1
end Go.Proofs.YtcpnenjmbajbeaaDoor
