/- Slices of numbers as calls are handed them, and whether two are the same. -/
import Derived.Test.YtjemikbnncfonaaConvS
import Derived.Test.YtjemikbnncfonaaToldG
namespace Go.Proofs.Ytjemikbnncfonaa
open Go.RowKit Go.Sort
set_option maxRecDepth 100000
set_option linter.unusedSimpArgs false
set_option linter.unusedVariables false

/-- A slice's numbers. -/
def IntsAt (W : World) (ao : Option Addr) (zs : List Int) : Prop := ∀ j, j < zs.length → ∃ g off, ao = some ⟨g, off, none⟩ ∧ W.cell? ⟨g, off + j, none⟩ = some (.int .i64 (zs.getD j 0))
theorem IntsAt.step {W W' : World} {ao : Option Addr} {zs : List Int} (h : IntsAt W ao zs) (hb : Below W.heap.size W W') : IntsAt W' ao zs := fun j hj => by
  obtain ⟨g, off, ha, hc⟩ := h j hj
  exact ⟨g, off, ha, (hb.cell (block_lt_of_cell hc)).trans hc⟩
theorem IntsAt.nil (W : World) (ao : Option Addr) : IntsAt W ao [] := fun j hj => by cases hj
def iCells (zs : List Int) : List Value := zs.map fun z => .int .i64 z
theorem iCells_length (zs : List Int) : (iCells zs).length = zs.length := List.length_map _
theorem iCells_append (a b : List Int) : iCells (a ++ b) = iCells a ++ iCells b := List.map_append
theorem iCells_at (zs : List Int) (j : Nat) (h : j < zs.length) : (iCells zs)[j]? = some (.int .i64 (zs.getD j 0)) := by
  simp [iCells, List.getElem?_eq_getElem h, List.getD_eq_getElem?_getD]
theorem IntsAt.own {W : World} {base n c : Nat} {ao : Option Addr} {zs : List Int} (h : Own W base (.slice ao n c) (iCells zs)) (hn : zs.length = n) : IntsAt W ao zs := fun j hj => by
  obtain ⟨g, cp, e, ho, _⟩ := h.some (by rw [iCells_length]; omega)
  cases e
  exact ⟨g, 0, rfl, by rw [Nat.zero_add]; exact ho.cells j _ (iCells_at zs j hj)⟩

end Go.Proofs.Ytjemikbnncfonaa
