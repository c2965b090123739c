/- Rows of bytes in memory, and the string that is made of one. -/
import Derived.Test.YthcfolefdalaiaaDoorClone
import Derived.Laws.BytesString
namespace Go.Proofs.YthcfolefdalaiaaDoor
open Go.RowKit
set_option maxRecDepth 100000
set_option linter.unusedSimpArgs false
set_option linter.unusedVariables false

/-- The cells of bytes. -/
def bcells (l : List UInt8) : Array Value := (Lib.byteCells l).toArray
theorem bcells_size (l : List UInt8) : (bcells l).size = l.length := by simp [bcells, Lib.byteCells]
theorem bcells_get (l : List UInt8) (j : Nat) (x : UInt8) (h : l[j]? = some x) : (bcells l)[j]? = some (.int .u8 x.toNat) := by simp [bcells, Lib.byteCells, h]
theorem bcells_set (l : List UInt8) (j : Nat) (x : UInt8) : (bcells l).setIfInBounds j (.int .u8 x.toNat) = bcells (l.set j x) := by simp [bcells, Lib.byteCells, List.map_set]
theorem made_zero (n : Nat) : madeCells (Value.int .u8 0).cells n = bcells (List.replicate n 0) := by
  apply Array.ext_getElem?
  intro i
  by_cases h : i < n
  · simp [madeCells, bcells, Lib.byteCells, Value.cells, h, Nat.mod_one]
  · simp [madeCells, bcells, Lib.byteCells, Value.cells, h]
theorem pushes (ns : List UInt8) : ∀ s : ByteArray, (ns.map (fun b => (b.toNat : Int))).foldl (fun r n => r.push (UInt8.ofNat n.toNat)) s = ⟨s.data ++ ns.toArray⟩ := by
  induction ns with
  | nil => intro s; simp
  | cons a r ih =>
    intro s
    rw [List.map_cons, List.foldl_cons, ih]
    have : UInt8.ofNat ((a.toNat : Int)).toNat = a := by simp
    rw [this]
    apply ByteArray.ext
    simp [ByteArray.push]
theorem loads_bytes (w : World) (g : Nat) (l : List UInt8) (h : ∀ j x, l[j]? = some x → w.cell? ⟨g, j, none⟩ = some (.int .u8 x.toNat)) :
    (loadCells ⟨g, 0, none⟩ l.length).run Tryd.prog w = .ok (bcells l) w := by
  have := run_loadCells_list (P := Tryd.prog) w ⟨g, 0, none⟩ (Lib.byteCells l) (fun j v hv => by
    have hadd : (⟨g, 0, none⟩ : Addr).add j = ⟨g, j, none⟩ := by unfold Addr.add; split <;> simp_all
    rw [hadd]
    simp only [Lib.byteCells, List.getElem?_map, Option.map_eq_some_iff] at hv
    obtain ⟨x, hx, rfl⟩ := hv
    exact h j x hx)
  rwa [Lib.byteCells_length] at this
/-- The string of a slice of bytes. -/
theorem run_string_row (w : World) (g cap : Nat) (l : List UInt8) (h : ∀ j x, l[j]? = some x → w.cell? ⟨g, j, none⟩ = some (.int .u8 x.toNat)) :
    (convert 46 9 (.slice (some ⟨g, 0, none⟩) l.length cap)).run Tryd.prog w = .ok (.string ⟨l.toArray⟩) w := by
  rw [run_convert_bytes_string w 46 9 5 _ _ _ Tryd.underlying46 Tryd.underlying5 Tryd.underlying9,
    run_bytesToString w ⟨g, 0, none⟩ l.length cap (l.map fun b => (b.toNat : Int)) (by rw [loads_bytes w g l h]; simp [bcells, Lib.byteCells]), pushes]
  simp
theorem cells_of_bcells {w : World} {g : Nat} {t : TypeId} {fr : Nat × Nat} {l : List UInt8} (h : w.heap[g]? = some (.cells (bcells l) t fr)) : ∀ j x, l[j]? = some x → w.cell? ⟨g, j, none⟩ = some (.int .u8 x.toNat) := fun j x hx => by
  rw [cell_of_row w g j _ t fr h]; exact bcells_get l j x hx

/-- So many bytes of a number, the greatest first. -/
def be : Nat → Nat → List UInt8
  | 0, _ => []
  | j + 1, x => UInt8.ofNat (x / 256 ^ j) :: be j x
theorem be_length (j x : Nat) : (be j x).length = j := by induction j with | zero => rfl | succ j ih => simp [be, ih]
theorem be_lead (x j : Nat) (h : x / 256 ^ j = 0) (d : Nat) : be (j + d) x = List.replicate d 0 ++ be j x := by
  induction d with
  | zero => simp
  | succ d ih =>
    have e : x / 256 ^ (j + d) = 0 := by
      rw [Nat.pow_add, ← Nat.div_div_eq_div_mul, h, Nat.zero_div]
    rw [← Nat.add_assoc, be, ih, e, List.replicate_succ]
    rfl
end Go.Proofs.YthcfolefdalaiaaDoor
