/- Rows of bytes in memory, and the string that is made of one. -/
import Derived.Test.YtfidcdkoggfjaaaDoorCommon
import Derived.Lib.BufferWrite
import Derived.Lib.UnsafeStr
import Derived.Laws.MakeOwn
import Derived.Lib.AppendStr
import Derived.Laws.BytesString
namespace Go.Proofs.YtfidcdkoggfjaaaDoor
open Go.RowKit Go.Sort
set_option maxRecDepth 100000
set_option linter.unusedSimpArgs false
set_option linter.unusedVariables false

theorem info_u8 : (Tryd.prog.info? 5).map (fun i => (i.zero, i.size, i.bytes)) = some (some (.int .u8 0), 1, 1) := by kernel_rfl

/-- The cells of bytes. -/
def bcells (l : List UInt8) : Array Value := (Lib.byteCells l).toArray
theorem bcells_size (l : List UInt8) : (bcells l).size = l.length := by simp [bcells, Lib.byteCells]
theorem bcells_get (l : List UInt8) (j : Nat) (x : UInt8) (h : l[j]? = some x) : (bcells l)[j]? = some (.int .u8 x.toNat) := by simp [bcells, Lib.byteCells, h]
theorem bcells_set (l : List UInt8) (j : Nat) (x : UInt8) : (bcells l).setIfInBounds j (.int .u8 x.toNat) = bcells (l.set j x) := by simp [bcells, Lib.byteCells, List.map_set]
theorem made_zero (n : Nat) : madeCells (Value.int .u8 0).cells n = bcells (List.replicate n 0) := by
  apply Array.ext_getElem?
  intro i
  by_cases h : i < n
  · simp [madeCells, bcells, Lib.byteCells, Value.cells, h, Nat.mod_one]
  · simp [madeCells, bcells, Lib.byteCells, Value.cells, h]
theorem pushes (ns : List UInt8) : ∀ s : ByteArray, (ns.map (fun b => (b.toNat : Int))).foldl (fun r n => r.push (UInt8.ofNat n.toNat)) s = ⟨s.data ++ ns.toArray⟩ := by
  induction ns with
  | nil => intro s; simp
  | cons a r ih =>
    intro s
    rw [List.map_cons, List.foldl_cons, ih]
    have : UInt8.ofNat ((a.toNat : Int)).toNat = a := by simp
    rw [this]
    apply ByteArray.ext
    simp [ByteArray.push]
theorem loads_bytes (w : World) (g : Nat) (l : List UInt8) (h : ∀ j x, l[j]? = some x → w.cell? ⟨g, j, none⟩ = some (.int .u8 x.toNat)) :
    (loadCells ⟨g, 0, none⟩ l.length).run Tryd.prog w = .ok (bcells l) w := by
  have := run_loadCells_list (P := Tryd.prog) w ⟨g, 0, none⟩ (Lib.byteCells l) (fun j v hv => by
    have hadd : (⟨g, 0, none⟩ : Addr).add j = ⟨g, j, none⟩ := by unfold Addr.add; split <;> simp_all
    rw [hadd]
    simp only [Lib.byteCells, List.getElem?_map, Option.map_eq_some_iff] at hv
    obtain ⟨x, hx, rfl⟩ := hv
    exact h j x hx)
  rwa [Lib.byteCells_length] at this
/-- The string of a slice of bytes. -/
theorem run_string_row (w : World) (g cap : Nat) (l : List UInt8) (h : ∀ j x, l[j]? = some x → w.cell? ⟨g, j, none⟩ = some (.int .u8 x.toNat)) :
    (convert 50 9 (.slice (some ⟨g, 0, none⟩) l.length cap)).run Tryd.prog w = .ok (.string ⟨l.toArray⟩) w := by
  rw [run_convert_bytes_string w 50 9 5 _ _ _ Tryd.underlying50 Tryd.underlying5 Tryd.underlying9,
    run_bytesToString w ⟨g, 0, none⟩ l.length cap (l.map fun b => (b.toNat : Int)) (by rw [loads_bytes w g l h]; simp [bcells, Lib.byteCells]), pushes]
  simp
theorem cells_of_bcells {w : World} {g : Nat} {t : TypeId} {fr : Nat × Nat} {l : List UInt8} (h : w.heap[g]? = some (.cells (bcells l) t fr)) : ∀ j x, l[j]? = some x → w.cell? ⟨g, j, none⟩ = some (.int .u8 x.toNat) := fun j x hx => by
  rw [cell_of_row w g j _ t fr h]; exact bcells_get l j x hx

/-- So many bytes of a number, the greatest first. -/
def be : Nat → Nat → List UInt8
  | 0, _ => []
  | j + 1, x => UInt8.ofNat (x / 256 ^ j) :: be j x
theorem be_length (j x : Nat) : (be j x).length = j := by induction j with | zero => rfl | succ j ih => simp [be, ih]
theorem be_lead (x j : Nat) (h : x / 256 ^ j = 0) (d : Nat) : be (j + d) x = List.replicate d 0 ++ be j x := by
  induction d with
  | zero => simp
  | succ d ih =>
    have e : x / 256 ^ (j + d) = 0 := by
      rw [Nat.pow_add, ← Nat.div_div_eq_div_mul, h, Nat.zero_div]
    rw [← Nat.add_assoc, be, ih, e, List.replicate_succ]
    rfl
/-- Nothing that was there has changed, but for block b. -/
structure But (b : Nat) (w w' : World) : Prop where
  os : w'.os = w.os
  tape : w'.tape = w.tape
  output : w'.output = w.output
  size : w.heap.size ≤ w'.heap.size
  block : ∀ k, k < w.heap.size → k ≠ b → w'.heap[k]? = w.heap[k]?
theorem But.refl (b : Nat) (w : World) : But b w w := ⟨rfl, rfl, rfl, Nat.le_refl _, fun _ _ _ => rfl⟩
theorem But.trans {b : Nat} {u v w : World} (h : But b u v) (k : But b v w) : But b u w :=
  ⟨k.os.trans h.os, k.tape.trans h.tape, k.output.trans h.output, Nat.le_trans h.size k.size, fun i hi hb => (k.block i (Nat.lt_of_lt_of_le hi h.size) hb).trans (h.block i hi hb)⟩
theorem But.of_below {b : Nat} {w w' : World} (h : Below w.heap.size w w') : But b w w' := ⟨h.os, h.tape, h.output, h.size, fun k hk _ => h.block k hk⟩
theorem But.setCell (b : Nat) (w : World) (a : Addr) (v : Value) (h : a.block = b) : But b w (w.setCell a v) :=
  ⟨rfl, rfl, rfl, by simp [World.setCell], fun k _ hb => heap_setCell_other _ _ _ _ (fun e => hb (e.trans h))⟩
theorem But.setCells (b : Nat) : ∀ (vs : List Value) (o : Nat) (w : World), But b w (w.setCells b o vs)
  | [], _, w => But.refl b w
  | v :: r, o, w => (But.setCell b w ⟨b, o, none⟩ v rfl).trans (But.setCells b r (o + 1) _)
theorem But.below {b B : Nat} {w w' : World} (h : But b w w') (hb : B ≤ b) (hB : B ≤ w.heap.size) : Below B w w' :=
  ⟨h.os, h.tape, h.output, h.size, fun k hk => h.block k (by omega) (by omega)⟩

/-- The byte of a number that stands s bits from its end. -/
def wbyte (v : Int) (s : Nat) : UInt8 := UInt8.ofNat (v / 2 ^ s % 256).toNat
theorem wbyte_toNat (v : Int) (s : Nat) : ((wbyte v s).toNat : Int) = v / 2 ^ s % 256 := by
  have h0 : 0 ≤ v / 2 ^ s % 256 := Int.emod_nonneg _ (by decide)
  have h1 : v / 2 ^ s % 256 < 256 := Int.emod_lt_of_pos _ (by decide)
  simp [wbyte]
  omega

/-- A byte xor a mask. -/
def xorB (m : Int) (x : UInt8) : UInt8 := UInt8.ofNat (bits .xor .u8 (x.toNat : Int) m).toNat
theorem bits8_range (op : BinOp) (x y : Int) : 0 ≤ bits op .u8 x y ∧ bits op .u8 x y < 256 := by
  unfold bits
  simp only [IntKind.wrap]
  constructor
  · exact Int.emod_nonneg _ (by decide)
  · exact Int.emod_lt_of_pos _ (by decide)
theorem xorB_toNat (m : Int) (x : UInt8) : ((xorB m x).toNat : Int) = bits .xor .u8 (x.toNat : Int) m := by
  obtain ⟨h0, h1⟩ := bits8_range .xor (x.toNat : Int) m
  simp only [xorB, UInt8.toNat_ofNat']
  omega

/-- 'append', its run told. -/
theorem wpList_append_run {P : Program} {w : World} {ops : Array Oper} {rest : List Oper} {o : Oper} {a : Act} {Q : Exit → Act → World → Prop} (hgd : o.guard = none) (sl x : Operand) (t u : TypeId)
    (ho : o.op = .call { callee := .builtin .append, args := #[sl, x], argTypes := #[t, u] }) (v vx v' : Value) (w' : World) (hs : a.eval sl = v) (hx : a.eval x = vx)
    (hr : (Builtin.append_ #[t, u] o.type #[v, vx]).run P w = .ok v' w') (h : wpList P ops Q rest (a.put o.dst v') w') : wpList P ops Q (o :: rest) a w := by
  refine wpList_plain hgd fun K hK => ?_
  unfold Oper.wp execOp
  simp only [ho, resolve, invoke, builtin, Sem.run_bind, Sem.run_pure, Result.andThen_ok, List.map_toArray, List.map_cons, List.map_nil, hs, hx, hr]
  exact hK _ _ h
end Go.Proofs.YtfidcdkoggfjaaaDoor
