/- A running digest of words of 32 bits in memory: its ten cells in the midst of a block; what it is to change one block alone. -/
import Derived.Test.YthcfolefdalaiaaDoorComp32
namespace Go.Proofs.YthcfolefdalaiaaDoor
open Go.RowKit Go.Sort
set_option maxRecDepth 100000
set_option linter.unusedSimpArgs false
set_option linter.unusedVariables false

/-- Nothing that was there has changed, but for block b. -/
structure But (b : Nat) (w w' : World) : Prop where
  os : w'.os = w.os
  tape : w'.tape = w.tape
  output : w'.output = w.output
  size : w.heap.size ≤ w'.heap.size
  block : ∀ k, k < w.heap.size → k ≠ b → w'.heap[k]? = w.heap[k]?
theorem But.refl (b : Nat) (w : World) : But b w w := ⟨rfl, rfl, rfl, Nat.le_refl _, fun _ _ _ => rfl⟩
theorem But.trans {b : Nat} {u v w : World} (h : But b u v) (k : But b v w) : But b u w :=
  ⟨k.os.trans h.os, k.tape.trans h.tape, k.output.trans h.output, Nat.le_trans h.size k.size, fun i hi hb => (k.block i (Nat.lt_of_lt_of_le hi h.size) hb).trans (h.block i hi hb)⟩
theorem But.of_below {b : Nat} {w w' : World} (h : Below w.heap.size w w') : But b w w' := ⟨h.os, h.tape, h.output, h.size, fun k hk _ => h.block k hk⟩
theorem But.setCell (b : Nat) (w : World) (a : Addr) (v : Value) (h : a.block = b) : But b w (w.setCell a v) :=
  ⟨rfl, rfl, rfl, by simp [World.setCell], fun k _ hb => heap_setCell_other _ _ _ _ (fun e => hb (e.trans h))⟩
theorem But.setCells (b : Nat) : ∀ (vs : List Value) (o : Nat) (w : World), But b w (w.setCells b o vs)
  | [], _, w => But.refl b w
  | v :: r, o, w => (But.setCell b w ⟨b, o, none⟩ v rfl).trans (But.setCells b r (o + 1) _)
theorem But.below {b B : Nat} {w w' : World} (h : But b w w') (hb : B ≤ b) (hB : B ≤ w.heap.size) : Below B w w' :=
  ⟨h.os, h.tape, h.output, h.size, fun k hk => h.block k (by omega) (by omega)⟩

/-- The cells of a block in whose midst a running digest lies. -/
def rc32 (pre post : List Value) (st : W8) (rest : ByteArray) (len : Int) : Array Value :=
  (pre ++ (Value.int .u32 st.a :: Value.int .u32 st.b :: Value.int .u32 st.c :: Value.int .u32 st.d :: Value.int .u32 st.e :: Value.int .u32 st.f :: Value.int .u32 st.g :: Value.int .u32 st.h :: Value.string rest :: Value.int .u64 len :: post)).toArray

theorem rc32_state (pre post : List Value) (st : W8) (rest : ByteArray) (len : Int) (j : Nat) (hj : j < 8) : (rc32 pre post st rest len)[pre.length + j]? = some (.int .u32 (st.at j)) := by
  rcases lt8 hj with rfl | rfl | rfl | rfl | rfl | rfl | rfl | rfl <;> simp [rc32, W8.at]
theorem rc32_rest (pre post : List Value) (st : W8) (rest : ByteArray) (len : Int) : (rc32 pre post st rest len)[pre.length + 8]? = some (.string rest) := by
  simp [rc32]
theorem rc32_len (pre post : List Value) (st : W8) (rest : ByteArray) (len : Int) : (rc32 pre post st rest len)[pre.length + 9]? = some (.int .u64 len) := by
  simp [rc32]
theorem rc32_setLen (pre post : List Value) (st : W8) (rest : ByteArray) (len x : Int) : (rc32 pre post st rest len).setIfInBounds (pre.length + 9) (.int .u64 x) = rc32 pre post st rest x := by
  simp [rc32, List.set_append]
theorem rc32_setRest (pre post : List Value) (st : W8) (rest x : ByteArray) (len : Int) : (rc32 pre post st rest len).setIfInBounds (pre.length + 8) (.string x) = rc32 pre post st x len := by
  simp [rc32, List.set_append]
theorem rc32_setState {w : World} {b : Nat} {ty : TypeId} (pre post : List Value) (st st' : W8) (rest : ByteArray) (len : Int) (h : w.heap[b]? = some (.cells (rc32 pre post st rest len) ty)) :
    (w.setCells b pre.length st'.cells32.toList).heap[b]? = some (.cells (rc32 pre post st' rest len) ty) := by
  rw [show st'.cells32.toList = [.int .u32 st'.a, .int .u32 st'.b, .int .u32 st'.c, .int .u32 st'.d, .int .u32 st'.e, .int .u32 st'.f, .int .u32 st'.g, .int .u32 st'.h] from rfl]
  simp only [World.setCells]
  have h0 := heap_setCell_same w b pre.length _ ty (.int .u32 st'.a) h
  have h1 := heap_setCell_same _ b (pre.length + 1) _ ty (.int .u32 st'.b) h0
  have h2 := heap_setCell_same _ b (pre.length + 1 + 1) _ ty (.int .u32 st'.c) h1
  have h3 := heap_setCell_same _ b (pre.length + 1 + 1 + 1) _ ty (.int .u32 st'.d) h2
  have h4 := heap_setCell_same _ b (pre.length + 1 + 1 + 1 + 1) _ ty (.int .u32 st'.e) h3
  have h5 := heap_setCell_same _ b (pre.length + 1 + 1 + 1 + 1 + 1) _ ty (.int .u32 st'.f) h4
  have h6 := heap_setCell_same _ b (pre.length + 1 + 1 + 1 + 1 + 1 + 1) _ ty (.int .u32 st'.g) h5
  have h7 := heap_setCell_same _ b (pre.length + 1 + 1 + 1 + 1 + 1 + 1 + 1) _ ty (.int .u32 st'.h) h6
  rw [h7]
  simp [rc32, List.set_append, Nat.add_assoc]

/-- The blocks of a text, one behind the other. -/
def fold32 (K : Nat → Int) (st : W8) (l : List UInt8) : Nat → W8
  | 0 => st
  | n + 1 => comp32 K (fold32 K st l n) ((l.drop (64 * n)).take 64)
theorem fold32_succ (K : Nat → Int) (st : W8) (l : List UInt8) (n : Nat) : fold32 K st l (n + 1) = fold32 K (comp32 K st (l.take 64)) (l.drop 64) n := by
  induction n with
  | zero => simp [fold32]
  | succ n ih =>
    rw [fold32, ih, fold32, List.drop_drop, show 64 + 64 * n = 64 * (n + 1) by omega]
/-- What is left of a text behind its whole blocks. -/
def tail64 (l : List UInt8) : List UInt8 := l.drop (64 * (l.length / 64))
def full32 (K : Nat → Int) (st : W8) (l : List UInt8) : W8 := fold32 K st l (l.length / 64)
theorem full32_short (K : Nat → Int) (st : W8) (l : List UInt8) (h : l.length < 64) : full32 K st l = st ∧ tail64 l = l := by
  have : l.length / 64 = 0 := by omega
  simp [full32, tail64, this, fold32]
theorem full32_long (K : Nat → Int) (st : W8) (l : List UInt8) (h : 64 ≤ l.length) : full32 K st l = full32 K (comp32 K st (l.take 64)) (l.drop 64) ∧ tail64 l = tail64 (l.drop 64) := by
  have e : l.length / 64 = (l.length - 64) / 64 + 1 := by omega
  constructor
  · unfold full32
    rw [e, fold32_succ, List.length_drop]
  · unfold tail64
    rw [List.drop_drop, List.length_drop]
    congr 1
    omega
theorem tail64_length (l : List UInt8) : (tail64 l).length < 64 := by
  unfold tail64; rw [List.length_drop]; omega
end Go.Proofs.YthcfolefdalaiaaDoor
