/- A running digest of words of 64 bits in memory: its ten cells in the midst of a block; what it is to change one block alone. -/
import Derived.Test.YthcfolefdalaiaaDoorComp64
import Derived.Test.YthcfolefdalaiaaDoorRun32
namespace Go.Proofs.YthcfolefdalaiaaDoor
open Go.RowKit Go.Sort
set_option maxRecDepth 100000
set_option linter.unusedSimpArgs false
set_option linter.unusedVariables false

/-- The cells of a block in whose midst a running digest lies. -/
def rc64 (pre post : List Value) (st : W8) (rest : ByteArray) (len : Int) : Array Value :=
  (pre ++ (Value.int .u64 st.a :: Value.int .u64 st.b :: Value.int .u64 st.c :: Value.int .u64 st.d :: Value.int .u64 st.e :: Value.int .u64 st.f :: Value.int .u64 st.g :: Value.int .u64 st.h :: Value.string rest :: Value.int .u64 len :: post)).toArray

theorem rc64_state (pre post : List Value) (st : W8) (rest : ByteArray) (len : Int) (j : Nat) (hj : j < 8) : (rc64 pre post st rest len)[pre.length + j]? = some (.int .u64 (st.at j)) := by
  rcases lt8 hj with rfl | rfl | rfl | rfl | rfl | rfl | rfl | rfl <;> simp [rc64, W8.at]
theorem rc64_rest (pre post : List Value) (st : W8) (rest : ByteArray) (len : Int) : (rc64 pre post st rest len)[pre.length + 8]? = some (.string rest) := by
  simp [rc64]
theorem rc64_len (pre post : List Value) (st : W8) (rest : ByteArray) (len : Int) : (rc64 pre post st rest len)[pre.length + 9]? = some (.int .u64 len) := by
  simp [rc64]
theorem rc64_setLen (pre post : List Value) (st : W8) (rest : ByteArray) (len x : Int) : (rc64 pre post st rest len).setIfInBounds (pre.length + 9) (.int .u64 x) = rc64 pre post st rest x := by
  simp [rc64, List.set_append]
theorem rc64_setRest (pre post : List Value) (st : W8) (rest x : ByteArray) (len : Int) : (rc64 pre post st rest len).setIfInBounds (pre.length + 8) (.string x) = rc64 pre post st x len := by
  simp [rc64, List.set_append]
theorem rc64_setState {w : World} {b : Nat} {ty : TypeId} (pre post : List Value) (st st' : W8) (rest : ByteArray) (len : Int) (h : w.heap[b]? = some (.cells (rc64 pre post st rest len) ty)) :
    (w.setCells b pre.length st'.cells64.toList).heap[b]? = some (.cells (rc64 pre post st' rest len) ty) := by
  rw [show st'.cells64.toList = [.int .u64 st'.a, .int .u64 st'.b, .int .u64 st'.c, .int .u64 st'.d, .int .u64 st'.e, .int .u64 st'.f, .int .u64 st'.g, .int .u64 st'.h] from rfl]
  simp only [World.setCells]
  have h0 := heap_setCell_same w b pre.length _ ty (.int .u64 st'.a) h
  have h1 := heap_setCell_same _ b (pre.length + 1) _ ty (.int .u64 st'.b) h0
  have h2 := heap_setCell_same _ b (pre.length + 1 + 1) _ ty (.int .u64 st'.c) h1
  have h3 := heap_setCell_same _ b (pre.length + 1 + 1 + 1) _ ty (.int .u64 st'.d) h2
  have h4 := heap_setCell_same _ b (pre.length + 1 + 1 + 1 + 1) _ ty (.int .u64 st'.e) h3
  have h5 := heap_setCell_same _ b (pre.length + 1 + 1 + 1 + 1 + 1) _ ty (.int .u64 st'.f) h4
  have h6 := heap_setCell_same _ b (pre.length + 1 + 1 + 1 + 1 + 1 + 1) _ ty (.int .u64 st'.g) h5
  have h7 := heap_setCell_same _ b (pre.length + 1 + 1 + 1 + 1 + 1 + 1 + 1) _ ty (.int .u64 st'.h) h6
  rw [h7]
  simp [rc64, List.set_append, Nat.add_assoc]

/-- The blocks of a text, one behind the other. -/
def fold64 (K : Nat → Int) (st : W8) (l : List UInt8) : Nat → W8
  | 0 => st
  | n + 1 => comp64 K (fold64 K st l n) ((l.drop (128 * n)).take 128)
theorem fold64_succ (K : Nat → Int) (st : W8) (l : List UInt8) (n : Nat) : fold64 K st l (n + 1) = fold64 K (comp64 K st (l.take 128)) (l.drop 128) n := by
  induction n with
  | zero => simp [fold64]
  | succ n ih =>
    rw [fold64, ih, fold64, List.drop_drop, show 128 + 128 * n = 128 * (n + 1) by omega]
/-- What is left of a text behind its whole blocks. -/
def tail128 (l : List UInt8) : List UInt8 := l.drop (128 * (l.length / 128))
def full64 (K : Nat → Int) (st : W8) (l : List UInt8) : W8 := fold64 K st l (l.length / 128)
theorem full64_short (K : Nat → Int) (st : W8) (l : List UInt8) (h : l.length < 128) : full64 K st l = st ∧ tail128 l = l := by
  have : l.length / 128 = 0 := by omega
  simp [full64, tail128, this, fold64]
theorem full64_long (K : Nat → Int) (st : W8) (l : List UInt8) (h : 128 ≤ l.length) : full64 K st l = full64 K (comp64 K st (l.take 128)) (l.drop 128) ∧ tail128 l = tail128 (l.drop 128) := by
  have e : l.length / 128 = (l.length - 128) / 128 + 1 := by omega
  constructor
  · unfold full64
    rw [e, fold64_succ, List.length_drop]
  · unfold tail128
    rw [List.drop_drop, List.length_drop]
    congr 1
    omega
theorem tail128_length (l : List UInt8) : (tail128 l).length < 128 := by
  unfold tail128; rw [List.length_drop]; omega
end Go.Proofs.YthcfolefdalaiaaDoor
