/- Lists of texts and of bytes that are arguments; two readers side by side. -/
import Derived.Test.YtffnafikegakcaaRcRef
import Derived.Test.YtffnafikegakcaaRcPhase
import Derived.Test.YtffnafikegakcaaRcAwake
namespace Go.Proofs.Ytffnafikegakcaa
open Go.RowKit Go.Sort
set_option maxRecDepth 100000
set_option linter.unusedSimpArgs false
set_option linter.unusedVariables false

/-- The texts, and the bytes, of a list that lies at an address. -/
def StAt (w : World) (ao : Option Addr) (ss : List ByteArray) : Prop := ∀ j, j < ss.length → ∃ g off, ao = some ⟨g, off, none⟩ ∧ w.cell? ⟨g, off + j, none⟩ = some (.string (ss.getD j emB))
def ByAt (w : World) (ao : Option Addr) (bs : List UInt8) : Prop := ∀ j, j < bs.length → ∃ g off, ao = some ⟨g, off, none⟩ ∧ w.cell? ⟨g, off + j, none⟩ = some (.int .u8 ((bs.getD j 0).toNat : Int))
theorem cell_since {w W : World} {g o : Nat} {v : Value} (hb : Below w.heap.size w W) (h : w.cell? ⟨g, o, none⟩ = some v) : W.cell? ⟨g, o, none⟩ = some v := (hb.cell (block_lt_of_cell h)).trans h

theorem feedS_len (st : RSt) (d : ByteArray) (h : st.buf.length ≤ 1048576) : (feedS st d).buf.length ≤ 1048576 := by
  unfold feedS feedE
  by_cases h0 : st.err ≠ 0
  · rw [if_pos h0, if_neg h0]; exact h
  · rw [if_neg h0]
    by_cases h1 : 1048576 < st.buf.length + d.size
    · rw [if_pos h1, if_neg (by decide)]; exact h
    · rw [if_neg h1, if_pos rfl]
      show (st.buf ++ d.data.toList).length ≤ _
      rw [List.length_append, ← Lib.size_eq]; omega
theorem nextS_len (st : RSt) (h : st.buf.length ≤ 1048576) : (nextS st).buf.length ≤ 1048576 := by
  unfold nextS
  split
  · exact h
  split
  · show (st.buf.drop _).length ≤ _
    rw [List.length_drop]; omega
  split
  · exact h
  · show ([] : List UInt8).length ≤ _
    exact Nat.zero_le _

/-- Two readers, the program's and the reference's, that stand so. -/
structure RInv (w W : World) (b bx base : Nat) (s1 s2 : RSt) : Prop where
  rd : RdAt W b base s1
  rr : RrAt W bx s2
  l1 : s1.buf.length ≤ 1048576
  l2 : s2.buf.length ≤ 1048576
  bel : Below w.heap.size w W
  hb : b < base
  hbx : bx < base
  ne : b ≠ bx
  lo : w.heap.size ≤ b
  lox : w.heap.size ≤ bx
  ba : base ≤ W.heap.size
section
variable {w W : World} {b bx base : Nat} {s1 s2 : RSt}
theorem RInv.step (h : RInv w W b bx base s1 s2) {W' : World} (hb : Below W.heap.size W W') : RInv w W' b bx base s1 s2 :=
  ⟨h.rd.below hb, h.rr.below hb, h.l1, h.l2, h.bel.trans (hb.mono h.bel.size), h.hb, h.hbx, h.ne, h.lo, h.lox, Nat.le_trans h.ba hb.size⟩
theorem RInv.feed (h : RInv w W b bx base s1 s2) (d : ByteArray) :
    Calls Try.prog 10 #[.pointer (some ⟨b, 0, none⟩), .string d] W fun e W' => e = .returned (.int .i64 (feedE s1 d)) ∧ RInv w W' b bx base (feedS s1 d) s2 :=
  (feed_any b base s1 d W h.rd h.hb h.ba h.l1).mono fun e W' ⟨he, hr, hx⟩ => ⟨he, hr, h.rr.keep (hx.block bx h.hbx h.ne.symm), feedS_len _ _ h.l1, h.l2, h.bel.trans (hx.below h.lo (by have := h.hb; have := h.lo; omega)), h.hb, h.hbx, h.ne, h.lo, h.lox, Nat.le_trans h.ba hx.size⟩
theorem RInv.rfeed (h : RInv w W b bx base s1 s2) (d : ByteArray) (hd : d.size ≤ 1048576) :
    Calls Try.prog 11 #[.pointer (some ⟨bx, 0, none⟩), .string d] W fun e W' => e = .returned (.int .i64 (feedE s2 d)) ∧ RInv w W' b bx base s1 (feedS s2 d) :=
  (rfeed_any bx s2 d W h.rr h.l2 hd).mono fun e W' ⟨he, hr, hx⟩ => ⟨he, h.rd.keep fun k hk hl => hx.block k hl (by rcases hk with rfl | hk; exact h.ne; have := h.hbx; omega), hr, h.l1, feedS_len _ _ h.l2, h.bel.trans (hx.below h.lox h.bel.size), h.hb, h.hbx, h.ne, h.lo, h.lox, Nat.le_trans h.ba hx.size⟩
theorem RInv.next (h : RInv w W b bx base s1 s2) :
    Calls Try.prog 12 #[.pointer (some ⟨b, 0, none⟩)] W fun e W' => e = .returned (.tuple #[.int .i64 (nextK s1), .string (nextB s1), .int .i64 (nextE s1)]) ∧ RInv w W' b bx base (nextS s1) s2 :=
  (next_any b base s1 W h.rd h.hb h.ba h.l1).mono fun e W' ⟨he, hr, hx⟩ => ⟨he, hr, h.rr.keep (hx.block bx h.hbx h.ne.symm), nextS_len _ h.l1, h.l2, h.bel.trans (hx.below h.lo (by have := h.hb; have := h.lo; omega)), h.hb, h.hbx, h.ne, h.lo, h.lox, Nat.le_trans h.ba hx.size⟩
theorem RInv.rnext (h : RInv w W b bx base s1 s2) :
    Calls Try.prog 13 #[.pointer (some ⟨bx, 0, none⟩)] W fun e W' => e = .returned (.tuple #[.int .i64 (nextK s2), .string (nextB s2), .int .i64 (nextE s2)]) ∧ RInv w W' b bx base s1 (nextS s2) :=
  (rnext_any bx s2 W h.rr h.l2).mono fun e W' ⟨he, hr, hx⟩ => ⟨he, h.rd.keep fun k hk hl => hx.block k hl (by rcases hk with rfl | hk; exact h.ne; have := h.hbx; omega), hr, h.l1, nextS_len _ h.l2, h.bel.trans (hx.below h.lox h.bel.size), h.hb, h.hbx, h.ne, h.lo, h.lox, Nat.le_trans h.ba hx.size⟩
end
end Go.Proofs.Ytffnafikegakcaa
