/- A reader's buffer: a slice of bytes that begins anywhere in a row of its own; a string appended to it; what lies below a bound, but for one block. -/
import Derived.Test.YtffnafikegakcaaGreatDoorRcA
import Derived.Lib.AppendStr
namespace Go.Proofs.YtffnafikegakcaaGreatDoor
open Go.RowKit Go.Sort
set_option maxRecDepth 100000
set_option linter.unusedSimpArgs false
set_option linter.unusedVariables false

theorem bufMany_size : ∀ (vs : List Value) (cur : Array Value) (p : Nat), (setMany cur p vs).size = cur.size
  | [], _, _ => rfl
  | v :: r, cur, p => by rw [setMany, bufMany_size r]; simp
theorem bufMany_out : ∀ (vs : List Value) (cur : Array Value) (p i : Nat), (i < p ∨ p + vs.length ≤ i) → (setMany cur p vs)[i]? = cur[i]?
  | [], _, _, _, _ => rfl
  | v :: r, cur, p, i, h => by
    rw [setMany, bufMany_out r _ (p + 1) i (by simp at h; omega), Array.getElem?_setIfInBounds_ne (by simp at h; omega)]
theorem bufMany_in : ∀ (vs : List Value) (cur : Array Value) (p j : Nat), p + vs.length ≤ cur.size → j < vs.length → (setMany cur p vs)[p + j]? = vs[j]?
  | [], _, _, _, _, h => by simp at h
  | v :: r, cur, p, 0, h, _ => by
    rw [setMany, bufMany_out r _ (p + 1) (p + 0) (by omega), Nat.add_zero, Array.getElem?_setIfInBounds_self_of_lt (by simp at h; omega)]; rfl
  | v :: r, cur, p, j + 1, h, hj => by
    rw [setMany, show p + (j + 1) = (p + 1) + j by omega, bufMany_in r _ (p + 1) j (by simp at h ⊢; omega) (by simpa using hj)]; simp

/-- v is a slice of the bytes l, in a row from base on. -/
def Buf (W : World) (base : Nat) (v : Value) (l : List UInt8) : Prop :=
  (v = .slice none 0 0 ∧ l = []) ∨ ∃ g off cap cur, v = .slice (some ⟨g, off, none⟩) l.length cap ∧ base ≤ g ∧ W.heap[g]? = some (.cells cur 5 (0, 0)) ∧ off + cap ≤ cur.size ∧ l.length ≤ cap ∧ cap ≤ maxLen ∧
    ∀ j x, l[j]? = some x → cur[off + j]? = some (.int .u8 (x.toNat : Int))
theorem Buf.keep {W W' : World} {base : Nat} {v : Value} {l : List UInt8} (h : Buf W base v l) (e : ∀ k, base ≤ k → k < W.heap.size → W'.heap[k]? = W.heap[k]?) : Buf W' base v l := by
  rcases h with h | ⟨g, off, cap, cur, hv, hb, hg, h1, h2, h3, h4⟩
  · exact .inl h
  · exact .inr ⟨g, off, cap, cur, hv, hb, (e g hb (blk_lt hg)).trans hg, h1, h2, h3, h4⟩
theorem Buf.below {W W' : World} {base : Nat} {v : Value} {l : List UInt8} (h : Buf W base v l) (hb : Below W.heap.size W W') : Buf W' base v l := h.keep fun k _ hk => hb.block k hk
theorem Buf.shape {W : World} {base : Nat} {v : Value} {l : List UInt8} (h : Buf W base v l) : ∃ ao cap, v = .slice ao l.length cap ∧ l.length ≤ cap := by
  rcases h with ⟨rfl, rfl⟩ | ⟨g, off, cap, cur, rfl, _, _, _, h2, _⟩
  · exact ⟨none, 0, rfl, Nat.le_refl _⟩
  · exact ⟨_, cap, rfl, h2⟩
theorem buf_of_row {W : World} {base : Nat} {v : Value} {n : Nat} {l : List UInt8} (h : W.ownsRow base 5 1 v n (Lib.byteCells l)) : Buf W base v l := by
  obtain ⟨hl, ⟨rfl, rfl⟩ | ⟨g, cap, cur, rfl, hb, hg, h1, h2, h3, h4⟩⟩ := h
  · refine .inl ⟨rfl, List.eq_nil_of_length_eq_zero ?_⟩
    rw [Lib.byteCells_length] at hl; omega
  · have hx : l.length = n := by rw [Lib.byteCells_length] at hl; omega
    subst hx
    refine .inr ⟨g, 0, cap, cur, rfl, hb, hg, by omega, h1, h2, fun j x hj => ?_⟩
    have hjl : j < l.length := (List.getElem?_eq_some_iff.1 hj).1
    have e : (Lib.byteCells l)[j]? = some (.int .u8 (x.toNat : Int)) := by simp [Lib.byteCells, hj]
    rw [← h4, List.getElem?_take, if_pos (by omega)] at e
    rw [Nat.zero_add]
    simpa using e
theorem run_append_window (W : World) (ty : TypeId) (g off n cap : Nat) (cur : Array Value) (s : ByteArray) (hg : W.heap[g]? = some (.cells cur 5 (0, 0))) (hroom : n + s.size ≤ cap) (hfit : off + cap ≤ cur.size) :
    (Builtin.append_ #[46, 9] ty #[.slice (some ⟨g, off, none⟩) n cap, .string s]).run Tryz.prog W = .ok (.slice (some ⟨g, off, none⟩) (n + s.size) cap) (W.setRow g (setMany cur (off + n) (Lib.strCells s))) := by
  obtain ⟨i0, hi, hz0, hz1, hz2⟩ := info_parts info_u8
  have hf := Lib.run_firstCells_string (P := Tryz.prog) W 1 s
  have hst := run_storeCells_at g (off + n) 5 (Lib.strCells s) 0 cur W hg (by rw [Lib.strCells_length]; omega) (Lib.strCells_oneCell s)
  simp only [Nat.add_zero] at hst
  simp [Builtin.append_, run_underlying Tryz.underlying46, run_underlying Tryz.underlying9, sizeOf, typeInfo, hi, hz1, Builtin.lenOf, hroom, hf, Addr.add_lit, hst]
theorem strCells_eq (s : ByteArray) : Lib.strCells s = Lib.byteCells s.data.toList := rfl
/-- A string appended to a buffer. -/
theorem run_append_buf (W : World) (ty : TypeId) (base : Nat) (v : Value) (l : List UInt8) (s : ByteArray) (hB : Buf W base v l) (hn : l.length + s.size ≤ 1048576) (hbase : base ≤ W.heap.size) :
    ∃ ao cap W', (Builtin.append_ #[46, 9] ty #[v, .string s]).run Tryz.prog W = .ok (.slice ao (l.length + s.size) cap) W' ∧ Buf W' base (.slice ao (l.length + s.size) cap) (l ++ s.data.toList) ∧ W.grownBy W' v.ownBlock := by
  obtain ⟨i0, hi, hz0, hz1, hz2⟩ := info_parts info_u8
  rcases hB with ⟨rfl, rfl⟩ | ⟨g, off, cap, cur, rfl, hbg, hg, hfit, hlc, hcm, hc⟩
  · obtain ⟨v', W', h1, h2, h3, h4⟩ := Lib.run_append_own_string (P := Tryz.prog) W base 46 9 ty 5 i0 Tryz.underlying46 Tryz.underlying9 hi hz0 hz1 hz2 (.slice none 0 0) 0 [] (World.ownsRow_nil W base _ 1) s (by unfold maxLen; simp at hn; omega) (by simp at hn; omega) hbase
    rw [strCells_eq, List.nil_append] at h2
    have hb := buf_of_row h2
    obtain ⟨ao, cap, hv, _⟩ := hb.shape
    rw [← Lib.size_eq] at hv
    subst hv
    exact ⟨ao, cap, W', by simpa using h1, by simpa using hb, h3⟩
  · by_cases hroom : l.length + s.size ≤ cap
    · refine ⟨_, cap, _, run_append_window W ty g off l.length cap cur s hg hroom hfit, .inr ⟨g, off, cap, _, by rw [List.length_append, ← Lib.size_eq], hbg, setRow_heap W g cur _ 5 _ hg, by rw [bufMany_size]; exact hfit, by rw [List.length_append, ← Lib.size_eq]; exact hroom, hcm, fun j x hj => ?_⟩,
        ⟨rfl, rfl, rfl, by simp, fun k _ hk => setRow_other W g k _ (fun e => hk (by simp [Value.ownBlock, e]))⟩⟩
      by_cases hlt : j < l.length
      · rw [List.getElem?_append_left hlt] at hj
        rw [bufMany_out _ _ _ _ (by omega)]
        exact hc j x hj
      · rw [List.getElem?_append_right (by omega)] at hj
        have hjs : j - l.length < s.data.toList.length := (List.getElem?_eq_some_iff.1 hj).1
        rw [← Lib.size_eq] at hjs
        rw [show off + j = off + l.length + (j - l.length) by omega, bufMany_in _ _ _ _ (by rw [Lib.strCells_length]; omega) (by rw [Lib.strCells_length]; exact hjs)]
        simp [Lib.strCells, hj]
    · obtain ⟨olds, ho⟩ : ∃ olds : List Value, olds = Lib.byteCells l := ⟨_, rfl⟩
      have hol : olds.length = l.length := by rw [ho, Lib.byteCells_length]
      have holds : ∀ j u, olds[j]? = some u → W.cell? ((⟨g, off, none⟩ : Addr).add j) = some u := fun j u hj => by
        have hjl : j < l.length := by rw [← hol]; exact (List.getElem?_eq_some_iff.1 hj).1
        rw [Addr.add_lit, cell_of_row W g (off + j) cur 5 (0, 0) hg, hc j l[j] (List.getElem?_eq_getElem hjl)]
        rw [ho] at hj
        simpa [Lib.byteCells, hjl] using hj
      have hr := Lib.run_append_grow_string (P := Tryz.prog) W 46 9 ty 5 i0 (.int .u8 0) Tryz.underlying46 Tryz.underlying9 hi hz0 ⟨g, off, none⟩ l.length cap olds (by rw [hz1, hol, Nat.mul_one]) holds s (by omega) (by omega) (by rw [hz2]; exact growslice_fits (by omega) (by omega))
      have hge := grownCap_ge W (l.length + s.size) cap 5
      have hcm2 : grownCap W (l.length + s.size) cap 5 ≤ maxLen := grownCap_le_maxLen W (l.length + s.size) cap 5 (by unfold maxLen; omega)
      refine ⟨_, _, _, hr, .inr ⟨W.heap.size, 0, _, _, by rw [List.length_append, ← Lib.size_eq], hbase, heap_alloc_new W.drew _, ?_, by rw [List.length_append, ← Lib.size_eq]; exact hge, hcm2, fun j x hj => ?_⟩, ⟨rfl, rfl, rfl, by simp, fun k hk _ => heap_alloc_old W.drew _ hk⟩⟩
      · have hz1 : (Value.int IntKind.u8 0).cells.size = 1 := rfl
        simp only [Array.size_append, List.size_toArray, size_zeroCells, hz1, hol, Lib.strCells_length]
        omega
      · have e : (Lib.byteCells (l ++ s.data.toList))[j]? = some (.int .u8 (x.toNat : Int)) := by simp only [Lib.byteCells, List.getElem?_map, hj]; rfl
        have hjl : j < olds.length + (Lib.strCells s).length := by
          have := (List.getElem?_eq_some_iff.1 hj).1
          rw [List.length_append, ← Lib.size_eq] at this
          rw [hol, Lib.strCells_length]; exact this
        rw [Nat.zero_add, Array.getElem?_append_left (by simp only [Array.size_append, List.size_toArray]; exact hjl), ho, strCells_eq]
        rw [← e, Lib.byteCells, Lib.byteCells, Lib.byteCells, List.map_append]
        simp

/-- Below a bound nothing has changed, but for one block. -/
structure ButB (base b : Nat) (w w' : World) : Prop where
  os : w'.os = w.os
  tape : w'.tape = w.tape
  output : w'.output = w.output
  size : w.heap.size ≤ w'.heap.size
  block : ∀ k, k < base → k ≠ b → w'.heap[k]? = w.heap[k]?
theorem ButB.refl (base b : Nat) (w : World) : ButB base b w w := ⟨rfl, rfl, rfl, Nat.le_refl _, fun _ _ _ => rfl⟩
theorem ButB.trans {base b : Nat} {u v w : World} (h : ButB base b u v) (k : ButB base b v w) : ButB base b u w :=
  ⟨k.os.trans h.os, k.tape.trans h.tape, k.output.trans h.output, Nat.le_trans h.size k.size, fun i h1 h2 => (k.block i h1 h2).trans (h.block i h1 h2)⟩
theorem ButB.of_below {base b : Nat} {w w' : World} (h : Below w.heap.size w w') (hB : base ≤ w.heap.size) : ButB base b w w' := ⟨h.os, h.tape, h.output, h.size, fun k hk _ => h.block k (Nat.lt_of_lt_of_le hk hB)⟩
theorem ButB.setCell {base b : Nat} {u w : World} (h : ButB base b u w) (j : Nat) (v : Value) : ButB base b u (w.setCell ⟨b, j, none⟩ v) :=
  h.trans ⟨rfl, rfl, rfl, by simp [World.setCell], fun k _ hk => heap_setCell_other _ _ _ _ hk⟩
theorem ButB.grown {base b : Nat} {u w w' : World} {row : Option Nat} (h : ButB base b u w) (hg : w.grownBy w' row) (hB : base ≤ w.heap.size) (hr : ∀ k, row = some k → base ≤ k) : ButB base b u w' :=
  h.trans ⟨hg.os, hg.tape, hg.output, hg.size, fun k hk _ => hg.block k (Nat.lt_of_lt_of_le hk hB) (fun e => by have := hr k e.symm; omega)⟩
theorem ButB.below {base b B : Nat} {w w' : World} (h : ButB base b w w') (hb : B ≤ b) (hB : B ≤ base) : Below B w w' :=
  ⟨h.os, h.tape, h.output, h.size, fun k hk => h.block k (by omega) (by omega)⟩
theorem Buf.own_ge {W : World} {base : Nat} {v : Value} {l : List UInt8} (h : Buf W base v l) : ∀ k, v.ownBlock = some k → base ≤ k := by
  intro k hk
  rcases h with ⟨rfl, _⟩ | ⟨g, off, cap, cur, rfl, hb, _⟩
  · simp [Value.ownBlock] at hk
  · simp [Value.ownBlock] at hk; omega
end Go.Proofs.YtffnafikegakcaaGreatDoor
