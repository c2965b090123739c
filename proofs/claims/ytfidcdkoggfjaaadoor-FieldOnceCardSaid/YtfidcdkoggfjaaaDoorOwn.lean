/- A slice of one-cell elements that the call has made, told by its cells, and append to it: one law for nil, for room and for growth. -/
import Derived.Test.YtfidcdkoggfjaaaDoorBytes
import Derived.ArgAppend
import Derived.Lib.ConvBytes
namespace Go.Proofs.YtfidcdkoggfjaaaDoor
open Go.RowKit
set_option maxRecDepth 100000
set_option linter.unusedSimpArgs false
set_option linter.unusedVariables false

/-- v is a slice of the cells xs: nil, or in a block from base on, all of whose cells up to the capacity may be written. -/
structure OwnS (W : World) (base : Nat) (g cap : Nat) (xs : List Value) : Prop where
  base : base ≤ g
  le : xs.length ≤ cap
  cells : ∀ j u, xs[j]? = some u → W.cell? ⟨g, j, none⟩ = some u
  room : ∀ j, j < cap → (W.cell? ⟨g, j, none⟩).isSome = true ∧ W.frozen? ⟨g, j, none⟩ = false
def Own (W : World) (base : Nat) (v : Value) (xs : List Value) : Prop :=
  (v = .slice none 0 0 ∧ xs = []) ∨ ∃ g cap, v = .slice (some ⟨g, 0, none⟩) xs.length cap ∧ OwnS W base g cap xs
theorem Own.nil (W : World) (base : Nat) : Own W base (.slice none 0 0) [] := .inl ⟨rfl, rfl⟩
theorem OwnS.keep {W W' : World} {base g cap : Nat} {xs : List Value} (h : OwnS W base g cap xs) (e : W'.heap[g]? = W.heap[g]?) : OwnS W' base g cap xs :=
  ⟨h.base, h.le, fun j u hj => (World.cell?_of_block (a := ⟨g, j, none⟩) e).trans (h.cells j u hj), fun j hj => by
    rw [World.cell?_of_block (a := ⟨g, j, none⟩) e, World.frozen?_of_block (a := ⟨g, j, none⟩) e]; exact h.room j hj⟩
theorem OwnS.lt {W : World} {base g cap : Nat} {xs : List Value} (h : OwnS W base g cap xs) (hp : 0 < cap) : g < W.heap.size := by
  obtain ⟨u, hu⟩ := Option.isSome_iff_exists.1 (h.room 0 hp).1
  exact block_lt_of_cell hu
theorem Own.keep {W W' : World} {base : Nat} {v : Value} {xs : List Value} (h : Own W base v xs) (e : ∀ k, v.ownBlock = some k → W'.heap[k]? = W.heap[k]?) : Own W' base v xs := by
  rcases h with h | ⟨g, cap, rfl, h⟩
  · exact .inl h
  · exact .inr ⟨g, cap, rfl, h.keep (e g rfl)⟩
theorem Own.below {W W' : World} {base : Nat} {v : Value} {xs : List Value} (h : Own W base v xs) (hb : Below W.heap.size W W') : Own W' base v xs := by
  rcases h with h | ⟨g, cap, rfl, h⟩
  · exact .inl h
  · refine .inr ⟨g, cap, rfl, h.base, h.le, fun j u hj => ?_, fun j hj => ?_⟩
    · have := h.cells j u hj
      exact (hb.cell (block_lt_of_cell this)).trans this
    · obtain ⟨u, hu⟩ := Option.isSome_iff_exists.1 (h.room j hj).1
      have hlt := block_lt_of_cell hu
      rw [hb.cell (p := ⟨g, j, none⟩) hlt, hb.frozen (p := ⟨g, j, none⟩) hlt]
      exact h.room j hj
theorem Own.alloc {W : World} {base : Nat} {v : Value} {xs : List Value} (h : Own W base v xs) (o : Obj) : Own (W.alloc o) base v xs := h.below (below_new W o)
/-- A slice with an element is not nil. -/
theorem Own.some {W : World} {base : Nat} {v : Value} {xs : List Value} (h : Own W base v xs) (hp : 0 < xs.length) : ∃ g cap, v = .slice (.some ⟨g, 0, none⟩) xs.length cap ∧ OwnS W base g cap xs ∧ g < W.heap.size := by
  rcases h with ⟨_, rfl⟩ | ⟨g, cap, rfl, h⟩
  · simp at hp
  · exact ⟨g, cap, rfl, h, h.lt (Nat.lt_of_lt_of_le hp h.le)⟩
theorem grown_any {w w' : World} (h : w.grownBy w' none) (row : Option Nat) : w.grownBy w' row := ⟨h.os, h.tape, h.output, h.size, fun k hk _ => h.block k hk (by simp)⟩
theorem own_of_row {W : World} {base : Nat} {e : TypeId} {v : Value} {n : Nat} {xs : List Value} (h : W.ownsRow base e 1 v n xs) : Own W base v xs ∧ xs.length = n := by
  obtain ⟨hl, ⟨rfl, rfl⟩ | ⟨g, cap, cur, rfl, hb, hg, h1, h2, h3, h4⟩⟩ := h
  · exact ⟨.inl ⟨rfl, List.eq_nil_of_length_eq_zero (by simpa using hl)⟩, by simpa using hl⟩
  · have hx : xs.length = n := by simpa using hl
    refine ⟨.inr ⟨g, cap, by rw [hx], hb, by omega, fun j u hj => ?_, fun j hj => ?_⟩, hx⟩
    · rw [cell_of_row W g j cur e _ hg]
      rw [← h4] at hj
      rw [List.getElem?_take] at hj
      split at hj
      · simpa using hj
      · cases hj
    · rw [cell_of_row W g j cur e _ hg]
      refine ⟨?_, frozen_of_row W g j cur e hg⟩
      have : j < cur.size := by omega
      simp [this]

theorem Own.shape {W : World} {base : Nat} {v : Value} {xs : List Value} (h : Own W base v xs) : ∃ ao cap, v = .slice ao xs.length cap := by
  rcases h with ⟨rfl, rfl⟩ | ⟨g, cap, rfl, _⟩
  · exact ⟨none, 0, rfl⟩
  · exact ⟨_, cap, rfl⟩
theorem grown_trans {u v w : World} {row : Option Nat} (h : u.grownBy v row) (k : v.grownBy w row) : u.grownBy w row :=
  ⟨k.os.trans h.os, k.tape.trans h.tape, k.output.trans h.output, Nat.le_trans h.size k.size, fun i hi hne => (k.block i (Nat.lt_of_lt_of_le hi h.size) hne).trans (h.block i hi hne)⟩
theorem grown_setCells (g : Nat) : ∀ (vs : List Value) (o : Nat) (w : World), w.grownBy (w.setCells g o vs) (Option.some g)
  | [], _, w => World.grownBy.refl w _
  | v :: r, o, w => by
    have h : w.grownBy (w.setCell ⟨g, o, none⟩ v) (Option.some g) := ⟨rfl, rfl, rfl, by simp [World.setCell], fun k _ hne => heap_setCell_other w ⟨g, o, none⟩ k v (fun e => hne (congrArg Option.some e))⟩
    exact grown_trans h (grown_setCells g r (o + 1) (w.setCell ⟨g, o, none⟩ v))

/-- 'append' to such a slice. -/
theorem wpList_append_Own {w : World} {ops : Array Oper} {rest : List Oper} {o : Oper} {a : Act} {Q : Exit → Act → World → Prop} (hg : o.guard = none) (s x : Operand) (t : TypeId)
    (hop : o.op = Op.call { callee := Callee.builtin Builtin.append, args := #[s, x], argTypes := #[t, t] })
    (base : Nat) (e : TypeId) (i : TypeInfo) (z : Value) (bytes : Nat) (h1 : Tryd.prog.underlying t = Option.some (.slice e)) (h2 : Tryd.prog.info? e = Option.some i) (h3 : i.zero = Option.some z) (h4 : i.size = 1) (h5 : i.bytes = bytes) (h6 : z.cells.size = 1)
    (v : Value) (xs : List Value) (hs : a.eval s = v) (hown : Own w base v xs)
    (ad : Addr) (m c : Nat) (news : List Value) (hx : a.eval x = .slice (Option.some ad) m c) (hn : news.length = m) (hc : ∀ j u, news[j]? = Option.some u → w.cell? (ad.add j) = Option.some u) (h1c : ∀ u ∈ news, u.oneCell' = true)
    (b1 : xs.length + m ≤ maxLen) (b2 : (xs.length + m) * bytes ≤ 140737488355328) (hbase : base ≤ w.heap.size)
    (hK : ∀ v' w', Own w' base v' (xs ++ news) → w.grownBy w' v.ownBlock → wpList Tryd.prog ops Q rest (a.put o.dst v') w') :
    wpList Tryd.prog ops Q (o :: rest) a w := by
  rcases hown with ⟨rfl, rfl⟩ | ⟨g, cap, rfl, hown⟩
  · refine wpList_append_own w hg s x t hop base e i z 1 bytes h1 h2 h3 h4 h5 h6 (by omega) (.slice none 0 0) 0 [] hs (World.ownsRow_nil _ _ _ _) ad m c news hx (by omega) hc h1c (by simpa using b1) (by simpa using b2) hbase ?_
    intro v' w' hown' hgrow _
    exact hK v' w' (own_of_row hown').1 hgrow
  · refine wpList_append_arg w hg s x t hop e i z 1 bytes h1 h2 h3 h4 h5 h6 (by omega) g 0 xs.length cap xs hs (by omega) (fun j u hj => by simpa using hown.cells j u hj) ad m c news hx (by omega) hc h1c ?_ b1 b2 ?_ ?_
    · intro hr j hj
      have := hown.room (xs.length + j) (by omega)
      simpa using this
    · intro hr
      refine hK _ _ (.inr ⟨g, cap, by rw [List.length_append, hn], hown.base, by rw [List.length_append]; omega, fun j u hj => ?_, fun j hj => ?_⟩) ?_
      · simp only [Nat.zero_add, Nat.mul_one]
        by_cases hlt : j < xs.length
        · rw [World.cell?_setCells_out _ _ _ _ _ (fun _ _ => Or.inl hlt)]
          rw [List.getElem?_append_left hlt] at hj
          exact hown.cells j u hj
        · rw [List.getElem?_append_right (by omega)] at hj
          have hj' : j - xs.length < news.length := (List.getElem?_eq_some_iff.1 hj).1
          have := World.cell?_setCells_in g news xs.length w (fun q hq => (hown.room (xs.length + q) (by omega)).1) (j - xs.length) hj'
          rw [show xs.length + (j - xs.length) = j by omega] at this
          rw [this]
          have := (List.getElem?_eq_some_iff.1 hj).2
          rw [this]
      · simp only [Nat.zero_add, Nat.mul_one]
        refine ⟨?_, by rw [World.frozen?_setCells]; exact (hown.room j hj).2⟩
        by_cases hin : xs.length ≤ j ∧ j < xs.length + news.length
        · have := World.cell?_setCells_in g news xs.length w (fun q hq => (hown.room (xs.length + q) (by omega)).1) (j - xs.length) (by omega)
          rw [show xs.length + (j - xs.length) = j by omega] at this
          rw [this]; rfl
        · rw [World.cell?_setCells_out _ _ _ _ _ (fun _ _ => by simp; omega)]
          exact (hown.room j hj).1
      · exact grown_setCells g news _ w
    · intro hr v' w' hown' hgrow
      refine hK v' w' ?_ (grown_any hgrow _)
      have := own_of_row hown'
      rcases this.1 with h | ⟨g', cap', hv, hh⟩
      · exact .inl h
      · exact .inr ⟨g', cap', hv, Nat.le_trans hbase hh.base, hh.le, hh.cells, hh.room⟩

/-- The same, the slice's shape written out. -/
theorem wpList_append_sl {w : World} {ops : Array Oper} {rest : List Oper} {o : Oper} {a : Act} {Q : Exit → Act → World → Prop} (hg : o.guard = none) (s x : Operand) (t : TypeId)
    (hop : o.op = Op.call { callee := Callee.builtin Builtin.append, args := #[s, x], argTypes := #[t, t] })
    (base : Nat) (e : TypeId) (i : TypeInfo) (z : Value) (bytes : Nat) (h1 : Tryd.prog.underlying t = Option.some (.slice e)) (h2 : Tryd.prog.info? e = Option.some i) (h3 : i.zero = Option.some z) (h4 : i.size = 1) (h5 : i.bytes = bytes) (h6 : z.cells.size = 1)
    (ao : Option Addr) (n cap : Nat) (xs : List Value) (hs : a.eval s = .slice ao n cap) (hown : Own w base (.slice ao n cap) xs) (hlen : xs.length = n)
    (ad : Addr) (m c : Nat) (news : List Value) (hx : a.eval x = .slice (Option.some ad) m c) (hn : news.length = m) (hc : ∀ j u, news[j]? = Option.some u → w.cell? (ad.add j) = Option.some u) (h1c : ∀ u ∈ news, u.oneCell' = true)
    (b2 : (n + m) * bytes ≤ 140737488355328) (b1 : n + m ≤ 140737488355328) (hbase : base ≤ w.heap.size)
    (hK : ∀ ao' cap' w', Own w' base (.slice ao' (n + m) cap') (xs ++ news) → w.grownBy w' (Value.ownBlock (.slice ao n cap)) → wpList Tryd.prog ops Q rest (a.put o.dst (.slice ao' (n + m) cap')) w') :
    wpList Tryd.prog ops Q (o :: rest) a w := by
  subst hlen
  refine wpList_append_Own hg s x t hop base e i z bytes h1 h2 h3 h4 h5 h6 _ xs hs hown ad m c news hx hn hc h1c (by unfold maxLen; omega) b2 hbase ?_
  intro v' w' hown' hgrow
  obtain ⟨ao', cap', hv⟩ := hown'.shape
  rw [List.length_append, hn] at hv
  subst hv
  exact hK ao' cap' w' hown' hgrow
/-- What an append to a slice of the call's own leaves of older memory. -/
theorem below_append {B : Nat} {u w w' : World} {ao : Option Addr} {n cap : Nat} {xs : List Value} (hb : Below B u w) (hB : B ≤ w.heap.size) (hown : Own w B (.slice ao n cap) xs) (hg : w.grownBy w' (Value.ownBlock (.slice ao n cap))) : Below B u w' :=
  hb.grown hg hB fun k hk => by
    rcases hown with ⟨h, _⟩ | ⟨g, c, h, hh⟩
    · cases h; simp [Value.ownBlock] at hk
    · cases h; simp [Value.ownBlock] at hk; have := hh.base; omega
/-- The conversion of a string to bytes: a slice of its own. -/
theorem run_convert_string_bytes_own (s : ByteArray) (w : World) : ∃ ao cap, (convert 9 50 (.string s)).run Tryd.prog w = .ok (.slice ao s.size cap) (Lib.bytesWorld w 5 s) ∧ Own (Lib.bytesWorld w 5 s) w.heap.size (.slice ao s.size cap) (Lib.byteCells s.data.toList) ∧ Below w.heap.size w (Lib.bytesWorld w 5 s) := by
  have hl : (Lib.byteCells s.data.toList).length = s.size := by rw [Lib.byteCells_length, ← Lib.size_eq]
  have hge := grownCap_ge w s.size 0 5
  have hsz : (Lib.bytesCells w 5 s).size = grownCap w s.size 0 5 := by
    simp only [Lib.bytesCells, Array.size_append, Array.size_map, Array.size_replicate]
    have : s.data.size = s.size := rfl
    omega
  have hnew := Lib.bytesWorld_at_new w 5 s
  refine ⟨_, _, Lib.run_convert_string_bytes w 9 50 5 s Tryd.underlying9 Tryd.underlying50 Tryd.underlying5, .inr ⟨w.heap.size, grownCap w s.size 0 5, by rw [hl], Nat.le_refl _, by omega, ?_, ?_⟩, ?_⟩
  · intro j u hj
    have hlt : j < s.size := by rw [← hl]; exact (List.getElem?_eq_some_iff.1 hj).1
    rw [Lib.bytesWorld_cell w 5 s j hlt]
    have hlt' : j < s.data.toList.length := by rw [← Lib.size_eq]; exact hlt
    simp only [Lib.byteCells, List.getElem?_map, List.getElem?_eq_getElem hlt', Option.map_some] at hj
    rw [List.getD_eq_getElem?_getD, List.getElem?_eq_getElem hlt']
    exact hj
  · intro j hj
    constructor
    · rw [cell_of_row _ _ _ _ _ _ hnew]
      have : j < (Lib.bytesCells w 5 s).size := by omega
      simp [this]
    · have : j < (Lib.bytesCells w 5 s).size := by omega
      simp [World.frozen?, hnew]
      omega
  · exact ⟨rfl, rfl, rfl, by rw [Lib.bytesWorld_size]; omega, fun k hk => Lib.bytesWorld_at_old w 5 s k hk⟩
/-- One cell of such a slice written. -/
theorem OwnS.put {W : World} {base g cap : Nat} {xs : List Value} (h : OwnS W base g cap xs) (j : Nat) (hj : j < xs.length) (v : Value) : OwnS (W.setCell ⟨g, j, none⟩ v) base g cap (xs.set j v) := by
  refine ⟨h.base, by rw [List.length_set]; exact h.le, fun i u hu => ?_, fun i hi => ?_⟩
  · by_cases hij : i = j
    · subst hij
      rw [List.getElem?_set_self hj] at hu
      cases hu
      exact World.cell?_setCell_same _ _ _ (h.cells i _ (List.getElem?_eq_getElem hj))
    · rw [List.getElem?_set_ne (fun e => hij e.symm)] at hu
      rw [World.cell?_setCell_other _ _ _ _ (by simp [hij])]
      exact h.cells i u hu
  · obtain ⟨h1, h2⟩ := h.room i hi
    refine ⟨?_, by rw [World.frozen?_setCell]; exact h2⟩
    by_cases hij : i = j
    · subst hij
      obtain ⟨u, hu⟩ := Option.isSome_iff_exists.1 h1
      rw [World.cell?_setCell_same _ _ _ hu]; rfl
    · rw [World.cell?_setCell_other _ _ _ _ (by simp [hij])]; exact h1
end Go.Proofs.YtfidcdkoggfjaaaDoor
