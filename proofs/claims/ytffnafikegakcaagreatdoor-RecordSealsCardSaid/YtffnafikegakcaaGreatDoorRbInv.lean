/- Two boxes and a list of texts that a call has made. -/
import Derived.Test.YtffnafikegakcaaGreatDoorRbBack
import Derived.Test.YtffnafikegakcaaGreatDoorAesP
namespace Go.Proofs.YtffnafikegakcaaGreatDoor
open Go.RowKit Go.Sort
set_option maxRecDepth 100000
set_option linter.unusedSimpArgs false
set_option linter.unusedVariables false

def svs (txs : List ByteArray) : List Value := txs.map fun t => Value.string t
theorem svs_length (txs : List ByteArray) : (svs txs).length = txs.length := List.length_map _
theorem svs_snoc (txs : List ByteArray) (t : ByteArray) : svs txs ++ [.string t] = svs (txs ++ [t]) := by simp [svs]
theorem rb_one_new (w : World) (t : TypeId) (x : Value) : ∀ j u, [x][j]? = some u → (w.alloc (.cells #[x] t)).cell? ((⟨w.heap.size, 0, none⟩ : Addr).add j) = some u := fun j u hj => by
  have h0 : j = 0 := by have := (List.getElem?_eq_some_iff.1 hj).1; simp at this; exact this
  subst h0
  simp at hj; subst hj
  rw [Addr.add_lit]
  exact rbOne_new w t x
theorem rbown_but {W W' : World} {base b : Nat} {v : Value} {xs : List Value} (h : Own W base v xs) (hb : But b W W') (hlt : b < base) : Own W' base v xs := by
  rcases h with h | ⟨g, cap, rfl, h⟩
  · exact .inl h
  · have e : g < W.heap.size → W'.heap[g]? = W.heap[g]? := fun hg => hb.block g hg (by have := h.base; omega)
    refine .inr ⟨g, cap, rfl, h.base, h.le, fun j u hj => ?_, fun j hj => ?_⟩
    · have hc := h.cells j u hj
      rw [World.cell?_of_block (a := ⟨g, j, none⟩) (e (block_lt_of_cell hc))]; exact hc
    · obtain ⟨u, hu⟩ := Option.isSome_iff_exists.1 (h.room j hj).1
      have hg := e (block_lt_of_cell hu)
      rw [World.cell?_of_block (a := ⟨g, j, none⟩) hg, World.frozen?_of_block (a := ⟨g, j, none⟩) hg]; exact h.room j hj
theorem rbown_ge {W : World} {base : Nat} {v : Value} {xs : List Value} (h : Own W base v xs) : ∀ k, v.ownBlock = some k → base ≤ k := by
  intro k hk
  rcases h with ⟨rfl, _⟩ | ⟨g, cap, rfl, hh⟩
  · simp [Value.ownBlock] at hk
  · simp [Value.ownBlock] at hk; have := hh.base; omega
/-- A text of such a list. -/
theorem own_text {W : World} {base : Nat} {ao : Option Addr} {n cap : Nat} {txs : List ByteArray} (h : Own W base (.slice ao n cap) (svs txs)) (hn : txs.length = n) (j : Nat) (hj : j < n) : ∃ g, ao = some ⟨g, 0, none⟩ ∧ W.cell? ⟨g, j, none⟩ = some (.string (txs.getD j emB)) := by
  obtain ⟨g, c, hv, ho, _⟩ := h.some (by rw [svs_length]; omega)
  injection hv with h1 h2 h3
  refine ⟨g, h1, ho.cells j _ ?_⟩
  rw [svs, List.getElem?_map, List.getElem?_eq_getElem (by omega), List.getD_eq_getElem?_getD, List.getElem?_eq_getElem (by omega)]; rfl

/-- Two boxes and a list that stand so. -/
structure BxI (w W : World) (base ba bb : Nat) (sA sB : BSt) (v : Value) (txs : List ByteArray) : Prop where
  a : BxAt W ba sA
  b : BxAt W bb sB
  own : Own W base v (svs txs)
  bel : Below w.heap.size w W
  ha : ba < base
  hb : bb < base
  ne : ba ≠ bb
  la : w.heap.size ≤ ba
  lb : w.heap.size ≤ bb
  hw : base ≤ W.heap.size
section
variable {w W W' : World} {base ba bb : Nat} {sA sB s' : BSt} {v : Value} {txs : List ByteArray}
theorem BxI.step (h : BxI w W base ba bb sA sB v txs) (hb : Below W.heap.size W W') : BxI w W' base ba bb sA sB v txs :=
  ⟨h.a.below hb, h.b.below hb, h.own.below hb, h.bel.trans (hb.mono h.bel.size), h.ha, h.hb, h.ne, h.la, h.lb, Nat.le_trans h.hw hb.size⟩
theorem BxI.butA (h : BxI w W base ba bb sA sB v txs) (hx : BxAt W' ba s') (hb : But ba W W') : BxI w W' base ba bb s' sB v txs :=
  ⟨hx, (hb.block bb (blk_lt h.b) h.ne.symm).trans h.b, rbown_but h.own hb h.ha, h.bel.trans (hb.below h.la h.bel.size), h.ha, h.hb, h.ne, h.la, h.lb, Nat.le_trans h.hw hb.size⟩
theorem BxI.butB (h : BxI w W base ba bb sA sB v txs) (hx : BxAt W' bb s') (hb : But bb W W') : BxI w W' base ba bb sA s' v txs :=
  ⟨(hb.block ba (blk_lt h.a) h.ne).trans h.a, hx, rbown_but h.own hb h.hb, h.bel.trans (hb.below h.lb h.bel.size), h.ha, h.hb, h.ne, h.la, h.lb, Nat.le_trans h.hw hb.size⟩
theorem BxI.app (h : BxI w W base ba bb sA sB v txs) {v' : Value} {t : ByteArray} (ho : Own W' base v' (svs (txs ++ [t]))) (hg : W.grownBy W' v.ownBlock) : BxI w W' base ba bb sA sB v' (txs ++ [t]) := by
  have hge := rbown_ge h.own
  have keep : ∀ k, k < base → k < W.heap.size → W'.heap[k]? = W.heap[k]? := fun k h1 h2 => hg.block k h2 (fun e => by have := hge k e.symm; omega)
  exact ⟨(keep ba h.ha (blk_lt h.a)).trans h.a, (keep bb h.hb (blk_lt h.b)).trans h.b, ho, ⟨hg.os.trans h.bel.os, hg.tape.trans h.bel.tape, hg.output.trans h.bel.output, Nat.le_trans h.bel.size hg.size, fun k hk => (keep k (by have := h.la; have := h.ha; omega) (Nat.lt_of_lt_of_le hk h.bel.size)).trans (h.bel.block k hk)⟩,
    h.ha, h.hb, h.ne, h.la, h.lb, Nat.le_trans h.hw hg.size⟩
end
end Go.Proofs.YtffnafikegakcaaGreatDoor
