/- Append to a slice of the call's own, with what is known of the new slice's block: the old one's, or one behind all others. -/
import Derived.Test.YtoejkiblampecaaDoorOwn
namespace Go.Proofs.YtoejkiblampecaaDoor
open Go.RowKit
set_option maxRecDepth 100000
set_option linter.unusedSimpArgs false
set_option linter.unusedVariables false

/-- 'append' to such a slice. -/
theorem wpList_append_OwnF {w : World} {ops : Array Oper} {rest : List Oper} {o : Oper} {a : Act} {Q : Exit → Act → World → Prop} (hg : o.guard = none) (s x : Operand) (t : TypeId)
    (hop : o.op = Op.call { callee := Callee.builtin Builtin.append, args := #[s, x], argTypes := #[t, t] })
    (base : Nat) (e : TypeId) (i : TypeInfo) (z : Value) (bytes : Nat) (h1 : Tryd.prog.underlying t = Option.some (.slice e)) (h2 : Tryd.prog.info? e = Option.some i) (h3 : i.zero = Option.some z) (h4 : i.size = 1) (h5 : i.bytes = bytes) (h6 : z.cells.size = 1)
    (v : Value) (xs : List Value) (hs : a.eval s = v) (hown : Own w base v xs)
    (ad : Addr) (m c : Nat) (news : List Value) (hx : a.eval x = .slice (Option.some ad) m c) (hn : news.length = m) (hc : ∀ j u, news[j]? = Option.some u → w.cell? (ad.add j) = Option.some u) (h1c : ∀ u ∈ news, u.oneCell' = true)
    (b1 : xs.length + m ≤ maxLen) (b2 : (xs.length + m) * bytes ≤ 140737488355328) (hbase : base ≤ w.heap.size)
    (hK : ∀ v' w', Own w' base v' (xs ++ news) → w.grownBy w' v.ownBlock → (∀ k, v'.ownBlock = Option.some k → v.ownBlock = Option.some k ∨ w.heap.size ≤ k) → wpList Tryd.prog ops Q rest (a.put o.dst v') w') :
    wpList Tryd.prog ops Q (o :: rest) a w := by
  rcases hown with ⟨rfl, rfl⟩ | ⟨g, cap, rfl, hown⟩
  · refine wpList_append_own w hg s x t hop w.heap.size e i z 1 bytes h1 h2 h3 h4 h5 h6 (by omega) (.slice none 0 0) 0 [] hs (World.ownsRow_nil _ _ _ _) ad m c news hx (by omega) hc h1c (by simpa using b1) (by simpa using b2) (Nat.le_refl _) ?_
    intro v' w' hown' hgrow _
    refine hK v' w' ?_ hgrow ?_
    · rcases (own_of_row hown').1 with h | ⟨g', cap', hv, hh⟩
      · exact .inl h
      · exact .inr ⟨g', cap', hv, Nat.le_trans hbase hh.base, hh.le, hh.cells, hh.room⟩
    · intro k hk
      rcases (own_of_row hown').1 with ⟨h, _⟩ | ⟨g', cap', hv, hh⟩
      · rw [h] at hk; simp [Value.ownBlock] at hk
      · rw [hv] at hk; simp [Value.ownBlock] at hk; have := hh.base; right; omega
  · refine wpList_append_arg w hg s x t hop e i z 1 bytes h1 h2 h3 h4 h5 h6 (by omega) g 0 xs.length cap xs hs (by omega) (fun j u hj => by simpa using hown.cells j u hj) ad m c news hx (by omega) hc h1c ?_ b1 b2 ?_ ?_
    · intro hr j hj
      have := hown.room (xs.length + j) (by omega)
      simpa using this
    · intro hr
      refine hK _ _ (.inr ⟨g, cap, by rw [List.length_append, hn], hown.base, by rw [List.length_append]; omega, fun j u hj => ?_, fun j hj => ?_⟩) ?_ ?_
      · simp only [Nat.zero_add, Nat.mul_one]
        by_cases hlt : j < xs.length
        · rw [World.cell?_setCells_out _ _ _ _ _ (fun _ _ => Or.inl hlt)]
          rw [List.getElem?_append_left hlt] at hj
          exact hown.cells j u hj
        · rw [List.getElem?_append_right (by omega)] at hj
          have hj' : j - xs.length < news.length := (List.getElem?_eq_some_iff.1 hj).1
          have := World.cell?_setCells_in g news xs.length w (fun q hq => (hown.room (xs.length + q) (by omega)).1) (j - xs.length) hj'
          rw [show xs.length + (j - xs.length) = j by omega] at this
          rw [this]
          have := (List.getElem?_eq_some_iff.1 hj).2
          rw [this]
      · simp only [Nat.zero_add, Nat.mul_one]
        refine ⟨?_, by rw [World.frozen?_setCells]; exact (hown.room j hj).2⟩
        by_cases hin : xs.length ≤ j ∧ j < xs.length + news.length
        · have := World.cell?_setCells_in g news xs.length w (fun q hq => (hown.room (xs.length + q) (by omega)).1) (j - xs.length) (by omega)
          rw [show xs.length + (j - xs.length) = j by omega] at this
          rw [this]; rfl
        · rw [World.cell?_setCells_out _ _ _ _ _ (fun _ _ => by simp; omega)]
          exact (hown.room j hj).1
      · exact grown_setCells g news _ w
      · intro k hk; exact .inl hk
    · intro hr v' w' hown' hgrow
      refine hK v' w' ?_ (grown_any hgrow _) ?_
      · rcases (own_of_row hown').1 with h | ⟨g', cap', hv, hh⟩
        · exact .inl h
        · exact .inr ⟨g', cap', hv, Nat.le_trans hbase hh.base, hh.le, hh.cells, hh.room⟩
      · intro k hk
        rcases (own_of_row hown').1 with ⟨h, _⟩ | ⟨g', cap', hv, hh⟩
        · rw [h] at hk; simp [Value.ownBlock] at hk
        · rw [hv] at hk; simp [Value.ownBlock] at hk; have := hh.base; right; omega

/-- The same, the slice's shape written out. -/
theorem wpList_append_slF {w : World} {ops : Array Oper} {rest : List Oper} {o : Oper} {a : Act} {Q : Exit → Act → World → Prop} (hg : o.guard = none) (s x : Operand) (t : TypeId)
    (hop : o.op = Op.call { callee := Callee.builtin Builtin.append, args := #[s, x], argTypes := #[t, t] })
    (base : Nat) (e : TypeId) (i : TypeInfo) (z : Value) (bytes : Nat) (h1 : Tryd.prog.underlying t = Option.some (.slice e)) (h2 : Tryd.prog.info? e = Option.some i) (h3 : i.zero = Option.some z) (h4 : i.size = 1) (h5 : i.bytes = bytes) (h6 : z.cells.size = 1)
    (ao : Option Addr) (n cap : Nat) (xs : List Value) (hs : a.eval s = .slice ao n cap) (hown : Own w base (.slice ao n cap) xs) (hlen : xs.length = n)
    (ad : Addr) (m c : Nat) (news : List Value) (hx : a.eval x = .slice (Option.some ad) m c) (hn : news.length = m) (hc : ∀ j u, news[j]? = Option.some u → w.cell? (ad.add j) = Option.some u) (h1c : ∀ u ∈ news, u.oneCell' = true)
    (b2 : (n + m) * bytes ≤ 140737488355328) (b1 : n + m ≤ 140737488355328) (hbase : base ≤ w.heap.size)
    (hK : ∀ ao' cap' w', Own w' base (.slice ao' (n + m) cap') (xs ++ news) → w.grownBy w' (Value.ownBlock (.slice ao n cap)) → (∀ k, (Value.slice ao' (n + m) cap').ownBlock = Option.some k → (Value.slice ao n cap).ownBlock = Option.some k ∨ w.heap.size ≤ k) → wpList Tryd.prog ops Q rest (a.put o.dst (.slice ao' (n + m) cap')) w') :
    wpList Tryd.prog ops Q (o :: rest) a w := by
  subst hlen
  refine wpList_append_OwnF hg s x t hop base e i z bytes h1 h2 h3 h4 h5 h6 _ xs hs hown ad m c news hx hn hc h1c (by unfold maxLen; omega) b2 hbase ?_
  intro v' w' hown' hgrow hfar
  obtain ⟨ao', cap', hv⟩ := hown'.shape
  rw [List.length_append, hn] at hv
  subst hv
  exact hK ao' cap' w' hown' hgrow hfar
end Go.Proofs.YtoejkiblampecaaDoor
