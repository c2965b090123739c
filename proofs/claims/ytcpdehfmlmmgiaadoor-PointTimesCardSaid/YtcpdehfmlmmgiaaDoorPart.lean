/- A part of a row of cells as a value of its own, whatever the cells: loaded, stored. -/
import Derived.Test.YtcpdehfmlmmgiaaDoorTold
namespace Go.Proofs.YtcpdehfmlmmgiaaDoor
open Go.RowKit Go.Sort
set_option maxRecDepth 100000
set_option linter.unusedSimpArgs false
set_option linter.unusedVariables false

theorem partAddr (g off j : Nat) : (⟨g, off, none⟩ : Addr).add j = ⟨g, off + j, none⟩ := by unfold Addr.add; split <;> simp_all
theorem run_loadVar_part {P : Program} (w : World) (g off : Nat) (t ty : TypeId) (row : Array Value) (n : Nat) (fr : Nat × Nat) (d : TypeDesc) (hg : w.heap[g]? = some (.cells row t fr))
    (hu : P.underlying ty = some d) (hd : (match (generalizing := false) d with | .struct _ | .array _ _ => true | _ => false) = true) (hi : (P.info? ty).map (·.size) = some n) (hn : off + n ≤ row.size) :
    (loadVar ty ⟨g, off, none⟩).run P w = .ok (.agg (row.extract off (off + n))) w := by
  have hlen : (row.extract off (off + n)).toList.length = n := by simp; omega
  have hl : (loadCells ⟨g, off, none⟩ (row.extract off (off + n)).toList.length).run P w = .ok (row.extract off (off + n)).toList.toArray w :=
    run_loadCells_list (P := P) w ⟨g, off, none⟩ (row.extract off (off + n)).toList (fun j v hv => by
      have hj : j < n := by have := (List.getElem?_eq_some_iff.1 hv).1; omega
      rw [Array.getElem?_toList] at hv
      rw [partAddr, cell_of_row w g _ _ t fr hg]
      rw [Array.getElem?_extract] at hv
      simpa [show j < min (off + n) row.size - off by omega] using hv)
  rw [hlen, Array.toArray_toList] at hl
  cases hq : P.info? ty with
  | none => simp [hq] at hi
  | some i =>
    have hs : i.size = n := by simpa [hq] using hi
    have hagg : (isAgg ty).run P w = .ok true w := by
      unfold isAgg
      rw [Sem.run_bind, run_underlying hu w]
      cases d <;> simp_all
    simp [loadVar, Sem.run_bind, hagg, sizeOf, typeInfo, hq, hs, hl]
theorem run_storeVar_part (w : World) (g off : Nat) (t ty : TypeId) (row cs : Array Value) (hg : w.heap[g]? = some (.cells row t)) (hi : (Tryd.prog.info? ty).map (·.size) = some cs.size) (hn : off + cs.size ≤ row.size) (h1 : cs.all (·.oneCell') = true) :
    (storeVar ty ⟨g, off, none⟩ (.agg cs)).run Tryd.prog w = .ok () (w.setRow g (setMany row off cs.toList)) := by
  have h := run_storeCells_at g off t cs.toList 0 row w hg (by simpa using hn) (fun v hv => by
    rw [Array.all_eq_true_iff_forall_mem] at h1
    exact h1 v (by simpa using hv))
  rw [Nat.add_zero] at h
  cases hq : Tryd.prog.info? ty with
  | none => simp [hq] at hi
  | some i =>
    have hs : cs.size = i.size := by simp [hq] at hi; omega
    simp [storeVar, sizeOf, typeInfo, hq, Value.cells, hs, h]
theorem setMany_size : ∀ (vs : List Value) (cur : Array Value) (p : Nat), (setMany cur p vs).size = cur.size
  | [], cur, p => rfl
  | v :: r, cur, p => by rw [setMany, setMany_size r, Array.size_setIfInBounds]
theorem setMany_get : ∀ (vs : List Value) (cur : Array Value) (p i : Nat), p + vs.length ≤ cur.size → (setMany cur p vs)[i]? = if p ≤ i ∧ i < p + vs.length then vs[i - p]? else cur[i]?
  | [], cur, p, i, _ => by rw [setMany, if_neg (by simp)]
  | v :: r, cur, p, i, h => by
    rw [List.length_cons] at h ⊢
    rw [setMany, setMany_get r _ _ _ (by rw [Array.size_setIfInBounds]; omega)]
    by_cases h1 : p + 1 ≤ i ∧ i < p + 1 + r.length
    · rw [if_pos h1, if_pos (by omega), show i - p = (i - (p + 1)) + 1 by omega, List.getElem?_cons_succ]
    · rw [if_neg h1, Array.getElem?_setIfInBounds]
      by_cases h2 : p = i
      · subst h2
        rw [if_pos rfl, if_pos (by omega), if_pos (by omega), Nat.sub_self, List.getElem?_cons_zero]
      · rw [if_neg h2, if_neg (by omega)]
/-- The part that was laid, and the parts beside it. -/
theorem setMany_part (row cs : Array Value) (p : Nat) (h : p + cs.size ≤ row.size) : (setMany row p cs.toList).extract p (p + cs.size) = cs := by
  apply Array.ext_getElem?
  intro i
  rw [Array.getElem?_extract, setMany_size]
  by_cases hi : i < cs.size
  · rw [if_pos (by omega), setMany_get _ _ _ _ (by simpa using h), if_pos (by simp; omega), Nat.add_sub_cancel_left, Array.getElem?_toList]
  · rw [if_neg (by omega), Array.getElem?_eq_none (by omega)]
theorem setMany_beside (row cs : Array Value) (p a b : Nat) (h : p + cs.size ≤ row.size) (hb : b ≤ p ∨ p + cs.size ≤ a) : (setMany row p cs.toList).extract a b = row.extract a b := by
  apply Array.ext_getElem?
  intro i
  rw [Array.getElem?_extract, Array.getElem?_extract, setMany_size]
  by_cases hi : i < min b row.size - a
  · rw [if_pos hi, if_pos hi, setMany_get _ _ _ _ (by simpa using h), if_neg (by simp; omega)]
  · rw [if_neg hi, if_neg hi]
theorem wpList_load_part {ops : Array Oper} {rest : List Oper} {o : Oper} {a : Act} {w : World} {Q : Exit → Act → World → Prop} (hgd : o.guard = none) (ty : TypeId) (x : Operand) (ho : o.op = .load ty x)
    (g off : Nat) (hx : a.eval x = .pointer (some ⟨g, off, none⟩)) (t : TypeId) (row : Array Value) (n : Nat) (fr : Nat × Nat) (d : TypeDesc) (hg : w.heap[g]? = some (.cells row t fr))
    (hu : Tryd.prog.underlying ty = some d) (hd : (match (generalizing := false) d with | .struct _ | .array _ _ => true | _ => false) = true) (hi : (Tryd.prog.info? ty).map (·.size) = some n) (hn : off + n ≤ row.size)
    (h : wpList Tryd.prog ops Q rest (a.put o.dst (.agg (row.extract off (off + n)))) w) : wpList Tryd.prog ops Q (o :: rest) a w :=
  wpList_plain hgd fun _ hK => by
    unfold Oper.wp execOp
    simp only [ho, hx, Instr.loadAt, Instr.sureAddr, Sem.run_bind, Sem.run_pure, Result.andThen_ok, run_loadVar_part w g off t ty row n fr d hg hu hd hi hn]
    exact hK _ _ h
theorem wpList_store_part {ops : Array Oper} {rest : List Oper} {o : Oper} {a : Act} {w : World} {Q : Exit → Act → World → Prop} (hgd : o.guard = none) (ty : TypeId) (x y : Operand) (ho : o.op = .store ty x y)
    (g off : Nat) (row cs : Array Value) (hx : a.eval x = .pointer (some ⟨g, off, none⟩)) (hy : a.eval y = .agg cs) (t : TypeId) (hg : w.heap[g]? = some (.cells row t))
    (hi : (Tryd.prog.info? ty).map (·.size) = some cs.size) (hn : off + cs.size ≤ row.size) (h1 : cs.all (·.oneCell') = true)
    (h : wpList Tryd.prog ops Q rest (a.put o.dst undef) (w.setRow g (setMany row off cs.toList))) : wpList Tryd.prog ops Q (o :: rest) a w :=
  wpList_plain hgd fun _ hK => by
    unfold Oper.wp execOp
    simp only [ho, hx, hy, Instr.storeAt, Instr.sureAddr, Sem.run_bind, Sem.run_pure, Result.andThen_ok, run_storeVar_part w g off t ty row cs hg hi hn h1]
    exact hK _ _ h
theorem told_load_part {P : Program} {o : Oper} {a : Act} {w : World} (ty : TypeId) (x : Operand) (ho : o.op = .load ty x)
    (g off : Nat) (hx : a.eval x = .pointer (some ⟨g, off, none⟩)) (t : TypeId) (row : Array Value) (n : Nat) (fr : Nat × Nat) (d : TypeDesc) (hg : w.heap[g]? = some (.cells row t fr))
    (hu : P.underlying ty = some d) (hd : (match (generalizing := false) d with | .struct _ | .array _ _ => true | _ => false) = true) (hi : (P.info? ty).map (·.size) = some n) (hn : off + n ≤ row.size) : toldQuiet P w (Told.val (.agg (row.extract off (off + n)))) ((execOp a.eval o).run P w) := by
  unfold execOp
  simp only [ho, hx, Instr.loadAt, Instr.sureAddr, Sem.run_bind, Sem.run_pure, Result.andThen_ok, run_loadVar_part w g off t ty row n fr d hg hu hd hi hn]
  exact ⟨Below.refl _ _, rfl⟩
end Go.Proofs.YtcpdehfmlmmgiaaDoor
