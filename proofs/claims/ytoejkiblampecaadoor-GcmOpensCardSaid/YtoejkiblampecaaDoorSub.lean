/- A part of a row of bytes as a value of its own: loaded, stored, and taken out of a value (arrays of arrays). -/
import Derived.Test.YtoejkiblampecaaDoorArr
namespace Go.Proofs.YtoejkiblampecaaDoor
open Go.RowKit Go.Sort
set_option maxRecDepth 100000
set_option linter.unusedSimpArgs false
set_option linter.unusedVariables false

theorem setRow_self (w : World) (g : Nat) (t : TypeId) (cur : Array Value) (hg : w.heap[g]? = some (.cells cur t (0, 0))) : w.setRow g cur = w := by
  have := run_storeCells_from (P := Tryd.prog) g t [] cur.size cur w hg (by simp) (by simp)
  rw [List.append_nil, List.take_of_length_le (by simp), Array.toArray_toList] at this
  simp only [storeCells] at this
  have h2 : (Result.ok () w : Result Unit) = .ok () (w.setRow g cur) := this
  injection h2 with _ h3
  exact h3.symm
/-- Cells with others laid from a place on. -/
def setMany (cur : Array Value) (p : Nat) : List Value → Array Value
  | [] => cur
  | v :: r => setMany (cur.setIfInBounds p v) (p + 1) r
theorem run_storeCells_at (g off : Nat) (t : TypeId) : ∀ (vs : List Value) (i : Nat) (cur : Array Value) (w : World), w.heap[g]? = some (.cells cur t (0, 0)) → off + i + vs.length ≤ cur.size → (∀ v ∈ vs, v.oneCell' = true) →
    (storeCells ⟨g, off, none⟩ vs i).run Tryd.prog w = .ok () (w.setRow g (setMany cur (off + i) vs))
  | [], i, cur, w, hg, hl, _ => by rw [setMany, setRow_self w g t cur hg]; rfl
  | v :: rest, i, cur, w, hg, hl, h1 => by
    have hi : off + i < cur.size := by simp at hl; omega
    have hadd : (⟨g, off, none⟩ : Addr).add i = ⟨g, off + i, none⟩ := by unfold Addr.add; split <;> simp_all
    have hcell : w.cell? ⟨g, off + i, none⟩ = some cur[off + i] := by simp [World.cell?, hg, hi]
    have hfro : w.frozen? ⟨g, off + i, none⟩ = false := by simp [World.frozen?, hg]
    have hst : (store ((⟨g, off, none⟩ : Addr).add i) v).run Tryd.prog w = .ok () (w.setRow g (cur.setIfInBounds (off + i) v)) := by
      rw [hadd, run_store Tryd.prog w _ v _ (h1 v (by simp)), hcell]
      simp [hfro, setCell_eq_setRow w g (off + i) cur t (0, 0) v hg]
    have ih := run_storeCells_at g off t rest (i + 1) (cur.setIfInBounds (off + i) v) (w.setRow g (cur.setIfInBounds (off + i) v)) (setRow_heap w g cur _ t _ hg) (by simp at hl ⊢; omega) (fun x hx => h1 x (by simp [hx]))
    simp only [storeCells, Sem.run_bind, hst, Result.andThen_ok, ih, setRow_setRow]
    rfl
/-- Bytes with others laid from a place on. -/
def putMany (l : List UInt8) (p : Nat) : List UInt8 → List UInt8
  | [] => l
  | x :: r => putMany (l.set p x) (p + 1) r
theorem setMany_bytes : ∀ (m l : List UInt8) (p : Nat), setMany (bcells l) p (Lib.byteCells m) = bcells (putMany l p m)
  | [], l, p => rfl
  | x :: r, l, p => by
    rw [show Lib.byteCells (x :: r) = Value.int .u8 x.toNat :: Lib.byteCells r from rfl, setMany, bcells_set, putMany]
    exact setMany_bytes r (l.set p x) (p + 1)
theorem putMany_length : ∀ (m l : List UInt8) (p : Nat), (putMany l p m).length = l.length
  | [], l, p => rfl
  | x :: r, l, p => by rw [putMany, putMany_length r, List.length_set]
theorem putMany_get : ∀ (m l : List UInt8) (p i : Nat), p + m.length ≤ l.length → (putMany l p m).getD i 0 = if p ≤ i ∧ i < p + m.length then m.getD (i - p) 0 else l.getD i 0
  | [], l, p, i, _ => by rw [putMany, if_neg (by simp)]
  | x :: r, l, p, i, h => by
    rw [List.length_cons] at h ⊢
    rw [putMany, putMany_get r _ _ _ (by rw [List.length_set]; omega)]
    by_cases h1 : p + 1 ≤ i ∧ i < p + 1 + r.length
    · rw [if_pos h1, if_pos (by omega), show i - p = (i - (p + 1)) + 1 by omega, List.getD_cons_succ]
    · rw [if_neg h1, List.getD_eq_getElem?_getD, List.getElem?_set]
      by_cases h2 : p = i
      · subst h2
        rw [if_pos rfl, if_pos (by omega), if_pos (by omega)]
        simp
      · rw [if_neg h2, if_neg (by omega), ← List.getD_eq_getElem?_getD]
/-- Bytes from a place on. -/
def subL (l : List UInt8) (off n : Nat) : List UInt8 := (l.drop off).take n
theorem subL_length (l : List UInt8) (off n : Nat) (h : off + n ≤ l.length) : (subL l off n).length = n := by simp [subL]; omega
theorem subL_get? (l : List UInt8) (off n j : Nat) (h : j < n) : (subL l off n)[j]? = l[off + j]? := by
  rw [subL, List.getElem?_take, if_pos h, List.getElem?_drop]
theorem subL_getD (l : List UInt8) (off n j : Nat) (h : j < n) : (subL l off n).getD j 0 = l.getD (off + j) 0 := by
  rw [List.getD_eq_getElem?_getD, List.getD_eq_getElem?_getD, subL_get? _ _ _ _ h]

theorem run_loadVar_sub (w : World) (g off : Nat) (t ty : TypeId) (l : List UInt8) (n : Nat) (fr : Nat × Nat) (d : TypeDesc) (hg : w.heap[g]? = some (.cells (bcells l) t fr))
    (hu : Tryd.prog.underlying ty = some d) (hd : (match d with | .struct _ | .array _ _ => true | _ => false) = true) (hi : (Tryd.prog.info? ty).map (·.size) = some n) (hn : off + n ≤ l.length) :
    (loadVar ty ⟨g, off, none⟩).run Tryd.prog w = .ok (.agg (bcells (subL l off n))) w := by
  have hlen : (Lib.byteCells (subL l off n)).length = n := by rw [Lib.byteCells_length, subL_length _ _ _ hn]
  have hl : (loadCells ⟨g, off, none⟩ (Lib.byteCells (subL l off n)).length).run Tryd.prog w = .ok (Lib.byteCells (subL l off n)).toArray w :=
    run_loadCells_list (P := Tryd.prog) w ⟨g, off, none⟩ (Lib.byteCells (subL l off n)) (fun j v hv => by
      have hadd : (⟨g, off, none⟩ : Addr).add j = ⟨g, off + j, none⟩ := by unfold Addr.add; split <;> simp_all
      have hj : j < n := by have := (List.getElem?_eq_some_iff.1 hv).1; omega
      simp only [Lib.byteCells, List.getElem?_map, Option.map_eq_some_iff] at hv
      obtain ⟨x, hx, rfl⟩ := hv
      rw [subL_get? _ _ _ _ hj] at hx
      rw [hadd, cell_of_row w g _ _ t fr hg]
      exact bcells_get l _ x hx)
  rw [hlen] at hl
  cases hq : Tryd.prog.info? ty with
  | none => simp [hq] at hi
  | some i =>
    have hs : i.size = n := by simpa [hq] using hi
    have hagg : (isAgg ty).run Tryd.prog w = .ok true w := by
      unfold isAgg
      rw [Sem.run_bind, run_underlying hu w]
      cases d <;> simp_all
    simp [loadVar, Sem.run_bind, hagg, sizeOf, typeInfo, hq, hs, hl]
    rfl
theorem run_storeVar_sub (w : World) (g off : Nat) (t ty : TypeId) (l m : List UInt8) (hg : w.heap[g]? = some (.cells (bcells l) t)) (hi : (Tryd.prog.info? ty).map (·.size) = some m.length) (hn : off + m.length ≤ l.length) :
    (storeVar ty ⟨g, off, none⟩ (.agg (bcells m))).run Tryd.prog w = .ok () (w.setRow g (bcells (putMany l off m))) := by
  have h := run_storeCells_at g off t (Lib.byteCells m) 0 (bcells l) w hg (by rw [Lib.byteCells_length, bcells_size]; omega) (fun v hv => by
    simp only [Lib.byteCells, List.mem_map] at hv
    obtain ⟨x, _, rfl⟩ := hv
    rfl)
  rw [Nat.add_zero, setMany_bytes] at h
  have hs0 : (bcells m).size = m.length := bcells_size m
  have hl0 : (bcells m).toList = Lib.byteCells m := by simp [bcells]
  cases hq : Tryd.prog.info? ty with
  | none => simp [hq] at hi
  | some i =>
    have hs : m.length = i.size := by simp [hq] at hi; omega
    simp [storeVar, sizeOf, typeInfo, hq, Value.cells, hs0, hs, hl0, h]
theorem wpList_load_sub {ops : Array Oper} {rest : List Oper} {o : Oper} {a : Act} {w : World} {Q : Exit → Act → World → Prop} (hgd : o.guard = none) (ty : TypeId) (x : Operand) (ho : o.op = .load ty x)
    (g off : Nat) (hx : a.eval x = .pointer (some ⟨g, off, none⟩)) (t : TypeId) (l : List UInt8) (n : Nat) (fr : Nat × Nat) (d : TypeDesc) (hg : w.heap[g]? = some (.cells (bcells l) t fr))
    (hu : Tryd.prog.underlying ty = some d) (hd : (match d with | .struct _ | .array _ _ => true | _ => false) = true) (hi : (Tryd.prog.info? ty).map (·.size) = some n) (hn : off + n ≤ l.length)
    (h : wpList Tryd.prog ops Q rest (a.put o.dst (.agg (bcells (subL l off n)))) w) : wpList Tryd.prog ops Q (o :: rest) a w :=
  wpList_plain hgd fun _ hK => by
    unfold Oper.wp execOp
    simp only [ho, hx, Instr.loadAt, Instr.sureAddr, Sem.run_bind, Sem.run_pure, Result.andThen_ok, run_loadVar_sub w g off t ty l n fr d hg hu hd hi hn]
    exact hK _ _ h
theorem wpList_store_sub {ops : Array Oper} {rest : List Oper} {o : Oper} {a : Act} {w : World} {Q : Exit → Act → World → Prop} (hgd : o.guard = none) (ty : TypeId) (x y : Operand) (ho : o.op = .store ty x y)
    (g off : Nat) (l m : List UInt8) (hx : a.eval x = .pointer (some ⟨g, off, none⟩)) (hy : a.eval y = .agg (bcells m)) (t : TypeId) (hg : w.heap[g]? = some (.cells (bcells l) t))
    (hi : (Tryd.prog.info? ty).map (·.size) = some m.length) (hn : off + m.length ≤ l.length)
    (h : wpList Tryd.prog ops Q rest (a.put o.dst undef) (w.setRow g (bcells (putMany l off m)))) : wpList Tryd.prog ops Q (o :: rest) a w :=
  wpList_plain hgd fun _ hK => by
    unfold Oper.wp execOp
    simp only [ho, hx, hy, Instr.storeAt, Instr.sureAddr, Sem.run_bind, Sem.run_pure, Result.andThen_ok, run_storeVar_sub w g off t ty l m hg hi hn]
    exact hK _ _ h
theorem sub_regrown {w : World} (ty : TypeId) (g off : Nat) (t : TypeId) (l : List UInt8) (n : Nat) (fr : Nat × Nat) (d : TypeDesc) (hg : w.heap[g]? = some (.cells (bcells l) t fr))
    (hu : Tryd.prog.underlying ty = some d) (hd : (match d with | .struct _ | .array _ _ => true | _ => false) = true) (hi : (Tryd.prog.info? ty).map (·.size) = some n) (hn : off + n ≤ l.length) (k : Nat) (os : Array Obj) :
    (Instr.loadAt ty (.pointer (some ⟨g, off, none⟩))).run Tryd.prog (grow (redrawn w k) os) = .ok (.agg (bcells (subL l off n))) (grow (redrawn w k) os) := by
  have hg' : (grow (redrawn w k) os).heap[g]? = some (.cells (bcells l) t fr) := ((below_regrown w k os).block g (blk_lt hg)).trans hg
  simp only [Instr.loadAt, Instr.sureAddr, Sem.run_bind, Sem.run_pure, Result.andThen_ok, run_loadVar_sub _ g off t ty l n fr d hg' hu hd hi hn]
/-- One array out of an array of arrays by value. -/
theorem run_index_sub (t e : TypeId) (n k s : Nat) (l : List UInt8) (d : TypeDesc) (hu : Tryd.prog.underlying t = some (.array n e)) (hs : (Tryd.prog.info? e).map (·.size) = some s) (hue : Tryd.prog.underlying e = some d) (hd : (match d with | .struct _ | .array _ _ => true | _ => false) = true) (hk : k < n) (w : World) :
    (Instr.index t (.agg (bcells l)) (.int .i64 (k : Int))).run Tryd.prog w = .ok (.agg (bcells (subL l (k * s) s))) w := by
  have hn : (0 : Int) ≤ (k : Int) ∧ (k : Int) < (n : Int) := by omega
  have hsz : ∀ w, (sizeOf e).run Tryd.prog w = .ok s w := fun w => by
    cases hq : Tryd.prog.info? e with
    | none => simp [hq] at hs
    | some i => simp [hq] at hs; simp [sizeOf, typeInfo, hq, hs]
  have hagg : ∀ w, (isAgg e).run Tryd.prog w = .ok true w := fun w => by
    unfold isAgg
    rw [Sem.run_bind, run_underlying hue w]
    cases d <;> simp_all
  have he : (bcells l).extract (k * s) (k * s + s) = bcells (subL l (k * s) s) := by
    simp [bcells, Lib.byteCells, subL, List.map_take, List.map_drop]
  simp [Instr.index, run_underlying hu, asIntOf, hn, go_sem, part, hsz, hagg, he]
  intro h; omega
end Go.Proofs.YtoejkiblampecaaDoor
