/- 'return x, y' of two whole rows: two loads and two stores in whatever order is drawn. -/
import Derived.Test.YtfidcdkoggfjaaaDoorCommon
import Derived.Laws.Tables
import Derived.BigFrame
namespace Go.Proofs.YtfidcdkoggfjaaaDoor
open Go.RowKit Go.Sort
set_option maxRecDepth 100000
set_option linter.unusedSimpArgs false
set_option linter.unusedVariables false

/-- A guarded load of a whole row. -/
theorem wpList_load_want {P : Program} {ops : Array Oper} {rest : List Oper} {o : Oper} {a : Act} {w : World} {Q : Exit → Act → World → Prop} (hw : Region.wanted o (yielded ops a.tmps) = true) (ty : TypeId) (x : Operand) (ho : o.op = .load ty x)
    (g : Nat) (hx : a.eval x = .pointer (some ⟨g, 0, none⟩)) (t : TypeId) (cs : Array Value) (fr : Nat × Nat) (d : TypeDesc) (hg : w.heap[g]? = some (.cells cs t fr))
    (hu : P.underlying ty = some d) (hd : (match d with | .struct _ | .array _ _ => true | _ => false) = true) (hi : (P.info? ty).map (·.size) = some cs.size)
    (h : wpList P ops Q rest (a.put o.dst (.agg cs)) w) : wpList P ops Q (o :: rest) a w :=
  BigFrame.wpList_want hw fun _ hK => wp_load_row ty x ho g hx t cs fr d hg hu hd hi (hK _ _ h)
theorem rows_op {P : Program} {ops : Array Oper} {Q : Exit → Act → World → Prop} {i : Nat} {o : Oper} {K : Act → World → Prop} {a : Act} {w : World} (ho : ops[i]? = some o) (hg : o.guard = none) (h : o.wp P a w K Q) : wpOp P ops Q i K a w := by
  unfold wpOp
  simp only [ho]
  rw [if_pos (by simp [Region.wanted, hg])]
  exact .inl h
theorem results_rows2 {P : Program} {fn : Func} {p q : Tmp} {ty ty' : TypeId} (h : fn.results = #[.cell p ty, .cell q ty']) (tmps : Array Value) (w : World) (g g' : Nat) (t t' : TypeId) (cs cs' : Array Value) (d d' : TypeDesc)
    (hp : tmps.getD p undef = .pointer (some ⟨g, 0, none⟩)) (hg : w.heap[g]? = some (.cells cs t)) (hu : P.underlying ty = some d) (hd : (match d with | .struct _ | .array _ _ => true | _ => false) = true) (hi : (P.info? ty).map (·.size) = some cs.size)
    (hp' : tmps.getD q undef = .pointer (some ⟨g', 0, none⟩)) (hg' : w.heap[g']? = some (.cells cs' t')) (hu' : P.underlying ty' = some d') (hd' : (match d' with | .struct _ | .array _ _ => true | _ => false) = true) (hi' : (P.info? ty').map (·.size) = some cs'.size) :
    (results fn tmps).run P w = .ok (.tuple #[.agg cs, .agg cs']) w := by
  have e1 := run_loadVar_row w g t ty cs (0, 0) d hg hu hd hi
  have e2 := run_loadVar_row w g' t' ty' cs' (0, 0) d' hg' hu' hd' hi'
  simp only [results, h]
  simp at hp hp'
  simp [Sem.run_bind, Result.andThen, hp, hp', asAddr, e1, e2]
/-- Which may come up when. -/
def rows2B (ops : Array Oper) : Bool :=
  decide (Region.ready .any ops #[false, false, false, false] = [0, 1]) && decide (Region.ready .any ops #[true, false, false, false] = [1, 2]) && decide (Region.ready .any ops #[false, true, false, false] = [0]) &&
    decide (Region.ready .any ops #[true, true, false, false] = [2]) && decide (Region.ready .any ops #[true, false, true, false] = [1]) && decide (Region.ready .any ops #[true, true, true, false] = [3]) && decide (Region.ready .any ops #[true, true, true, true] = [])
theorem wp_region_rows2 {P : Program} {id : Nat} {Q : Exit → Act → World → Prop} {a : Act} {w : World} {o0 o1 o2 o3 : Oper} (hm : P.follows .mixedOrders = true) (hB : rows2B #[o0, o1, o2, o3] = true)
    (g0 : o0.guard = none) (g1 : o1.guard = none) (g2 : o2.guard = none) (g3 : o3.guard = none) {ty : TypeId} {x0 x1 x2 x3 y2 y3 : Operand} {d0 d1 : Tmp}
    (p0 : o0.op = .load ty x0) (p1 : o1.op = .load ty x1) (p2 : o2.op = .store ty x2 y2) (p3 : o3.op = .store ty x3 y3)
    (q0 : o0.dst = some d0) (q1 : o1.dst = some d1) (q2 : o2.dst = none) (q3 : o3.dst = none) (hne : d0 ≠ d1)
    (B0 B1 C0 C1 : Nat) (cs0 cs1 old0 old1 : Array Value) (t0 t1 u0 u1 : TypeId) (d : TypeDesc)
    (w0 : w.heap[B0]? = some (.cells cs0 t0)) (w1 : w.heap[B1]? = some (.cells cs1 t1)) (z0 : w.heap[C0]? = some (.cells old0 u0)) (z1 : w.heap[C1]? = some (.cells old1 u1)) (n1 : C0 ≠ B1) (n2 : C0 ≠ C1)
    (hu : P.underlying ty = some d) (hd : (match d with | .struct _ | .array _ _ => true | _ => false) = true)
    (i0 : (P.info? ty).map (·.size) = some cs0.size) (i1 : (P.info? ty).map (·.size) = some cs1.size) (s0 : old0.size = cs0.size) (s1 : old1.size = cs1.size) (c0 : cs0.all (·.oneCell') = true) (c1 : cs1.all (·.oneCell') = true)
    (e0 : a.eval x0 = .pointer (some ⟨B0, 0, none⟩)) (e0' : (a.put (some d1) (.agg cs1)).eval x0 = .pointer (some ⟨B0, 0, none⟩)) (e1 : a.eval x1 = .pointer (some ⟨B1, 0, none⟩)) (e1' : (a.put (some d0) (.agg cs0)).eval x1 = .pointer (some ⟨B1, 0, none⟩))
    (e2 : (a.put (some d0) (.agg cs0)).eval x2 = .pointer (some ⟨C0, 0, none⟩)) (e2' : ((a.put (some d0) (.agg cs0)).put (some d1) (.agg cs1)).eval x2 = .pointer (some ⟨C0, 0, none⟩)) (f2 : (a.put (some d0) (.agg cs0)).eval y2 = .agg cs0) (f2' : ((a.put (some d0) (.agg cs0)).put (some d1) (.agg cs1)).eval y2 = .agg cs0)
    (e3 : ((a.put (some d0) (.agg cs0)).put (some d1) (.agg cs1)).eval x3 = .pointer (some ⟨C1, 0, none⟩)) (f3 : ((a.put (some d0) (.agg cs0)).put (some d1) (.agg cs1)).eval y3 = .agg cs1)
    (h : ∀ w', Below w.heap.size w w' → w'.heap = w.heap → Q .normal ((a.put (some d0) (.agg cs0)).put (some d1) (.agg cs1)) ((w'.setRow C0 cs0).setRow C1 cs1)) : (Code.region id #[o0, o1, o2, o3] true).wp P Q a w := by
  simp only [rows2B, Bool.and_eq_true, decide_eq_true_eq] at hB
  obtain ⟨⟨⟨⟨⟨⟨r0, r1⟩, r2⟩, r3⟩, r4⟩, r5⟩, r6⟩ := hB
  refine wp_region_any hm ?_
  have hv := h { w with drawn := w.drawn + 1 } ⟨rfl, rfl, rfl, Nat.le_refl _, fun _ _ => rfl⟩ rfl
  have w0 : ({ w with drawn := w.drawn + 1 } : World).heap[B0]? = some (.cells cs0 t0) := w0
  have w1 : ({ w with drawn := w.drawn + 1 } : World).heap[B1]? = some (.cells cs1 t1) := w1
  have z0 : ({ w with drawn := w.drawn + 1 } : World).heap[C0]? = some (.cells old0 u0) := z0
  have z1 : ({ w with drawn := w.drawn + 1 } : World).heap[C1]? = some (.cells old1 u1) := z1
  generalize ({ w with drawn := w.drawn + 1 } : World) = v at *
  clear h
  have w1' : (v.setRow C0 cs0).heap[B1]? = some (.cells cs1 t1) := by rw [setRow_other _ _ _ _ (Ne.symm n1)]; exact w1
  have z1' : (v.setRow C0 cs0).heap[C1]? = some (.cells old1 u1) := by rw [setRow_other _ _ _ _ (Ne.symm n2)]; exact z1
  have hcomm : (a.put (some d1) (.agg cs1)).put (some d0) (.agg cs0) = (a.put (some d0) (.agg cs0)).put (some d1) (.agg cs1) := Act.put_comm a _ _ (fun d hd he => hne ((Option.some.inj he).trans (Option.some.inj hd).symm))
  -- the last store
  have L3 : wpAny P .any #[o0, o1, o2, o3] Q 1 #[true, true, true, false] ((a.put (some d0) (.agg cs0)).put (some d1) (.agg cs1)) (v.setRow C0 cs0) := by
    refine wpAny_all r5 (by simp) fun i hi => ?_
    obtain rfl : i = 3 := by simpa using hi
    refine rows_op (o := o3) rfl g3 (wp_store_row ty _ _ p3 C1 cs1 e3 f3 u1 old1 z1' i1 s1 c1 ?_)
    rw [q3]
    exact wpAny_done r6 hv 0
  have L23 : wpAny P .any #[o0, o1, o2, o3] Q 2 #[true, true, false, false] ((a.put (some d0) (.agg cs0)).put (some d1) (.agg cs1)) v := by
    refine wpAny_all r3 (by simp) fun i hi => ?_
    obtain rfl : i = 2 := by simpa using hi
    refine rows_op (o := o2) rfl g2 (wp_store_row ty _ _ p2 C0 cs0 e2' f2' u0 old0 z0 i0 s0 c0 ?_)
    rw [q2]
    exact L3
  refine wpAny_all (fuel := 3) (listed := #[false, false, false, false]) r0 (by simp) fun i hi => ?_
  rcases (show i = 0 ∨ i = 1 by simpa using hi) with rfl | rfl
  · refine rows_op (o := o0) rfl g0 (wp_load_row ty _ p0 B0 e0 t0 cs0 (0, 0) d w0 hu hd i0 ?_)
    rw [q0]
    refine wpAny_all (fuel := 2) (listed := #[true, false, false, false]) r1 (by simp) fun i hi => ?_
    rcases (show i = 1 ∨ i = 2 by simpa using hi) with rfl | rfl
    · refine rows_op (o := o1) rfl g1 (wp_load_row ty _ p1 B1 e1' t1 cs1 (0, 0) d w1 hu hd i1 ?_)
      rw [q1]
      exact L23
    · refine rows_op (o := o2) rfl g2 (wp_store_row ty _ _ p2 C0 cs0 e2 f2 u0 old0 z0 i0 s0 c0 ?_)
      rw [q2]
      refine wpAny_all (fuel := 1) (listed := #[true, false, true, false]) r4 (by simp) fun i hi => ?_
      obtain rfl : i = 1 := by simpa using hi
      refine rows_op (o := o1) rfl g1 (wp_load_row ty _ p1 B1 e1' t1 cs1 (0, 0) d w1' hu hd i1 ?_)
      rw [q1]
      exact L3
  · refine rows_op (o := o1) rfl g1 (wp_load_row ty _ p1 B1 e1 t1 cs1 (0, 0) d w1 hu hd i1 ?_)
    rw [q1]
    refine wpAny_all (fuel := 2) (listed := #[false, true, false, false]) r2 (by simp) fun i hi => ?_
    obtain rfl : i = 0 := by simpa using hi
    refine rows_op (o := o0) rfl g0 (wp_load_row ty _ p0 B0 e0' t0 cs0 (0, 0) d w0 hu hd i0 ?_)
    rw [q0, hcomm]
    exact L23
end Go.Proofs.YtfidcdkoggfjaaaDoor
