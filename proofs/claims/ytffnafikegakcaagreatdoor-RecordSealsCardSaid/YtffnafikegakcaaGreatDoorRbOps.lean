/- A list of calls that came in; four boxes and a list of texts that a call has made. -/
import Derived.Test.YtffnafikegakcaaGreatDoorRbInv
import Derived.Test.YtffnafikegakcaaGreatDoorRbKR
import Derived.Test.YtffnafikegakcaaGreatDoorRcSt
import Derived.Deep.Fields
namespace Go.Proofs.YtffnafikegakcaaGreatDoor
open Go.ChangeShapes Go.WideShapes Go.ChangeAt Go.WideMaps Go.WideElems Go.RowKit Go.Deep
set_option maxRecDepth 100000
set_option linter.unusedSimpArgs false
set_option linter.unusedVariables false

/-- A call of the law's list. -/
structure OpV where
  op : Bool
  ag : Bool
  kd : Int
  dt : ByteArray
  pd : Int
  nn : Int
def opC (o : OpV) : Array Value := #[.bool o.op, .bool o.ag, .int .i64 o.kd, .string o.dt, .int .i64 o.pd, .int .i64 o.nn]
def opZ : OpV := ⟨false, false, 0, emB, 0, 0⟩
structure OpW (o : OpV) : Prop where
  dt : o.dt.size ≤ maxLen
  pd : -9223372036854775808 ≤ o.pd ∧ o.pd ≤ 9223372036854775807
  nn : -9223372036854775808 ≤ o.nn ∧ o.nn ≤ 9223372036854775807
def OsAt (w : World) (ao : Option Addr) (os : List OpV) : Prop := ∀ j, j < os.length → OpW (os.getD j opZ) ∧ ∃ g off, ao = some ⟨g, off, none⟩ ∧ ∀ (f : Nat) (v : Value), (opC (os.getD j opZ)).toList[f]? = some v → w.cell? ⟨g, off + j * 6 + f, none⟩ = some v
section
variable {H : Type} {enc : TypeId × Value → H} {W : World} {a : Option Addr} {n c : Nat} {d : DataW H} {ps : List MemPlace}
theorem op_bounds {z : Int} (h : (Lit.int .i64 z).wf = true) : -9223372036854775808 ≤ z ∧ z ≤ 9223372036854775807 := by
  have h2 : IntKind.i64.min ≤ z ∧ z ≤ IntKind.i64.max := by simpa [Lit.wf] using h
  rwa [show IntKind.i64.min = -9223372036854775808 by decide, show IntKind.i64.max = 9223372036854775807 by decide] at h2
theorem op_one {sp : Nat → Bool} {held : Bool} {m : Nat} {cs : List Value} {x : DataW H × List MemPlace} (h : DataW.trod enc Tryz.prog W 0 sp held m 35 cs = some x) : ∃ o : OpV, OpW o ∧ cs = (opC o).toList := by
  obtain ⟨f0, f1, f2, f3, f4, f5, hu⟩ : ∃ f0 f1 f2 f3 f4 f5, Tryz.prog.underlying 35 = some (.struct #[f0, f1, f2, f3, f4, f5]) ∧ oneCellFields Tryz.prog #[f0, f1, f2, f3, f4, f5] = true ∧ f0.type = 4 ∧ f1.type = 4 ∧ f2.type = 3 ∧ f3.type = 9 ∧ f4.type = 3 ∧ f5.type = 3 :=
    ⟨_, _, _, _, _, _, Tryz.underlying35, by kernel_rfl, by kernel_rfl, by kernel_rfl, by kernel_rfl, by kernel_rfl, by kernel_rfl, by kernel_rfl⟩
  obtain ⟨hs, hone, t0, t1, t2, t3, t4, t5⟩ := hu
  obtain ⟨xs, m', _, hx, hcl, hlen, hff⟩ := DataW.trod_struct hs h
  have hc6 : Tryz.prog.cellsOf 35 = 6 := by kernel_rfl
  rw [hc6] at hcl
  match cs, hcl with
  | [c0, c1, c2, c3, c4, c5], _ =>
    match xs, hlen with
    | [y0, y1, y2, y3, y4, y5], _ =>
      obtain ⟨o0, k0⟩ := hone_of hone 0 f0 rfl
      obtain ⟨o1, k1⟩ := hone_of hone 1 f1 rfl
      obtain ⟨o2, k2⟩ := hone_of hone 2 f2 rfl
      obtain ⟨o3, k3⟩ := hone_of hone 3 f3 rfl
      obtain ⟨o4, k4⟩ := hone_of hone 4 f4 rfl
      obtain ⟨o5, k5⟩ := hone_of hone 5 f5 rfl
      have h0 := hff 0 f0 rfl; have h1 := hff 1 f1 rfl; have h2 := hff 2 f2 rfl; have h3 := hff 3 f3 rfl; have h4 := hff 4 f4 rfl; have h5 := hff 5 f5 rfl
      rw [o0, k0, t0] at h0; rw [o1, k1, t1] at h1; rw [o2, k2, t2] at h2; rw [o3, k3, t3] at h3; rw [o4, k4, t4] at h4; rw [o5, k5, t5] at h5
      obtain ⟨b0, e0, _⟩ := DataW.trod_bool Tryz.underlying4 (show DataW.trod enc Tryz.prog W 0 sp held m' 4 [c0] = some y0 from h0)
      obtain ⟨b1, e1, _⟩ := DataW.trod_bool Tryz.underlying4 (show DataW.trod enc Tryz.prog W 0 sp held m' 4 [c1] = some y1 from h1)
      obtain ⟨z2, e2, _, w2⟩ := DataW.trod_int Tryz.underlying3 (show DataW.trod enc Tryz.prog W 0 sp held m' 3 [c2] = some y2 from h2)
      obtain ⟨s3, e3, _, w3⟩ := DataW.trod_string Tryz.underlying9 (show DataW.trod enc Tryz.prog W 0 sp held m' 9 [c3] = some y3 from h3)
      obtain ⟨z4, e4, _, w4⟩ := DataW.trod_int Tryz.underlying3 (show DataW.trod enc Tryz.prog W 0 sp held m' 3 [c4] = some y4 from h4)
      obtain ⟨z5, e5, _, w5⟩ := DataW.trod_int Tryz.underlying3 (show DataW.trod enc Tryz.prog W 0 sp held m' 3 [c5] = some y5 from h5)
      simp only [List.cons.injEq, and_true] at e0 e1 e2 e3 e4 e5
      refine ⟨⟨b0, b1, z2, s3, z4, z5⟩, ⟨w3, op_bounds w4, op_bounds w5⟩, ?_⟩
      rw [e0, e1, e2, e3, e4, e5]; rfl
theorem op_open (h : DataW.Trod enc Tryz.prog W 0 (fun _ => true) true 24 (.slice a n c) d ps) : ∃ os : List OpV, os.length = n ∧ n ≤ maxLen ∧ OsAt W a os := by
  obtain ⟨fuel, hf⟩ := h
  rcases DataW.trod_slice Tryz.underlying24 hf with ⟨hcs, hx⟩ | ⟨a', len', cap', elems, rest, m, _, hcs, hx, _, hl, hm, hel, hget, _, _⟩
  · simp [Value.cells] at hcs
    obtain ⟨rfl, rfl, rfl⟩ := hcs
    exact ⟨[], rfl, Nat.zero_le _, fun j hj => by cases hj⟩
  · simp [Value.cells] at hcs
    obtain ⟨rfl, rfl, rfl⟩ := hcs
    have hc6 : Tryz.prog.cellsOf 35 = 6 := by kernel_rfl
    rw [hc6] at hget
    have each : ∀ i, i < n → ∃ o : OpV, OpW o ∧ ∀ f v, (opC o).toList[f]? = some v → W.cell? (a'.add (i * 6 + f)) = some v := fun i hi => by
      have h1 := hget i hi
      rw [List.getElem?_eq_getElem (by omega)] at h1
      obtain ⟨cs, hc, ht⟩ := Option.bind_eq_some_iff.1 h1
      obtain ⟨o, hw, rfl⟩ := op_one ht
      obtain ⟨_, _, hcell⟩ := World.cells?_some hc
      refine ⟨o, hw, fun f v hv => ?_⟩
      have hf6 : f < 6 := (List.getElem?_eq_some_iff.1 hv).1
      have := hcell f hf6
      rw [hv] at this
      have hadd : (a'.add (i * 6)).add f = a'.add (i * 6 + f) := by
        unfold Addr.add
        split <;> split <;> simp_all <;> omega
      rw [← hadd]; exact this
    obtain ⟨fo, hfo⟩ : ∃ fo : Nat → OpV, ∀ i, i < n → OpW (fo i) ∧ ∀ f v, (opC (fo i)).toList[f]? = some v → W.cell? (a'.add (i * 6 + f)) = some v :=
      ⟨fun i => if hi : i < n then Classical.choose (each i hi) else opZ, fun i hi => by simp only [dif_pos hi]; exact Classical.choose_spec (each i hi)⟩
    refine ⟨(List.range n).map fo, by simp, by omega, fun j hj => ?_⟩
    have hjn : j < n := by simpa using hj
    have hg : ((List.range n).map fo).getD j opZ = fo j := by rw [List.getD_eq_getElem?_getD, List.getElem?_map, List.getElem?_range hjn]; rfl
    rw [hg]
    obtain ⟨h1, h2⟩ := hfo j hjn
    obtain ⟨g, off, spot⟩ := a'
    have hspot : spot = none := by simpa [Addr.add] using World.cell?_spot ((hfo 0 (by omega)).2 0 _ rfl)
    subst hspot
    refine ⟨h1, g, off, rfl, fun f v hv => ?_⟩
    have := h2 f v hv
    rw [Addr.add_lit] at this
    rw [Nat.add_assoc]; exact this
end
theorem run_loadVar_at {P : Program} (w : World) (g off : Nat) (ty : TypeId) (cs : Array Value) (d : TypeDesc) (hc : ∀ j v, cs.toList[j]? = some v → w.cell? ⟨g, off + j, none⟩ = some v)
    (hu : P.underlying ty = some d) (hd : (match (generalizing := false) d with | .struct _ | .array _ _ => true | _ => false) = true) (hi : (P.info? ty).map (·.size) = some cs.size) : (loadVar ty ⟨g, off, none⟩).run P w = .ok (.agg cs) w := by
  have hl : (loadCells ⟨g, off, none⟩ cs.toList.length).run P w = .ok cs.toList.toArray w := run_loadCells_list (P := P) w ⟨g, off, none⟩ cs.toList (fun j v hv => by rw [Addr.add_lit]; exact hc j v hv)
  cases hq : P.info? ty with
  | none => simp [hq] at hi
  | some i =>
    have hs : i.size = cs.size := by simpa [hq] using hi
    have hagg : (isAgg ty).run P w = .ok true w := by
      unfold isAgg
      rw [Sem.run_bind, run_underlying hu w]
      cases d <;> simp_all
    have hl2 : cs.toList.length = cs.size := Array.length_toList
    rw [hl2, Array.toArray_toList] at hl
    simp [loadVar, Sem.run_bind, hagg, sizeOf, typeInfo, hq, hs, hl]
theorem wpList_load_at {P : Program} {ops : Array Oper} {rest : List Oper} {o : Oper} {a : Act} {w : World} {Q : Exit → Act → World → Prop} (hgd : o.guard = none) (ty : TypeId) (x : Operand) (ho : o.op = .load ty x)
    (g off : Nat) (hx : a.eval x = .pointer (some ⟨g, off, none⟩)) (cs : Array Value) (d : TypeDesc) (hc : ∀ j v, cs.toList[j]? = some v → w.cell? ⟨g, off + j, none⟩ = some v)
    (hu : P.underlying ty = some d) (hd : (match (generalizing := false) d with | .struct _ | .array _ _ => true | _ => false) = true) (hi : (P.info? ty).map (·.size) = some cs.size)
    (h : wpList P ops Q rest (a.put o.dst (.agg cs)) w) : wpList P ops Q (o :: rest) a w :=
  wpList_plain hgd fun _ hK => by
    unfold Oper.wp execOp
    simp only [ho, hx, Instr.loadAt, Instr.sureAddr, Sem.run_bind, Sem.run_pure, Result.andThen_ok, run_loadVar_at w g off ty cs d hc hu hd hi]
    exact hK _ _ h
theorem op_cells {W : World} {b : Nat} {o : OpV} {T : TypeId} (h : W.heap[b]? = some (.cells (opC o) T)) : W.cell? ⟨b, 0, none⟩ = some (.bool o.op) ∧ W.cell? ⟨b, 1, none⟩ = some (.bool o.ag) ∧ W.cell? ⟨b, 2, none⟩ = some (.int .i64 o.kd) ∧ W.cell? ⟨b, 3, none⟩ = some (.string o.dt) ∧ W.cell? ⟨b, 4, none⟩ = some (.int .i64 o.pd) ∧ W.cell? ⟨b, 5, none⟩ = some (.int .i64 o.nn) := by
  refine ⟨?_, ?_, ?_, ?_, ?_, ?_⟩ <;> rw [cell_of_row W _ _ _ _ _ h] <;> rfl

/-- Four boxes and a list that stand so. -/
structure SxI (w W : World) (base ba bb bc bd : Nat) (sA sB : BSt) (v : Value) (txs : List ByteArray) : Prop where
  a : BxAt W ba sA
  b : BxAt W bb sB
  c : BrAt W bc sA
  d : BrAt W bd sB
  oA : BOk sA
  oB : BOk sB
  own : Own W base v (svs txs)
  big : ∀ t, t ∈ txs → t.size ≤ maxLen
  bel : Below w.heap.size w W
  ne : ba ≠ bb ∧ ba ≠ bc ∧ ba ≠ bd ∧ bb ≠ bc ∧ bb ≠ bd ∧ bc ≠ bd
  lt : ba < base ∧ bb < base ∧ bc < base ∧ bd < base
  ge : w.heap.size ≤ ba ∧ w.heap.size ≤ bb ∧ w.heap.size ≤ bc ∧ w.heap.size ≤ bd
  hw : base ≤ W.heap.size
/-- The same while one box of a pair has gone ahead of the other one. -/
structure SxJ (w W : World) (base ba bb bc bd : Nat) (s1 s2 s3 s4 : BSt) (v : Value) (txs : List ByteArray) : Prop where
  a : BxAt W ba s1
  b : BxAt W bb s2
  c : BrAt W bc s3
  d : BrAt W bd s4
  own : Own W base v (svs txs)
  big : ∀ t, t ∈ txs → t.size ≤ maxLen
  bel : Below w.heap.size w W
  ne : ba ≠ bb ∧ ba ≠ bc ∧ ba ≠ bd ∧ bb ≠ bc ∧ bb ≠ bd ∧ bc ≠ bd
  lt : ba < base ∧ bb < base ∧ bc < base ∧ bd < base
  ge : w.heap.size ≤ ba ∧ w.heap.size ≤ bb ∧ w.heap.size ≤ bc ∧ w.heap.size ≤ bd
  hw : base ≤ W.heap.size
section
variable {w W W' : World} {base ba bb bc bd : Nat} {sA sB s1 s2 s3 s4 s' : BSt} {v : Value} {txs : List ByteArray}
theorem SxI.j (h : SxI w W base ba bb bc bd sA sB v txs) : SxJ w W base ba bb bc bd sA sB sA sB v txs := ⟨h.a, h.b, h.c, h.d, h.own, h.big, h.bel, h.ne, h.lt, h.ge, h.hw⟩
theorem SxJ.i (h : SxJ w W base ba bb bc bd sA sB sA sB v txs) (h1 : BOk sA) (h2 : BOk sB) : SxI w W base ba bb bc bd sA sB v txs := ⟨h.a, h.b, h.c, h.d, h1, h2, h.own, h.big, h.bel, h.ne, h.lt, h.ge, h.hw⟩
theorem SxJ.step (h : SxJ w W base ba bb bc bd s1 s2 s3 s4 v txs) (hb : Below W.heap.size W W') : SxJ w W' base ba bb bc bd s1 s2 s3 s4 v txs :=
  ⟨h.a.below hb, h.b.below hb, h.c.below hb, h.d.below hb, h.own.below hb, h.big, h.bel.trans (hb.mono h.bel.size), h.ne, h.lt, h.ge, Nat.le_trans h.hw hb.size⟩
theorem SxJ.butA (h : SxJ w W base ba bb bc bd s1 s2 s3 s4 v txs) (hx : BxAt W' ba s') (hb : But ba W W') : SxJ w W' base ba bb bc bd s' s2 s3 s4 v txs :=
  ⟨hx, (hb.block bb (blk_lt h.b) h.ne.1.symm).trans h.b, (hb.block bc (blk_lt h.c) h.ne.2.1.symm).trans h.c, (hb.block bd (blk_lt h.d) h.ne.2.2.1.symm).trans h.d, rbown_but h.own hb h.lt.1, h.big, h.bel.trans (hb.below h.ge.1 h.bel.size), h.ne, h.lt, h.ge, Nat.le_trans h.hw hb.size⟩
theorem SxJ.butB (h : SxJ w W base ba bb bc bd s1 s2 s3 s4 v txs) (hx : BxAt W' bb s') (hb : But bb W W') : SxJ w W' base ba bb bc bd s1 s' s3 s4 v txs :=
  ⟨(hb.block ba (blk_lt h.a) h.ne.1).trans h.a, hx, (hb.block bc (blk_lt h.c) h.ne.2.2.2.1.symm).trans h.c, (hb.block bd (blk_lt h.d) h.ne.2.2.2.2.1.symm).trans h.d, rbown_but h.own hb h.lt.2.1, h.big, h.bel.trans (hb.below h.ge.2.1 h.bel.size), h.ne, h.lt, h.ge, Nat.le_trans h.hw hb.size⟩
theorem SxJ.butC (h : SxJ w W base ba bb bc bd s1 s2 s3 s4 v txs) (hx : BrAt W' bc s') (hb : But bc W W') : SxJ w W' base ba bb bc bd s1 s2 s' s4 v txs :=
  ⟨(hb.block ba (blk_lt h.a) h.ne.2.1).trans h.a, (hb.block bb (blk_lt h.b) h.ne.2.2.2.1).trans h.b, hx, (hb.block bd (blk_lt h.d) h.ne.2.2.2.2.2.symm).trans h.d, rbown_but h.own hb h.lt.2.2.1, h.big, h.bel.trans (hb.below h.ge.2.2.1 h.bel.size), h.ne, h.lt, h.ge, Nat.le_trans h.hw hb.size⟩
theorem SxJ.butD (h : SxJ w W base ba bb bc bd s1 s2 s3 s4 v txs) (hx : BrAt W' bd s') (hb : But bd W W') : SxJ w W' base ba bb bc bd s1 s2 s3 s' v txs :=
  ⟨(hb.block ba (blk_lt h.a) h.ne.2.2.1).trans h.a, (hb.block bb (blk_lt h.b) h.ne.2.2.2.2.1).trans h.b, (hb.block bc (blk_lt h.c) h.ne.2.2.2.2.2).trans h.c, hx, rbown_but h.own hb h.lt.2.2.2, h.big, h.bel.trans (hb.below h.ge.2.2.2 h.bel.size), h.ne, h.lt, h.ge, Nat.le_trans h.hw hb.size⟩
theorem SxJ.app (h : SxJ w W base ba bb bc bd s1 s2 s3 s4 v txs) {v' : Value} {t : ByteArray} (ht : t.size ≤ maxLen) (ho : Own W' base v' (svs (txs ++ [t]))) (hg : W.grownBy W' v.ownBlock) : SxJ w W' base ba bb bc bd s1 s2 s3 s4 v' (txs ++ [t]) := by
  have hge := rbown_ge h.own
  have keep : ∀ k, k < base → k < W.heap.size → W'.heap[k]? = W.heap[k]? := fun k h1 h2 => hg.block k h2 (fun e => by have := hge k e.symm; omega)
  exact ⟨(keep ba h.lt.1 (blk_lt h.a)).trans h.a, (keep bb h.lt.2.1 (blk_lt h.b)).trans h.b, (keep bc h.lt.2.2.1 (blk_lt h.c)).trans h.c, (keep bd h.lt.2.2.2 (blk_lt h.d)).trans h.d, ho,
    fun x hx => by rcases List.mem_append.1 hx with hx | hx; exact h.big x hx; simp at hx; rw [hx]; exact ht,
    ⟨hg.os.trans h.bel.os, hg.tape.trans h.bel.tape, hg.output.trans h.bel.output, Nat.le_trans h.bel.size hg.size, fun k hk => (keep k (by have := h.ge.1; have := h.lt.1; omega) (Nat.lt_of_lt_of_le hk h.bel.size)).trans (h.bel.block k hk)⟩,
    h.ne, h.lt, h.ge, Nat.le_trans h.hw hg.size⟩
end
/-- What a good Seal says of its sizes. -/
theorem sel_good (s : BSt) (hok : BOk s) (k : Int) (d : ByteArray) (p : Int) (h : selE s k d p = 0) : 5 ≤ (selX s k d p).size ∧ (selX s k d p).size ≤ 20000 := by
  have hp : 0 ≤ p ∧ d.size ≤ 16384 ∧ p ≤ 16600 - (d.size : Int) := by
    unfold selE at h
    split at h; · exact absurd h (by decide)
    split at h; · exact absurd h (by decide)
    split at h; · exact absurd h (by decide)
    split at h; · exact absurd h (by decide)
    omega
  obtain ⟨q, rfl⟩ : ∃ q : Nat, p = (q : Int) := ⟨p.toNat, by omega⟩
  have := selX_size s hok k d q h
  omega
end Go.Proofs.YtffnafikegakcaaGreatDoor
