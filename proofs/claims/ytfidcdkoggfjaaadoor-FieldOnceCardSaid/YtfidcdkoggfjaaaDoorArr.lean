/- Arrays of bytes in memory and by value: one element, a part, the whole; bytes of a number laid into them. -/
import Derived.Test.YtfidcdkoggfjaaaDoorBytes
import Derived.Laws.Tables
import Derived.Laws.ResultCell
namespace Go.Proofs.YtfidcdkoggfjaaaDoor
open Go.RowKit Go.Sort
set_option maxRecDepth 100000
set_option linter.unusedSimpArgs false
set_option linter.unusedVariables false

theorem arr_one (l : List UInt8) : (bcells l).all (·.oneCell') = true := by
  rw [Array.all_eq_true]
  intro i hi
  simp [bcells, Lib.byteCells, Value.oneCell']
theorem arr_sizeOf {e : TypeId} (hs : (Tryd.prog.info? e).map (·.size) = some 1) (w : World) : (sizeOf e).run Tryd.prog w = .ok 1 w := by
  cases hq : Tryd.prog.info? e with
  | none => simp [hq] at hs
  | some i => simp [hq] at hs; simp [sizeOf, typeInfo, hq, hs]
theorem arr_index {P : Program} (t e : TypeId) (n k : Nat) (cs : Array Value) (x : Value) (hu : P.underlying t = some (.array n e)) (hs : (P.info? e).map (·.size) = some 1) (ha : ∀ w, (isAgg e).run P w = .ok false w) (hk : k < n) (hx : cs[k]? = some x) (w : World) :
    (Instr.index t (.agg cs) (.int .i64 (k : Int))).run P w = .ok x w := by
  have hn : (0 : Int) ≤ (k : Int) ∧ (k : Int) < (n : Int) := by omega
  have hsz : ∀ w, (sizeOf e).run P w = .ok 1 w := fun w => by
    cases hq : P.info? e with
    | none => simp [hq] at hs
    | some i => simp [hq] at hs; simp [sizeOf, typeInfo, hq, hs]
  simp [Instr.index, run_underlying hu, asIntOf, hn, go_sem, part, hsz, ha, hx]
  intro h; omega
theorem arr_sliced_at (t : TypeId) (n a i j : Nat) (ht : Tryd.prog.underlying t = some (.array (Tryd.prog.arrayLen t) (Tryd.prog.elem t))) (hn : Tryd.prog.arrayLen t = n) (hs : (Tryd.prog.info? (Tryd.prog.elem t)).map (·.size) = some 1) (hij : i ≤ j) (hj : j ≤ n) (hi : i < n) (x y : Int) (hx : x = (i : Int)) (hy : y = (j : Int)) (w : World) :
    (Instr.sliceAt t (.pointer (some ⟨a, 0, none⟩)) (some (.int .i64 x)) (some (.int .i64 y)) none).run Tryd.prog w = .ok (.slice (some ⟨a, i, none⟩) (j - i) (n - i)) w := by
  subst hx hy
  rw [run_sliceAt_array_lh w t ⟨a, 0, none⟩ ht .i64 .i64 (i : Int) (j : Int) (by omega) (by omega) (by rw [hn]; omega), arr_sizeOf hs, hn]
  simp only [Result.andThen_ok, slicedAt, Int.toNat_natCast, Nat.mul_one]
  by_cases he : n = i
  · omega
  · rw [if_neg he, Addr.add_lit, Nat.zero_add]
theorem arr_sliced_all (t : TypeId) (n a : Nat) (ht : Tryd.prog.underlying t = some (.array (Tryd.prog.arrayLen t) (Tryd.prog.elem t))) (hn : Tryd.prog.arrayLen t = n) (hs : (Tryd.prog.info? (Tryd.prog.elem t)).map (·.size) = some 1) (hp : 0 < n) (w : World) :
    (Instr.sliceAt t (.pointer (some ⟨a, 0, none⟩)) none none none).run Tryd.prog w = .ok (.slice (some ⟨a, 0, none⟩) n n) w := by
  rw [run_sliceAt_array_all w t ⟨a, 0, none⟩ ht, arr_sizeOf hs, hn]
  simp only [Result.andThen_ok, slicedAt, Nat.sub_zero]
  rw [if_neg (by omega), Addr.add_lit]
/-- A whole row that was there, in every world of the class. -/
theorem arr_row_regrown {P : Program} {w : World} (ty : TypeId) (g : Nat) (t : TypeId) (cs : Array Value) (fr : Nat × Nat) (d : TypeDesc) (hg : w.heap[g]? = some (.cells cs t fr))
    (hu : P.underlying ty = some d) (hd : (match d with | .struct _ | .array _ _ => true | _ => false) = true) (hi : (P.info? ty).map (·.size) = some cs.size) (n : Nat) (os : Array Obj) :
    (Instr.loadAt ty (.pointer (some ⟨g, 0, none⟩))).run P (grow (redrawn w n) os) = .ok (.agg cs) (grow (redrawn w n) os) := by
  have hg' : (grow (redrawn w n) os).heap[g]? = some (.cells cs t fr) := ((below_regrown w n os).block g (blk_lt hg)).trans hg
  simp only [Instr.loadAt, Instr.sureAddr, Sem.run_bind, Sem.run_pure, Result.andThen_ok, run_loadVar_row _ g t ty cs fr d hg' hu hd hi]
theorem arr_quiet_load {P : Program} {ops : Array Oper} {w : World} {Q : Act → Prop} {a : Act} {o : Oper} {rest : List Oper} (hw : Region.wanted o (yielded ops a.tmps) = true) (ty : TypeId) (x : Operand) (ho : o.op = .load ty x)
    (p : Addr) (hx : a.eval x = .pointer (some p)) (cs : Array Value) (hl : ∀ n os, (Instr.loadAt ty (.pointer (some p))).run P (grow (redrawn w n) os) = .ok (.agg cs) (grow (redrawn w n) os))
    (h : wpQuiet P ops (fun w' => ∃ p : Regrown, w' = grow (redrawn w p.d) p.os) Q rest (a.put o.dst (.agg cs))) : wpQuiet P ops (fun w' => ∃ p : Regrown, w' = grow (redrawn w p.d) p.os) Q (o :: rest) a := by
  refine BigFrame.wpQuiet_want hw fun K hK => ⟨.agg cs, fun w' hw' => ?_, hK _ h⟩
  obtain ⟨p, rfl⟩ := hw'
  unfold Oper.quietAt execOp
  simp only [ho, hx, Sem.run_bind, Result.andThen_ok, hl p.d p.os]
  exact ⟨rfl, rfl⟩

/-- Bytes with so many of a number's at a place. -/
def putA (l : List UInt8) (off : Nat) (v : Int) : Nat → List UInt8
  | 0 => l
  | k + 1 => (putA l off v k).set (off + k) (wbyte v (8 * k))
theorem putA_length (l : List UInt8) (off : Nat) (v : Int) (k : Nat) : (putA l off v k).length = l.length := by
  induction k with
  | zero => rfl
  | succ k ih => rw [putA, List.length_set, ih]
theorem putA_get (l : List UInt8) (off : Nat) (v : Int) (i : Nat) : ∀ k, off + k ≤ l.length → (putA l off v k).getD i 0 = if off ≤ i ∧ i < off + k then wbyte v (8 * (i - off)) else l.getD i 0
  | 0, _ => by rw [putA, if_neg (by omega)]
  | k + 1, h => by
    rw [putA, List.getD_eq_getElem?_getD, List.getElem?_set]
    by_cases hi : off + k = i
    · subst hi
      rw [if_pos rfl, if_pos (show off + k < (putA l off v k).length by rw [putA_length]; omega), if_pos (by omega)]
      simp
    · rw [if_neg hi, ← List.getD_eq_getElem?_getD, putA_get l off v i k (by omega)]
      by_cases h1 : off ≤ i ∧ i < off + k
      · rw [if_pos h1, if_pos (by omega)]
      · rw [if_neg h1, if_neg (by omega)]
/-- A list of so many bytes, byte by byte. -/
theorem bytes_ext {l m : List UInt8} {n : Nat} (hl : l.length = n) (hm : m.length = n) (h : ∀ i, i < n → l.getD i 0 = m.getD i 0) : l = m := by
  apply List.ext_getElem?
  intro i
  by_cases hi : i < n
  · have := h i hi
    rw [List.getD_eq_getElem?_getD, List.getD_eq_getElem?_getD, List.getElem?_eq_getElem (by omega), List.getElem?_eq_getElem (by omega)] at this
    rw [List.getElem?_eq_getElem (by omega), List.getElem?_eq_getElem (by omega)]
    simpa using this
  · rw [List.getElem?_eq_none (by omega), List.getElem?_eq_none (by omega)]
theorem range_getD (f : Nat → UInt8) (n i : Nat) (h : i < n) : ((List.range n).map f).getD i 0 = f i := by simp [List.getD_eq_getElem?_getD, h]
theorem bcell_at {W : World} {b : Nat} {l : List UInt8} {T : TypeId} {fr : Nat × Nat} (h : W.heap[b]? = some (.cells (bcells l) T fr)) (j : Nat) (hj : j < l.length) : W.cell? ⟨b, j, none⟩ = some (.int .u8 ((l.getD j 0).toNat : Int)) := by
  rw [cell_of_row W _ _ _ _ _ h]
  exact bcells_get l j _ (by rw [List.getD_eq_getElem?_getD, List.getElem?_eq_getElem hj]; rfl)
theorem bheap_set {W : World} {b : Nat} {l : List UInt8} {T : TypeId} (h : W.heap[b]? = some (.cells (bcells l) T)) (j : Nat) (x : UInt8) : (W.setCell ⟨b, j, none⟩ (.int .u8 (x.toNat : Int))).heap[b]? = some (.cells (bcells (l.set j x)) T) := by rw [← bcells_set]; exact Go.heap_setCell_same _ _ _ _ _ _ h
end Go.Proofs.YtfidcdkoggfjaaaDoor
