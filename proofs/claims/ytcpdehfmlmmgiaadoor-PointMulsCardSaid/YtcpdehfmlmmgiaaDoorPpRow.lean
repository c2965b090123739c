/- Points as the program keeps them: sixteen words; their parts read where they lie, four numbers put together. -/
import Derived.Test.YtcpdehfmlmmgiaaDoorFldL
import Derived.Test.YtcpdehfmlmmgiaaDoorPtEx
namespace Go.Proofs.YtcpdehfmlmmgiaaDoor
open Go.RowKit Go.Sort
set_option maxRecDepth 100000
set_option linter.unusedSimpArgs false
set_option linter.unusedVariables false

/-- The words of four numbers. -/
def row4 (a b c d : Nat) : List Nat := limN 4 a ++ limN 4 b ++ limN 4 c ++ limN 4 d
theorem row4_length (a b c d : Nat) : (row4 a b c d).length = 16 := by simp [row4, limN_length]
def zrow4 : Array Value := uc (List.replicate 16 0)
theorem infoNs : (Tryd.prog.info? 57).map (fun i => (i.zero, i.size)) = some (some (.agg zrow4), 16) := by kernel_rfl
theorem infoPt : (Tryd.prog.info? 28).map (fun i => (i.zero, i.size)) = some (some (.agg zrow4), 16) := by kernel_rfl
theorem sizeNs (l : List Nat) (h : l.length = 16) : (Tryd.prog.info? 57).map (·.size) = some (uc l).size := by rw [uc_size, h]; exact (zero_of_info infoNs).2
theorem sizePt (l : List Nat) (h : l.length = 16) : (Tryd.prog.info? 28).map (·.size) = some (uc l).size := by rw [uc_size, h]; exact (zero_of_info infoPt).2
theorem zrow4_size (l : List Nat) (h : l.length = 16) : zrow4.size = (uc l).size := by rw [uc_size, h]; exact uc_size _
theorem rows_size (l m : List Nat) (h : l.length = 16) (k : m.length = 16) : (uc l).size = (uc m).size := by rw [uc_size, uc_size, h, k]
theorem zrow4_row : zrow4 = uc (row4 0 0 0 0) := rfl
theorem row_part (A B C : List Nat) : ((A ++ B ++ C).drop A.length).take B.length = B := by simp [List.append_assoc]
theorem row4_0 (a b c d : Nat) : ((row4 a b c d).drop 0).take 4 = limN 4 a := by
  have := row_part [] (limN 4 a) (limN 4 b ++ limN 4 c ++ limN 4 d)
  rw [limN_length] at this
  rwa [row4, List.append_assoc, List.append_assoc, ← List.append_assoc (limN 4 b)]
theorem row4_1 (a b c d : Nat) : ((row4 a b c d).drop 4).take 4 = limN 4 b := by
  have := row_part (limN 4 a) (limN 4 b) (limN 4 c ++ limN 4 d)
  rw [limN_length, limN_length] at this
  rwa [row4, List.append_assoc (limN 4 a ++ limN 4 b)]
theorem row4_2 (a b c d : Nat) : ((row4 a b c d).drop 8).take 4 = limN 4 c := by
  have := row_part (limN 4 a ++ limN 4 b) (limN 4 c) (limN 4 d)
  rw [List.length_append, limN_length, limN_length, limN_length] at this
  exact this
theorem row4_3 (a b c d : Nat) : ((row4 a b c d).drop 12).take 4 = limN 4 d := by
  have := row_part (limN 4 a ++ limN 4 b ++ limN 4 c) (limN 4 d) []
  rw [List.length_append, List.length_append, limN_length, limN_length, limN_length, limN_length, List.append_nil] at this
  exact this
theorem four_of (l : List Nat) (h : l.length = 4) : ∃ a b c d, l = [a, b, c, d] := by
  match l, h with
  | [a, b, c, d], _ => exact ⟨a, b, c, d, rfl⟩
theorem build_ns (a b c d : Nat) (w : World) : (Instr.build 57 #[(0, .agg (uc (limN 4 a))), (1, .agg (uc (limN 4 b))), (2, .agg (uc (limN 4 c))), (3, .agg (uc (limN 4 d)))]).run Tryd.prog w = .ok (.agg (uc (row4 a b c d))) w := by
  unfold row4
  obtain ⟨a1, a2, a3, a4, ha⟩ := four_of (limN 4 a) (limN_length _ _)
  obtain ⟨b1, b2, b3, b4, hb⟩ := four_of (limN 4 b) (limN_length _ _)
  obtain ⟨c1, c2, c3, c4, hc⟩ := four_of (limN 4 c) (limN_length _ _)
  obtain ⟨d1, d2, d3, d4, hd⟩ := four_of (limN 4 d) (limN_length _ _)
  rw [ha, hb, hc, hd]
  exact run_build w 57 _ _ (by kernel_rfl)
theorem build_point4 (a b c d : Nat) (w : World) : (Instr.build 28 #[(0, .agg (uc (limN 4 a))), (1, .agg (uc (limN 4 b))), (2, .agg (uc (limN 4 c))), (3, .agg (uc (limN 4 d)))]).run Tryd.prog w = .ok (.agg (uc (row4 a b c d))) w := by
  unfold row4
  obtain ⟨a1, a2, a3, a4, ha⟩ := four_of (limN 4 a) (limN_length _ _)
  obtain ⟨b1, b2, b3, b4, hb⟩ := four_of (limN 4 b) (limN_length _ _)
  obtain ⟨c1, c2, c3, c4, hc⟩ := four_of (limN 4 c) (limN_length _ _)
  obtain ⟨d1, d2, d3, d4, hd⟩ := four_of (limN 4 d) (limN_length _ _)
  rw [ha, hb, hc, hd]
  exact run_build w 28 _ _ (by kernel_rfl)
theorem build_point0 (w : World) : (Instr.build 28 #[]).run Tryd.prog w = .ok (.agg (uc (row4 0 0 0 0))) w := by
  rw [← zrow4_row]
  exact run_build w 28 _ _ (by kernel_rfl)
/-- A number that lies within other words. -/
theorem run_load_in4 (w : World) (g off : Nat) (t : TypeId) (l m : List Nat) (fr : Nat × Nat) (hg : w.heap[g]? = some (.cells (uc l) t fr)) (hm : m.length = 4) (hp : (l.drop off).take 4 = m) :
    (loadVar 26 ⟨g, off, none⟩).run Tryd.prog w = .ok (.agg (uc m)) w := by
  have hlen : (m.map fun n : Nat => Value.int .u64 (n : Int)).length = 4 := by simp [hm]
  have hl : (loadCells ⟨g, off, none⟩ (m.map fun n : Nat => Value.int .u64 (n : Int)).length).run Tryd.prog w = .ok (m.map fun n : Nat => Value.int .u64 (n : Int)).toArray w :=
    run_loadCells_list (P := Tryd.prog) w ⟨g, off, none⟩ (m.map fun n : Nat => Value.int .u64 (n : Int)) (fun j v hv => by
      have hadd : (⟨g, off, none⟩ : Addr).add j = ⟨g, off + j, none⟩ := by unfold Addr.add; split <;> simp_all
      have hj : j < 4 := by have := (List.getElem?_eq_some_iff.1 hv).1; omega
      simp only [List.getElem?_map, Option.map_eq_some_iff] at hv
      obtain ⟨x, hx, rfl⟩ := hv
      rw [← hp, List.getElem?_take, if_pos hj, List.getElem?_drop] at hx
      rw [hadd, cell_of_row w g _ _ t fr hg]
      simp [uc, nc, hx])
  rw [hlen] at hl
  have hi := (zero_of_info infoF).2
  cases hq : Tryd.prog.info? 26 with
  | none => simp [hq] at hi
  | some i =>
    have hs : i.size = 4 := by simpa [hq] using hi
    have hagg : (isAgg 26).run Tryd.prog w = .ok true w := by
      unfold isAgg
      rw [Sem.run_bind, run_underlying Tryd.underlying26 w]
      rfl
    simp [loadVar, Sem.run_bind, hagg, sizeOf, typeInfo, hq, hs, hl]
    rfl
theorem sQuiet_load_in4 {o : Oper} {a : Act} {w : World} (x : Operand) (ho : o.op = .load 26 x) (g off : Nat) (hx : a.eval x = .pointer (some ⟨g, off, none⟩)) (t : TypeId) (l m : List Nat) (fr : Nat × Nat)
    (hg : w.heap[g]? = some (.cells (uc l) t fr)) (hm : m.length = 4) (hp : (l.drop off).take 4 = m) : sQuiet Tryd.prog w (.agg (uc m)) ((execOp a.eval o).run Tryd.prog w) := by
  unfold execOp
  simp only [ho, hx, Instr.loadAt, Instr.sureAddr, Sem.run_bind, Sem.run_pure, Result.andThen_ok, run_load_in4 w g off t l m fr hg hm hp]
  exact ⟨rfl, rfl⟩
theorem wpList_load_in4 {ops : Array Oper} {rest : List Oper} {o : Oper} {a : Act} {w : World} {Q : Exit → Act → World → Prop} (hgd : o.guard = none) (x : Operand) (ho : o.op = .load 26 x) (g off : Nat) (hx : a.eval x = .pointer (some ⟨g, off, none⟩)) (t : TypeId) (l m : List Nat) (fr : Nat × Nat)
    (hg : w.heap[g]? = some (.cells (uc l) t fr)) (hm : m.length = 4) (hp : (l.drop off).take 4 = m)
    (h : wpList Tryd.prog ops Q rest (a.put o.dst (.agg (uc m))) w) : wpList Tryd.prog ops Q (o :: rest) a w :=
  wpList_plain hgd fun _ hK => by
    unfold Oper.wp execOp
    simp only [ho, hx, Instr.loadAt, Instr.sureAddr, Sem.run_bind, Sem.run_pure, Result.andThen_ok, run_load_in4 w g off t l m fr hg hm hp]
    exact hK _ _ h
theorem sQuiet_put4 {P : Program} {o : Oper} {a : Act} {w : World} (t : TypeId) (parts : Array (Nat × Operand)) (ho : o.op = .build t parts) (cells : Array Value)
    (hb : (Instr.build t (parts.map fun (i, x) => (i, a.eval x))).run P w = .ok (.agg cells) w) : sQuiet P w (.agg cells) ((execOp a.eval o).run P w) := by
  unfold execOp
  simp only [ho, Sem.run_bind, hb, Result.andThen_ok]
  exact ⟨rfl, rfl⟩
theorem sQuiet_build_ns {o : Oper} {a : Act} {w : World} (x y z v : Operand) (ho : o.op = .build 57 #[(0, x), (1, y), (2, z), (3, v)]) (p q r s : Nat)
    (hx : a.eval x = .agg (uc (limN 4 p))) (hy : a.eval y = .agg (uc (limN 4 q))) (hz : a.eval z = .agg (uc (limN 4 r))) (hv : a.eval v = .agg (uc (limN 4 s))) : sQuiet Tryd.prog w (.agg (uc (row4 p q r s))) ((execOp a.eval o).run Tryd.prog w) :=
  sQuiet_put4 57 _ ho _ (by
    have e : (#[(0, x), (1, y), (2, z), (3, v)] : Array (Nat × Operand)).map (fun (i, x) => (i, a.eval x)) = #[(0, a.eval x), (1, a.eval y), (2, a.eval z), (3, a.eval v)] := by simp
    rw [e, hx, hy, hz, hv]; exact build_ns p q r s w)
theorem sQuiet_build_point4 {o : Oper} {a : Act} {w : World} (x y z v : Operand) (ho : o.op = .build 28 #[(0, x), (1, y), (2, z), (3, v)]) (p q r s : Nat)
    (hx : a.eval x = .agg (uc (limN 4 p))) (hy : a.eval y = .agg (uc (limN 4 q))) (hz : a.eval z = .agg (uc (limN 4 r))) (hv : a.eval v = .agg (uc (limN 4 s))) : sQuiet Tryd.prog w (.agg (uc (row4 p q r s))) ((execOp a.eval o).run Tryd.prog w) :=
  sQuiet_put4 28 _ ho _ (by
    have e : (#[(0, x), (1, y), (2, z), (3, v)] : Array (Nat × Operand)).map (fun (i, x) => (i, a.eval x)) = #[(0, a.eval x), (1, a.eval y), (2, a.eval z), (3, a.eval v)] := by simp
    rw [e, hx, hy, hz, hv]; exact build_point4 p q r s w)
theorem sQuiet_num0 {o : Oper} {a : Act} {w : World} (ho : o.op = .build 26 #[]) : sQuiet Tryd.prog w (.agg (uc (limN 4 0))) ((execOp a.eval o).run Tryd.prog w) :=
  sQuiet_put4 26 _ ho _ (by rw [← zeros4_lim, Array.map_empty]; exact build_zero w)
theorem wpList_build_point0 {ops : Array Oper} {rest : List Oper} {o : Oper} {a : Act} {w : World} {Q : Exit → Act → World → Prop} (hg : o.guard = none) (ho : o.op = .build 28 #[])
    (h : wpList Tryd.prog ops Q rest (a.put o.dst (.agg (uc (row4 0 0 0 0)))) w) : wpList Tryd.prog ops Q (o :: rest) a w :=
  wpList_plain hg fun _ hK => wp_built 28 _ ho _ (by
    rw [Array.map_empty]; exact build_point0 w) (hK _ _ h)
theorem blk_fourth (w : World) (P R A Q : Obj) : ((((w.alloc P).alloc R).alloc A).alloc Q).heap[w.heap.size + 1 + 1 + 1]? = some Q := by
  have h := blk_new (((w.alloc P).alloc R).alloc A) Q
  simpa using h
theorem below_four (w : World) (P R A Q : Obj) : Below w.heap.size w ((((w.alloc P).alloc R).alloc A).alloc Q) := (below_new3 w P R A).alloc (by simp; omega) _

/-- The words of a point's numbers, and of what the program keeps of it: the numbers less those of Zero. -/
def numL (p : PtN) : List Nat := row4 p.x p.y p.z p.t
def offP (p : PtN) : PtN := ⟨p.x, subF p.y 1, subF p.z 1, p.t⟩
def ptL (p : PtN) : List Nat := row4 p.x (subF p.y 1) (subF p.z 1) p.t
theorem numL_length (p : PtN) : (numL p).length = 16 := row4_length _ _ _ _
theorem ptL_length (p : PtN) : (ptL p).length = 16 := row4_length _ _ _ _
theorem add_sub (a b : Nat) (ha : a < pF) (hb : b < pF) : addF (subF a b) b = a := by
  unfold addF subF
  by_cases h : b ≤ a
  · rw [show a + (pF - b) = (a - b) + pF by omega, Nat.add_mod_right, Nat.mod_eq_of_lt (show a - b < pF by omega), show a - b + b = a by omega, Nat.mod_eq_of_lt ha]
  · rw [Nat.mod_eq_of_lt (show a + (pF - b) < pF by omega), show a + (pF - b) + b = a + pF by omega, Nat.add_mod_right, Nat.mod_eq_of_lt ha]
theorem ptL_zero : ptL zeroP = row4 0 0 0 0 := by
  rw [ptL, zeroP]
  show row4 0 (subF 1 1) (subF 1 1) 0 = _
  rw [sub_self 1 (by decide)]
/-- What the program's points are. -/
def IsPt (cs : Array Value) (p : PtN) : Prop := p.Ok ∧ cs = uc (ptL p)
end Go.Proofs.YtcpdehfmlmmgiaaDoor
