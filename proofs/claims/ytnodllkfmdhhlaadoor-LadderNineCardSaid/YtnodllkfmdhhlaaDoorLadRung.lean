/- A rung as the program keeps it: sixteen words; its parts read where they lie, its four numbers put together. -/
import Derived.Test.YtnodllkfmdhhlaaDoorFldP
import Derived.Test.YtnodllkfmdhhlaaDoorLadSpec
namespace Go.Proofs.YtnodllkfmdhhlaaDoor
open Go.RowKit Go.Sort
set_option maxRecDepth 100000
set_option linter.unusedSimpArgs false
set_option linter.unusedVariables false

/-- The words of four numbers. -/
def rl (a b c d : Nat) : List Nat := limN 4 a ++ limN 4 b ++ limN 4 c ++ limN 4 d
theorem rl_length (a b c d : Nat) : (rl a b c d).length = 16 := by simp [rl, limN_length]
def zeros16 : Array Value := uc (List.replicate 16 0)
theorem infoR : (Tryd.prog.info? 53).map (fun i => (i.zero, i.size)) = some (some (.agg zeros16), 16) := by kernel_rfl
theorem sizeR (a b c d : Nat) : (Tryd.prog.info? 53).map (·.size) = some (uc (rl a b c d)).size := by rw [uc_size, rl_length]; exact (zero_of_info infoR).2
theorem zerosR_size (a b c d : Nat) : zeros16.size = (uc (rl a b c d)).size := by rw [uc_size, rl_length]; exact uc_size _
theorem part_at (A B C : List Nat) : ((A ++ B ++ C).drop A.length).take B.length = B := by simp [List.append_assoc]
theorem rl_0 (a b c d : Nat) : ((rl a b c d).drop 0).take 4 = limN 4 a := by
  have := part_at [] (limN 4 a) (limN 4 b ++ limN 4 c ++ limN 4 d)
  rw [limN_length] at this
  rwa [rl, List.append_assoc, List.append_assoc, ← List.append_assoc (limN 4 b)]
theorem rl_1 (a b c d : Nat) : ((rl a b c d).drop 4).take 4 = limN 4 b := by
  have := part_at (limN 4 a) (limN 4 b) (limN 4 c ++ limN 4 d)
  rw [limN_length, limN_length] at this
  rwa [rl, List.append_assoc (limN 4 a ++ limN 4 b)]
theorem rl_2 (a b c d : Nat) : ((rl a b c d).drop 8).take 4 = limN 4 c := by
  have := part_at (limN 4 a ++ limN 4 b) (limN 4 c) (limN 4 d)
  rw [List.length_append, limN_length, limN_length, limN_length] at this
  exact this
theorem rl_3 (a b c d : Nat) : ((rl a b c d).drop 12).take 4 = limN 4 d := by
  have := part_at (limN 4 a ++ limN 4 b ++ limN 4 c) (limN 4 d) []
  rw [List.length_append, List.length_append, limN_length, limN_length, limN_length, limN_length, List.append_nil] at this
  exact this
theorem build_rung (a b c d : Nat) (w : World) : (Instr.build 53 #[(0, .agg (uc (limN 4 a))), (1, .agg (uc (limN 4 b))), (2, .agg (uc (limN 4 c))), (3, .agg (uc (limN 4 d)))]).run Tryd.prog w = .ok (.agg (uc (rl a b c d))) w := by
  unfold rl
  obtain ⟨a1, a2, a3, a4, ha⟩ := list4 (limN 4 a) (limN_length _ _)
  obtain ⟨b1, b2, b3, b4, hb⟩ := list4 (limN 4 b) (limN_length _ _)
  obtain ⟨c1, c2, c3, c4, hc⟩ := list4 (limN 4 c) (limN_length _ _)
  obtain ⟨d1, d2, d3, d4, hd⟩ := list4 (limN 4 d) (limN_length _ _)
  rw [ha, hb, hc, hd]
  exact run_build w 53 _ _ (by kernel_rfl)
theorem build_rung0 (a c d : Nat) (w : World) : (Instr.build 53 #[(0, .agg (uc (limN 4 a))), (2, .agg (uc (limN 4 c))), (3, .agg (uc (limN 4 d)))]).run Tryd.prog w = .ok (.agg (uc (rl a 0 c d))) w := by
  unfold rl
  obtain ⟨a1, a2, a3, a4, ha⟩ := list4 (limN 4 a) (limN_length _ _)
  obtain ⟨c1, c2, c3, c4, hc⟩ := list4 (limN 4 c) (limN_length _ _)
  obtain ⟨d1, d2, d3, d4, hd⟩ := list4 (limN 4 d) (limN_length _ _)
  rw [ha, hc, hd, show limN 4 0 = [0, 0, 0, 0] by decide]
  exact run_build w 53 _ _ (by kernel_rfl)
/-- A number that lies within other words. -/
theorem run_loadVar_num (w : World) (g off : Nat) (t : TypeId) (l m : List Nat) (fr : Nat × Nat) (hg : w.heap[g]? = some (.cells (uc l) t fr)) (hm : m.length = 4) (hp : (l.drop off).take 4 = m) :
    (loadVar 36 ⟨g, off, none⟩).run Tryd.prog w = .ok (.agg (uc m)) w := by
  have hlen : (m.map fun n : Nat => Value.int .u64 (n : Int)).length = 4 := by simp [hm]
  have hl : (loadCells ⟨g, off, none⟩ (m.map fun n : Nat => Value.int .u64 (n : Int)).length).run Tryd.prog w = .ok (m.map fun n : Nat => Value.int .u64 (n : Int)).toArray w :=
    run_loadCells_list (P := Tryd.prog) w ⟨g, off, none⟩ (m.map fun n : Nat => Value.int .u64 (n : Int)) (fun j v hv => by
      have hadd : (⟨g, off, none⟩ : Addr).add j = ⟨g, off + j, none⟩ := by unfold Addr.add; split <;> simp_all
      have hj : j < 4 := by have := (List.getElem?_eq_some_iff.1 hv).1; omega
      simp only [List.getElem?_map, Option.map_eq_some_iff] at hv
      obtain ⟨x, hx, rfl⟩ := hv
      rw [← hp, List.getElem?_take, if_pos hj, List.getElem?_drop] at hx
      rw [hadd, cell_of_row w g _ _ t fr hg]
      simp [uc, nc, hx])
  rw [hlen] at hl
  have hi := (zero_of_info infoF).2
  cases hq : Tryd.prog.info? 36 with
  | none => simp [hq] at hi
  | some i =>
    have hs : i.size = 4 := by simpa [hq] using hi
    have hagg : (isAgg 36).run Tryd.prog w = .ok true w := by
      unfold isAgg
      rw [Sem.run_bind, run_underlying Tryd.underlying36 w]
      rfl
    simp [loadVar, Sem.run_bind, hagg, sizeOf, typeInfo, hq, hs, hl]
    rfl
theorem sQuiet_load_num {o : Oper} {a : Act} {w : World} (x : Operand) (ho : o.op = .load 36 x) (g off : Nat) (hx : a.eval x = .pointer (some ⟨g, off, none⟩)) (t : TypeId) (l m : List Nat) (fr : Nat × Nat)
    (hg : w.heap[g]? = some (.cells (uc l) t fr)) (hm : m.length = 4) (hp : (l.drop off).take 4 = m) : sQuiet Tryd.prog w (.agg (uc m)) ((execOp a.eval o).run Tryd.prog w) := by
  unfold execOp
  simp only [ho, hx, Instr.loadAt, Instr.sureAddr, Sem.run_bind, Sem.run_pure, Result.andThen_ok, run_loadVar_num w g off t l m fr hg hm hp]
  exact ⟨rfl, rfl⟩
theorem sQuiet_built {P : Program} {o : Oper} {a : Act} {w : World} (t : TypeId) (parts : Array (Nat × Operand)) (ho : o.op = .build t parts) (cells : Array Value)
    (hb : (Instr.build t (parts.map fun (i, x) => (i, a.eval x))).run P w = .ok (.agg cells) w) : sQuiet P w (.agg cells) ((execOp a.eval o).run P w) := by
  unfold execOp
  simp only [ho, Sem.run_bind, hb, Result.andThen_ok]
  exact ⟨rfl, rfl⟩
theorem sQuiet_build_rung {o : Oper} {a : Act} {w : World} (x y z v : Operand) (ho : o.op = .build 53 #[(0, x), (1, y), (2, z), (3, v)]) (p q r s : Nat)
    (hx : a.eval x = .agg (uc (limN 4 p))) (hy : a.eval y = .agg (uc (limN 4 q))) (hz : a.eval z = .agg (uc (limN 4 r))) (hv : a.eval v = .agg (uc (limN 4 s))) : sQuiet Tryd.prog w (.agg (uc (rl p q r s))) ((execOp a.eval o).run Tryd.prog w) :=
  sQuiet_built 53 _ ho _ (by
    have e : (#[(0, x), (1, y), (2, z), (3, v)] : Array (Nat × Operand)).map (fun (i, x) => (i, a.eval x)) = #[(0, a.eval x), (1, a.eval y), (2, a.eval z), (3, a.eval v)] := by simp
    rw [e, hx, hy, hz, hv]; exact build_rung p q r s w)
theorem wpList_build_rung0 {ops : Array Oper} {rest : List Oper} {o : Oper} {a : Act} {w : World} {Q : Exit → Act → World → Prop} (hg : o.guard = none) (x y z : Operand) (ho : o.op = .build 53 #[(0, x), (2, y), (3, z)]) (p q r : Nat)
    (hx : a.eval x = .agg (uc (limN 4 p))) (hy : a.eval y = .agg (uc (limN 4 q))) (hz : a.eval z = .agg (uc (limN 4 r)))
    (h : wpList Tryd.prog ops Q rest (a.put o.dst (.agg (uc (rl p 0 q r)))) w) : wpList Tryd.prog ops Q (o :: rest) a w :=
  wpList_plain hg fun _ hK => wp_built 53 _ ho _ (by
    have e : (#[(0, x), (2, y), (3, z)] : Array (Nat × Operand)).map (fun (i, x) => (i, a.eval x)) = #[(0, a.eval x), (2, a.eval y), (3, a.eval z)] := by simp
    rw [e, hx, hy, hz]; exact build_rung0 p q r w) (hK _ _ h)
/-- What an exchange comes to. -/
theorem exch_zero (x : Nat) (hx : x < pF) (y : Nat) : addF x (mulF 0 y) = x ∧ subF x (mulF 0 y) = x := by
  have h0 : mulF 0 y = 0 := by rw [mulF, Nat.zero_mul, Nat.zero_mod]
  rw [h0, addF, subF, Nat.add_zero, Nat.sub_zero, Nat.add_mod_right, Nat.mod_eq_of_lt hx]
  exact ⟨rfl, rfl⟩
theorem exch_one (x y : Nat) (hx : x < pF) (hy : y < pF) : addF x (mulF 1 (subF y x)) = y ∧ subF y (mulF 1 (subF y x)) = x := by
  have h1 : mulF 1 (subF y x) = subF y x := by rw [mulF, Nat.one_mul, Nat.mod_eq_of_lt (subF_lt _ _)]
  rw [h1, addF]
  unfold subF
  by_cases h : x ≤ y
  · rw [show y + (pF - x) = (y - x) + pF by omega, Nat.add_mod_right, Nat.mod_eq_of_lt (show y - x < pF by omega)]
    refine ⟨by rw [show x + (y - x) = y by omega, Nat.mod_eq_of_lt hy], ?_⟩
    rw [show y + (pF - (y - x)) = x + pF by omega, Nat.add_mod_right, Nat.mod_eq_of_lt hx]
  · rw [Nat.mod_eq_of_lt (show y + (pF - x) < pF by omega)]
    refine ⟨by rw [show x + (y + (pF - x)) = y + pF by omega, Nat.add_mod_right, Nat.mod_eq_of_lt hy], ?_⟩
    rw [show y + (pF - (y + (pF - x))) = x by omega, Nat.mod_eq_of_lt hx]
end Go.Proofs.YtnodllkfmdhhlaaDoor
