/- A slice of two blocks, built. -/
import Derived.Test.YtoejkiblampecaaDoorGcmXor
import Derived.Great.BuildSlice
namespace Go.Proofs.YtoejkiblampecaaDoor
open Go.RowKit Go.Sort
set_option maxRecDepth 100000
set_option linter.unusedSimpArgs false
set_option linter.unusedVariables false

theorem gsixteen (l : List UInt8) (h : l.length = 16) : ∃ a b c d e f g i j k m n o p q r, l = [a, b, c, d, e, f, g, i, j, k, m, n, o, p, q, r] := by
  match l, h with
  | [a, b, c, d, e, f, g, i, j, k, m, n, o, p, q, r], _ => exact ⟨a, b, c, d, e, f, g, i, j, k, m, n, o, p, q, r, rfl⟩
theorem two_blocks (ct : List UInt8) (h : ct.length = 16) (W : World) : (Instr.buildSlice 56 2 #[(0, .agg gzeros), (1, .agg (bcells ct))]).run Tryd.prog W = .ok (.slice (some ⟨W.heap.size, 0, none⟩) 2 2) (W.alloc (.cells (bcells (zeroB ++ ct)) 35)) := by
  obtain ⟨i0, hi0, hz0, hz1, hz2⟩ := info_parts binfo_block
  refine run_buildSlice W 56 35 2 _ _ i0 (.agg gzeros) Tryd.underlying56 hi0 hz0 (by rw [hz1]; omega) (by rw [hz1]; omega) ?_
  rw [hz1]
  show Instr.fill _ (madeCells (Value.agg gzeros).cells (2 * 16)) _ = _
  rw [made_blocks 2]
  obtain ⟨a, b, c, d, e, f, g, i, j, k, m, n, o, p, q, r, rfl⟩ := gsixteen ct h
  simp [Instr.fill, Value.cells, gzeros, zeroB, bcells, Lib.byteCells, List.replicate]
theorem wpList_two {ops : Array Oper} {rest : List Oper} {o : Oper} {a : Act} {w : World} {Q : Exit → Act → World → Prop} (hg : o.guard = none) (x y : Operand) (ho : o.op = .buildSlice 56 2 #[(0, x), (1, y)])
    (ct : List UInt8) (hct : ct.length = 16) (hx : a.eval x = .agg gzeros) (hy : a.eval y = .agg (bcells ct))
    (h : wpList Tryd.prog ops Q rest (a.put o.dst (.slice (some ⟨w.heap.size, 0, none⟩) 2 2)) (w.alloc (.cells (bcells (zeroB ++ ct)) 35))) : wpList Tryd.prog ops Q (o :: rest) a w :=
  wpList_plain hg fun _ hK => by
    unfold Oper.wp execOp
    simp only [ho, Sem.run_bind, List.map_toArray, List.map_cons, List.map_nil, hx, hy, two_blocks ct hct w, Result.andThen_ok]
    exact hK _ _ h
end Go.Proofs.YtoejkiblampecaaDoor
