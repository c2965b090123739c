/- Small laws on worlds that the walks of this seat share: blocks behind new blocks, and a region that draws its order, reads, and calls what makes memory. -/
import Derived.Test.YtfidcdkoggfjaaaDoorRows
import Derived.WalkKit
import Derived.WalkSpells
import Derived.WalkLawsBesides
import Derived.Deep.QuietTactic
import Derived.BigQuiet
import Derived.Lib.QuietBelow
import Derived.Lib.Hide
import Derived.Deep.RegionHeld3
import Derived.Deep.WholeRow
import Derived.Laws.Rows
import Derived.Lib.Strings
import Derived.Laws.CopyOwn
namespace Go.Proofs.YtfidcdkoggfjaaaDoor
open Go.RowKit Go.Sort
set_option maxRecDepth 100000
set_option linter.unusedSimpArgs false
set_option linter.unusedVariables false

theorem blk_new (w : World) (o : Obj) : (w.alloc o).heap[w.heap.size]? = some o := by
  show (w.heap.push o)[w.heap.size]? = some o
  simp
theorem blk_old {w : World} {o x : Obj} {i : Nat} (h : w.heap[i]? = some x) : (w.alloc o).heap[i]? = some x := by
  have hi : i < w.heap.size := by
    rcases Nat.lt_or_ge i w.heap.size with h' | h'
    · exact h'
    · rw [Array.getElem?_eq_none h'] at h; cases h
  show (w.heap.push o)[i]? = some x
  rw [Array.getElem?_push, if_neg (Nat.ne_of_lt hi)]
  exact h
theorem blk_lt {W : World} {b : Nat} {o : Obj} (h : W.heap[b]? = some o) : b < W.heap.size := by
  rcases Nat.lt_or_ge b W.heap.size with h' | h'
  · exact h'
  · rw [Array.getElem?_eq_none h'] at h; cases h
theorem blk_below {W W' : World} {b B : Nat} {o : Obj} (hb : Below B W W') (hlt : b < B) (h : W.heap[b]? = some o) : W'.heap[b]? = some o := (hb.block b hlt).trans h
theorem blk_new2 (w : World) (P R : Obj) : ((w.alloc P).alloc R).heap[w.heap.size + 1]? = some R := by
  have := blk_new (w.alloc P) R
  simpa using this
theorem blk_new3 (w : World) (P R A : Obj) : (((w.alloc P).alloc R).alloc A).heap[w.heap.size + 1 + 1]? = some A := by
  have := blk_new ((w.alloc P).alloc R) A
  simpa using this
theorem below_new (w : World) (P : Obj) : Below w.heap.size w (w.alloc P) := (Below.refl _ _).alloc (Nat.le_refl _) _
theorem below_new2 (w : World) (P R : Obj) : Below w.heap.size w ((w.alloc P).alloc R) := (below_new w P).alloc (by simp) _
theorem below_new3 (w : World) (P R A : Obj) : Below w.heap.size w (((w.alloc P).alloc R).alloc A) := (below_new2 w P R).alloc (by simp; omega) _

/-- A region that draws, whose operations only read, and whose callees change nothing that was there: behind it, any such world. -/
theorem wp_region_reads {P : Program} {id : Nat} {Q : Exit → Act → World → Prop} {a : Act} {w : World} {l : List Oper} (hm : P.follows .mixedOrders = true) (hB : Region.lexB .any l.toArray = true)
    (h : wpQuiet P l.toArray (fun w' => ∃ p : Regrown, w' = grow (redrawn w p.d) p.os) (fun a' => ∀ w', Below w.heap.size w w' → Q .normal a' w') l a) : (Code.region id l.toArray true).wp P Q a w := by
  refine wp_region_quiet (C := fun w' => ∃ p : Regrown, w' = grow (redrawn w p.d) p.os) hm hB ⟨⟨w.drawn + 1, #[]⟩, by rw [grow_empty]; rfl⟩ ?_
  have e : (fun a' => ∀ w', Below w.heap.size w w' → Q .normal a' w') = (fun a' => ∀ w', (∃ p : Regrown, w' = grow (redrawn w p.d) p.os) → Q .normal a' w') := by
    funext a'
    refine propext ⟨fun h w' ⟨p, hp⟩ => h w' (hp ▸ below_regrown w p.d p.os), fun h w' hb => h w' (regrown_of_below hb)⟩
  rw [← e]
  simpa using h
end Go.Proofs.YtfidcdkoggfjaaaDoor
