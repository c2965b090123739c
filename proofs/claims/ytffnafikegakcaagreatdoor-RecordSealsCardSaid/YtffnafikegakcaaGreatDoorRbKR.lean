/- What the laws that hold a box against the reference's want besides. -/
import Derived.Test.YtffnafikegakcaaGreatDoorRbK
import Derived.Test.YtffnafikegakcaaGreatDoorRbR
namespace Go.Proofs.YtffnafikegakcaaGreatDoor
open Go.RowKit Go.Sort
set_option maxRecDepth 100000
set_option linter.unusedSimpArgs false
set_option linter.unusedVariables false

theorem head23 (n : Nat) : #[Value.int .u8 23, .int .u8 3, .int .u8 3, .int .u8 ((wbyte n 8).toNat : Int), .int .u8 ((wbyte n 0).toNat : Int)] = bcells (headL 23 n) := by
  rw [← head_cells, show ((wbyte 23 0).toNat : Int) = 23 by decide +kernel]
theorem head23_text (n : Nat) (w : World) : (convert 46 9 (.slice (some ⟨w.heap.size, 0, none⟩) 5 5)).run Tryz.prog (w.alloc (.cells #[.int .u8 23, .int .u8 3, .int .u8 3, .int .u8 ((wbyte n 8).toNat : Int), .int .u8 ((wbyte n 0).toNat : Int)] 5)) = .ok (.string (headB 23 n)) (w.alloc (.cells #[.int .u8 23, .int .u8 3, .int .u8 3, .int .u8 ((wbyte n 8).toNat : Int), .int .u8 ((wbyte n 0).toNat : Int)] 5)) := by
  rw [head23]; exact head_text 23 n w
theorem seal_fine (s : BSt) (h : BOk s) (b p : ByteArray) : ∃ x : ByteArray, sealO s.suite s.key s.iv b p = (x, 0) ∧ x.size = p.size + 16 := by
  have hn := h.iv
  rcases h.su with ⟨h1, h2⟩ | ⟨h1, h2⟩ <;> rw [h1]
  · exact ⟨_, by rw [sealO, if_pos rfl, if_pos ⟨h2, hn⟩], by show (sealG _ _ _ _).length = _; rw [sealG_length, ← Lib.size_eq]⟩
  · exact ⟨_, by rw [sealO, if_neg (by decide), if_pos rfl, if_pos ⟨h2, hn⟩], by show (sealS _ _ _ _).length = _; rw [sealS_length, ← Lib.size_eq]⟩
theorem sel_n (s : BSt) (k : Int) (p : ByteArray) (q : Int) (h : s.n ≤ 65536) : (selS s k p q).n ≤ 65536 := by
  unfold selS
  split
  · rename_i he
    show s.n + 1 ≤ 65536
    have h2 : s.n ≠ 65536 := fun e => by
      unfold selE at he
      rw [if_pos e] at he
      repeat (split at he; · exact absurd he (by decide))
      exact absurd he (by decide)
    omega
  · exact h
theorem opn_n (s : BSt) (b : ByteArray) (h : s.n ≤ 65536) : (opnS s b).n ≤ 65536 := by
  unfold opnS
  split
  · rename_i he
    show s.n + 1 ≤ 65536
    have h2 : s.n ≠ 65536 := fun e => by unfold opnE at he; rw [if_pos e] at he; exact absurd he (by decide)
    omega
  · exact h
theorem sel_bok (s : BSt) (k : Int) (p : ByteArray) (q : Int) (h : BOk s) : BOk (selS s k p q) := by
  have hn := sel_n s k p q h.n
  unfold selS at hn ⊢
  split
  · rename_i he; rw [if_pos he] at hn; exact ⟨h.su, h.iv, hn⟩
  · exact h
theorem opn_bok (s : BSt) (b : ByteArray) (h : BOk s) : BOk (opnS s b) := by
  have hn := opn_n s b h.n
  unfold opnS at hn ⊢
  split
  · rename_i he; rw [if_pos he] at hn; exact ⟨h.su, h.iv, hn⟩
  · exact h
end Go.Proofs.YtffnafikegakcaaGreatDoor
