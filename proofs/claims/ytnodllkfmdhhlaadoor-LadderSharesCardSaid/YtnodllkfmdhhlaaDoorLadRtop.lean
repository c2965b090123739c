/- The reference's Share and Public, for any two texts. -/
import Derived.Test.YtnodllkfmdhhlaaDoorLadRef
import Derived.Test.YtnodllkfmdhhlaaDoorLadTop
namespace Go.Proofs.YtnodllkfmdhhlaaDoor
open Go.RowKit Go.Sort
set_option maxRecDepth 100000
set_option linter.unusedSimpArgs false
set_option linter.unusedVariables false

theorem rshareT_any (s p : ByteArray) (w : World) :
    Calls Tryd.prog 8 #[.string s, .string p] w fun e w' => e = .returned (.tuple #[.string (shareX s p), .int .i64 (shareE s p)]) ∧ Below w.heap.size w w' := by
  by_cases h : s.size = 32 ∧ p.size = 32
  · rw [← ansL_eq s p h.1 h.2]
    exact rShare_any s p w h.1 h.2
  · have h' : s.size ≠ 32 ∨ p.size ≠ 32 := by omega
    rw [shareX, shareE, bad_eq s p h']
    exact (rShareBad_any s p w h').mono fun e w' ⟨h1, h2⟩ => ⟨h1, h2 ▸ Below.refl _ _⟩

set_option maxHeartbeats 1000000 in
theorem rpublicT_any (s : ByteArray) (w : World) :
    Calls Tryd.prog 11 #[.string s] w fun e w' => e = .returned (.tuple #[.string (shareX s nineT), .int .i64 (shareE s nineT)]) ∧ Below w.heap.size w w' := by
  have CS := Lib.hid (fun W => rshareT_any s nineT W)
  have hmk := make_nil w 31 31 rfl (by omega)
  have htx := text_nil (w.alloc (nilO 31)) w.heap.size 31 (blk_new w _)
  have hb := below_new w (nilO 31)
  have hns := nilB_size 31
  have hcat : (⟨#[9]⟩ : ByteArray) ++ nilB 31 = nineT := by decide
  generalize shareX s nineT = x at *
  generalize shareE s nineT = q at *
  generalize nineT = t at *
  generalize nilB 31 = n31 at *
  generalize nilO 31 = o31 at *
  go_enter Tryd.func11, Tryd.ntmps11
  go_wp2_with fail
  refine (CS.out _).mono ?_
  rintro e W3 ⟨rfl, b3⟩
  go_wp2_with fail
  go_ret2
  exact ⟨rfl, hb.trans (b3.mono hb.size)⟩
end Go.Proofs.YtnodllkfmdhhlaaDoor
