/- The program's points are what the laws ask for. -/
import Derived.Test.YtcpdehfmlmmgiaaDoorPpMul
import Derived.Test.YtcpdehfmlmmgiaaDoorPpByt
import Derived.Test.YtcpdehfmlmmgiaaDoorPpOf
import Derived.Test.YtcpdehfmlmmgiaaDoorPtWakeOf
namespace Go.Proofs.YtcpdehfmlmmgiaaDoor
open Go.RowKit Go.Sort
set_option maxRecDepth 100000
set_option linter.unusedSimpArgs false
set_option linter.unusedVariables false

theorem ptCalls : PtCalls IsPt zrow4 16 where
  info := infoPt
  zsize := uc_size _
  size := fun cs p h => by rw [h.2, uc_size, ptL_length]
  one := fun cs p h => by rw [h.2]; exact uc_one _
  first := fun cs p h => by
    refine ⟨.int .u64 ((ptL p).getD 0 0 : Nat), ?_, fun n e => by cases e⟩
    have hl := ptL_length p
    rw [h.2]
    generalize ptL p = l at *
    cases l with
    | nil => simp at hl
    | cons a l => simp [uc, nc]
  of := fun s w hT => (ptOf_any s w hT).mono fun e w' ⟨h1, h2⟩ => ⟨⟨_, h1, ofPT_ok s, rfl⟩, h2⟩
  bytes := fun cs p w h hT => by rw [h.2]; exact ptBytes_any p w h.1 hT
  add := fun cs ds p q w h k hT => by
    rw [h.2, k.2]
    exact (ptAdd_any p q w h.1 k.1 hT).mono fun e w' ⟨h1, h2⟩ => ⟨⟨_, h1, sumP_ok p q, rfl⟩, h2⟩
  neg := fun cs p w h hT => by
    rw [h.2]
    exact (ptNeg_any p w h.1 hT).mono fun e w' ⟨h1, h2⟩ => ⟨⟨_, h1, negP_ok p h.1, rfl⟩, h2⟩
  mul := fun cs p s w h hT => by
    rw [h.2]
    exact (ptMulT_any p s w h.1 hT).mono fun e w' ⟨h1, h2⟩ => ⟨⟨_, h1, mulPT_ok p s, rfl⟩, h2⟩
  base := fun w hT => (ptBase_any w hT).mono fun e w' ⟨h1, h2⟩ => ⟨⟨_, h1, baseP_ok, rfl⟩, h2⟩
  zero := fun w _ => (ptZero_any w).mono fun e w' ⟨h1, h2⟩ => ⟨⟨_, h1, zeroP_ok, rfl⟩, h2⟩
theorem ptawake_any (w : World) (hT : PrmQ w) :
    Calls Tryd.prog 15 #[] w fun e w' => e = .returned (.bool true) ∧ Below w.heap.size w w' := ptwake_of ptCalls w hT
end Go.Proofs.YtcpdehfmlmmgiaaDoor
