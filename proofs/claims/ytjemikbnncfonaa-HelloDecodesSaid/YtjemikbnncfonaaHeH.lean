/- Decode of any bytes: the reference's. -/
import Derived.Test.YtjemikbnncfonaaHeO
import Derived.Test.YtjemikbnncfonaaHeG
namespace Go.Proofs.Ytjemikbnncfonaa
open Go.RowKit Go.Sort
set_option maxRecDepth 100000
set_option linter.unusedSimpArgs false
set_option linter.unusedVariables false

theorem rdecode_any (d : ByteArray) (w : World) (hs : d.size ≤ 100000) :
    Calls Try.prog 13 #[.string d] w fun e w' => (∃ ao c, e = decA d (decE d) ao c ∧ IntsAt w' ao (decM d).su ∧ (decM d).su.length ≤ c) ∧ Below w.heap.size w w' := by
  have hfew : (d.size < 4 ∨ 4096 < szH d ∨ d.size < 4 + szH d) → (decM d).su = [] := fun h => dec_none d (by
    unfold decE
    split
    · decide
    · split
      · decide
      · split
        · decide
        · omega)
  by_cases h : d.size < 4 ∨ 4096 < szH d ∨ d.size < 4 + szH d
  · refine (rdecFew d w h hs).mono ?_
    rintro e w' ⟨he, hb⟩
    exact ⟨⟨none, 0, he, by rw [hfew h]; exact IntsAt.nil _ _, by rw [hfew h]; exact Nat.le_refl 0⟩, hb⟩
  have h4 : ¬ d.size < 4 := by omega
  have h5 : ¬ 4096 < szH d := by omega
  have h6 : ¬ d.size < 4 + szH d := by omega
  by_cases k1 : kindH d = 1
  · by_cases h9 : 32 ≤ szH d
    · exact rdec1a d w h9 k1 h4 h5 h6 hs
    · exact rdec1b d w h9 k1 h4 h5 h6 hs
  by_cases k2 : kindH d = 2
  · by_cases h9 : 32 ≤ szH d
    · exact rdec2a d w h9 k2 h4 h5 h6 hs
    · exact rdec2b d w h9 k2 h4 h5 h6 hs
  by_cases k3 : kindH d = 11
  · by_cases h9 : 9 < szH d
    · exact rdec11a d w h9 k3 h4 h5 h6 hs
    · exact rdec11b d w h9 k3 h4 h5 h6 hs
  by_cases k4 : kindH d = 15
  · exact rdec15 d w k4 h4 h5 h6 hs
  by_cases k5 : kindH d = 20
  · exact rdec20 d w k5 h4 h5 h6 hs
  by_cases k6 : kindH d = 24
  · exact rdec24 d w k6 h4 h5 h6 hs
  exact rdecNo d w (kindH d) ⟨k1, k2, k3, k4, k5, k6⟩ rfl h4 h5 h6 hs
end Go.Proofs.Ytjemikbnncfonaa
