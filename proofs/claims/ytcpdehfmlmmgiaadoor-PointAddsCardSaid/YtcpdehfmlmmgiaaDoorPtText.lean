/- Points of texts: what they are where they are OK, and where not. No program. -/
import Derived.Test.YtcpdehfmlmmgiaaDoorPtEx
import Derived.Lib.Strings
namespace Go.Proofs.YtcpdehfmlmmgiaaDoor
set_option maxRecDepth 100000
set_option linter.unusedSimpArgs false
set_option linter.unusedVariables false

theorem ofET_ok (s : ByteArray) (h : ofET s = 0) : s.size = 32 ∧ isP s.data.toList = true := by
  unfold ofET at h
  by_cases hs : s.size = 32
  · rw [if_pos hs, ofE] at h
    refine ⟨hs, ?_⟩
    cases hi : isP s.data.toList
    · rw [hi] at h; exact absurd h (by decide)
    · rfl
  · rw [if_neg hs] at h; exact absurd h (by decide)
theorem ofPT_bad (s : ByteArray) (h : ofET s ≠ 0) : ofPT s = zeroP := by
  unfold ofET at h
  unfold ofPT
  by_cases hs : s.size = 32
  · rw [if_pos hs] at h ⊢
    rw [ofE] at h
    rw [ofP]
    cases hi : isP s.data.toList
    · rfl
    · rw [hi] at h; exact absurd rfl h
  · rw [if_neg hs]
theorem txt_back (s : ByteArray) (h : ofET s = 0) : txtP (ofPT s) = s := by
  obtain ⟨h1, h2⟩ := ofET_ok s h
  have hl : s.data.toList.length = 32 := by rw [← Lib.size_eq]; exact h1
  rw [txtP, ofPT, if_pos h1, bytes_back _ hl h2]
/-- A point that was read has 1 for its third number. -/
def Plain (p : PtN) : Prop := ∃ x y t, p = ⟨x, y, 1, t⟩ ∧ x < pF ∧ y < pF
theorem ofP_plain (l : List UInt8) (h : isP l = true) : Plain (ofP l) := by
  obtain ⟨h1, _, _⟩ := isP_parts l h
  exact ⟨xP l, lowP l, mulF (xP l) (lowP l), by rw [ofP, if_pos h], xP_lt l, h1⟩
/-- The point that the laws take: of what is no point the base. -/
def lawP (s : ByteArray) : PtN := if ofET s = 0 then ofPT s else baseP
theorem lawP_plain (s : ByteArray) : Plain (lawP s) := by
  unfold lawP
  split
  · rename_i h
    obtain ⟨h1, h2⟩ := ofET_ok s h
    rw [ofPT, if_pos h1]
    exact ofP_plain _ h2
  · exact ofP_plain _ base_is
theorem plain_zero (p : PtN) (h : Plain p) : txtP (sumP p zeroP) = txtP p := by
  obtain ⟨x, y, t, rfl, hx, hy⟩ := h
  rw [txtP, txtP, sum_zero x y t hx hy]
end Go.Proofs.YtcpdehfmlmmgiaaDoor
