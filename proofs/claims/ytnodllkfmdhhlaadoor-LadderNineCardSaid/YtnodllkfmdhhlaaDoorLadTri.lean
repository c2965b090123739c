/- Three neighbours of the ladder: what the products of the outer two are. In any ring without divisors of nought. No program. -/
import Derived.Test.YtnodllkfmdhhlaaDoorLadSpec
namespace Go.Proofs.YtnodllkfmdhhlaaDoor
set_option maxRecDepth 100000
set_option linter.unusedSimpArgs false
set_option linter.unusedVariables false

section
variable {R : Type} [Lean.Grind.CommRing R]
/-- The three coefficients of the form whose roots are the two neighbours of (x : z). -/
def alZ (x z : R) : R := (x - 9 * z) * (x - 9 * z)
def beZ (x z : R) : R := (x + 9 * z) * (9 * x + z) + 8759916 * (x * z)
def gaZ (x z : R) : R := (9 * x - z) * (9 * x - z)
/-- Twice a point, and the sum of two whose difference is (9 : 1). -/
def dblX (x z : R) : R := (x * x - z * z) * (x * x - z * z)
def dblZ (x z : R) : R := 4 * (x * z) * (x * x + 486662 * (x * z) + z * z)
def addX (x z a b : R) : R := 4 * ((x * a - z * b) * (x * a - z * b))
def addZ (x z a b : R) : R := 36 * ((x * b - z * a) * (x * b - z * a))
def phiZ (x z a b : R) : R := alZ x z * (a * a) - 2 * beZ x z * (a * b) + gaZ x z * (b * b)

theorem tri_E (x z : R) : 2 * (x * z) * beZ x z - z * z * gaZ x z - x * x * alZ x z = -(dblX x z - 9 * dblZ x z) := by
  unfold alZ beZ gaZ dblX dblZ; grind
theorem tri_D (x z : R) : x * x * gaZ x z - 2 * (x * z) * beZ x z + z * z * alZ x z = 9 * (9 * dblX x z - dblZ x z) := by
  unfold alZ beZ gaZ dblX dblZ; grind
theorem tri_H (x z : R) : 4 * (((x * x + z * z) * beZ x z - x * z * (gaZ x z + alZ x z)) * ((x * x + z * z) * beZ x z - x * z * (gaZ x z + alZ x z))) - 18 * ((9 * dblX x z - dblZ x z) * (dblX x z - 9 * dblZ x z)) = 18 * beZ (dblX x z) (dblZ x z) := by
  unfold alZ beZ gaZ dblX dblZ; grind
/-- An odd one between two doubles. -/
theorem odd_al (x z a b : R) : alZ (addX x z a b) (addZ x z a b) - 1296 * (dblZ x z * dblZ a b) = phiZ x z a b * (16 * (17519832 * (a * b * (x * z)) + 81 * (a * a * (z * z)) + 18 * (a * a * (x * z)) + a * a * (x * x) - 162 * (a * b * (x * z)) + 18 * (a * b * (x * x)) + 18 * (a * b * (z * z)) - 2 * (a * b * (x * z)) + 81 * (b * b * (x * x)) + 18 * (b * b * (x * z)) + b * b * (z * z))) := by
  unfold phiZ alZ beZ gaZ addX addZ dblZ; grind
theorem odd_ga (x z a b : R) : gaZ (addX x z a b) (addZ x z a b) = 1296 * (dblX x z * dblX a b) := by
  unfold gaZ addX addZ dblX; grind
theorem odd_be (x z a b : R) : 1296 * (dblX x z * dblZ a b + dblX a b * dblZ x z) - 2 * beZ (addX x z a b) (addZ x z a b) = phiZ x z a b * (-288 * (a * a * (x * x) + a * a * (z * z) - 4 * (a * b * (x * z)) + b * b * (x * x) + b * b * (z * z))) := by
  unfold phiZ alZ beZ gaZ addX addZ dblX dblZ; grind

/-- (x : z) between (x0 : z0) and (x2 : z2). -/
def triZ (x0 z0 x z x2 z2 : R) : Prop := ∃ m k : R, m ≠ 0 ∧ k ≠ 0 ∧ m * (z0 * z2) = k * alZ x z ∧ m * (x0 * z2 + x2 * z0) = k * (2 * beZ x z) ∧ m * (x0 * x2) = k * gaZ x z
theorem tri_one : triZ (1 : R) 0 9 1 (dblX 9 1) (dblZ 9 1) ↔ ∃ m k : R, m ≠ 0 ∧ k ≠ 0 ∧ 0 = 0 ∧ m * dblZ (9 : R) 1 = k * (2 * beZ 9 1) ∧ m * dblX (9 : R) 1 = k * gaZ 9 1 := by
  unfold triZ
  have e : alZ (9 : R) 1 = 0 := by unfold alZ; grind
  rw [e]
  constructor
  · rintro ⟨m, k, h1, h2, _, h4, h5⟩
    exact ⟨m, k, h1, h2, rfl, by grind, by grind⟩
  · rintro ⟨m, k, h1, h2, _, h4, h5⟩
    exact ⟨m, k, h1, h2, by grind, by grind, by grind⟩
/-- Each of the outer two is a root. -/
theorem phi_of_tri (hR : ∀ a b : R, a * b = 0 → a = 0 ∨ b = 0) {x0 z0 x z x2 z2 : R} (h : triZ x0 z0 x z x2 z2) : phiZ x z x2 z2 = 0 := by
  obtain ⟨m, k, hm, hk, h1, h2, h3⟩ := h
  have e : k * phiZ x z x2 z2 = 0 := by
    have : k * phiZ x z x2 z2 = (k * alZ x z) * (x2 * x2) - (k * (2 * beZ x z)) * (x2 * z2) + (k * gaZ x z) * (z2 * z2) := by unfold phiZ; grind
    rw [this, ← h1, ← h2, ← h3]
    grind
  rcases hR _ _ e with h | h
  · exact absurd h hk
  · exact h
/-- An even one between two sums. -/
theorem tri_even (hR : ∀ a b : R, a * b = 0 → a = 0 ∨ b = 0) (h36 : (1296 : R) ≠ 0) {x0 z0 x z x2 z2 : R} (h : triZ x0 z0 x z x2 z2) :
    triZ (addX x0 z0 x z) (addZ x0 z0 x z) (dblX x z) (dblZ x z) (addX x z x2 z2) (addZ x z x2 z2) := by
  obtain ⟨m, k, hm, hk, h1, h2, h3⟩ := h
  have tE := tri_E x z; have tD := tri_D x z; have tH := tri_H x z
  have nz : ∀ a b : R, a ≠ 0 → b ≠ 0 → a * b ≠ 0 := fun a b ha hb h => (hR a b h).elim ha hb
  have hE : m * ((x0 * z - z0 * x) * (x * z2 - z * x2)) = -(k * (dblX x z - 9 * dblZ x z)) := by
    have : m * ((x0 * z - z0 * x) * (x * z2 - z * x2)) = x * z * (m * (x0 * z2 + x2 * z0)) - z * z * (m * (x0 * x2)) - x * x * (m * (z0 * z2)) := by grind
    rw [this, h1, h2, h3]
    have : x * z * (k * (2 * beZ x z)) - z * z * (k * gaZ x z) - x * x * (k * alZ x z) = k * (2 * (x * z) * beZ x z - z * z * gaZ x z - x * x * alZ x z) := by grind
    rw [this, tE]
    grind
  have hD : m * ((x0 * x - z0 * z) * (x * x2 - z * z2)) = k * (9 * (9 * dblX x z - dblZ x z)) := by
    have : m * ((x0 * x - z0 * z) * (x * x2 - z * z2)) = x * x * (m * (x0 * x2)) - x * z * (m * (x0 * z2 + x2 * z0)) + z * z * (m * (z0 * z2)) := by grind
    rw [this, h1, h2, h3]
    have : x * x * (k * gaZ x z) - x * z * (k * (2 * beZ x z)) + z * z * (k * alZ x z) = k * (x * x * gaZ x z - 2 * (x * z) * beZ x z + z * z * alZ x z) := by grind
    rw [this, tD]
  have hH : m * ((x0 * x - z0 * z) * (x * z2 - z * x2) - (x * x2 - z * z2) * (x0 * z - z0 * x)) = k * (2 * ((x * x + z * z) * beZ x z - x * z * (gaZ x z + alZ x z))) := by
    have : m * ((x0 * x - z0 * z) * (x * z2 - z * x2) - (x * x2 - z * z2) * (x0 * z - z0 * x)) = (x * x + z * z) * (m * (x0 * z2 + x2 * z0)) - 2 * (x * z) * (m * (x0 * x2)) - 2 * (x * z) * (m * (z0 * z2)) := by grind
    rw [this, h1, h2, h3]
    grind
  refine ⟨m * m, 1296 * (k * k), nz _ _ hm hm, nz _ _ h36 (nz _ _ hk hk), ?_, ?_, ?_⟩
  · generalize dblX x z = X at *
    generalize dblZ x z = Z at *
    have : m * m * (addZ x0 z0 x z * addZ x z x2 z2) = 1296 * ((m * ((x0 * z - z0 * x) * (x * z2 - z * x2))) * (m * ((x0 * z - z0 * x) * (x * z2 - z * x2)))) := by unfold addZ; grind
    rw [this, hE]
    unfold alZ
    grind
  · generalize (x * x + z * z) * beZ x z - x * z * (gaZ x z + alZ x z) = B at *
    generalize dblX x z = X at *
    generalize dblZ x z = Z at *
    have : m * m * (addX x0 z0 x z * addZ x z x2 z2 + addX x z x2 z2 * addZ x0 z0 x z) = 144 * ((m * ((x0 * x - z0 * z) * (x * z2 - z * x2) - (x * x2 - z * z2) * (x0 * z - z0 * x))) * (m * ((x0 * x - z0 * z) * (x * z2 - z * x2) - (x * x2 - z * z2) * (x0 * z - z0 * x))) + 2 * ((m * ((x0 * x - z0 * z) * (x * x2 - z * z2))) * (m * ((x0 * z - z0 * x) * (x * z2 - z * x2))))) := by
      unfold addX addZ; grind
    rw [this, hE, hD, hH]
    have : 144 * (k * (2 * B) * (k * (2 * B)) + 2 * (k * (9 * (9 * X - Z)) * -(k * (X - 9 * Z)))) = 144 * (k * k) * (4 * (B * B) - 18 * ((9 * X - Z) * (X - 9 * Z))) := by grind
    rw [this, tH]
    grind
  · generalize dblX x z = X at *
    generalize dblZ x z = Z at *
    have : m * m * (addX x0 z0 x z * addX x z x2 z2) = 16 * ((m * ((x0 * x - z0 * z) * (x * x2 - z * z2))) * (m * ((x0 * x - z0 * z) * (x * x2 - z * z2)))) := by unfold addX; grind
    rw [this, hD]
    unfold gaZ
    grind
/-- An odd one between two doubles. -/
theorem tri_odd (h36 : (1296 : R) ≠ 0) (h1 : (1 : R) ≠ 0) {x z a b : R} (h : phiZ x z a b = 0) :
    triZ (dblX x z) (dblZ x z) (addX x z a b) (addZ x z a b) (dblX a b) (dblZ a b) := by
  have e1 := odd_al x z a b
  have e2 := odd_be x z a b
  have e3 := odd_ga x z a b
  rw [h] at e1 e2
  refine ⟨1296, 1, h36, h1, ?_, ?_, ?_⟩
  · generalize dblZ x z = p at *; generalize dblZ a b = q at *
    grind
  · generalize dblZ x z = p at *; generalize dblZ a b = q at *; generalize dblX x z = r at *; generalize dblX a b = s at *
    grind
  · rw [e3]; grind
end
end Go.Proofs.YtnodllkfmdhhlaaDoor
