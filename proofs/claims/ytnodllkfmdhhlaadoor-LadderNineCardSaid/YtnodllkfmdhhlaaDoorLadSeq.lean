/- The ladder's points one by one: three neighbours always; none is (0 : 0); where one is at infinity the points come again. In any ring without divisors of nought. No program. -/
import Derived.Test.YtnodllkfmdhhlaaDoorLadTri
namespace Go.Proofs.YtnodllkfmdhhlaaDoor
set_option maxRecDepth 100000
set_option linter.unusedSimpArgs false
set_option linter.unusedVariables false

section
variable {R : Type} [Lean.Grind.CommRing R]
/-- What is asked of the ring. -/
structure LadRing (R : Type) [Lean.Grind.CommRing R] : Prop where
  dom : ∀ a b : R, a * b = 0 → a = 0 ∨ b = 0
  one : (1 : R) ≠ 0
  two : (2 : R) ≠ 0
  three : (3 : R) ≠ 0
  plus : (486664 : R) ≠ 0
  minus : (486660 : R) ≠ 0
theorem LadRing.nz (h : LadRing R) {a b : R} (ha : a ≠ 0) (hb : b ≠ 0) : a * b ≠ 0 := fun e => (h.dom a b e).elim ha hb
theorem LadRing.n4 (h : LadRing R) : (4 : R) ≠ 0 := by
  have e : (2 : R) * 2 = 4 := by grind
  rw [← e]; exact h.nz h.two h.two
theorem LadRing.n36 (h : LadRing R) : (36 : R) ≠ 0 := by
  have e : (4 : R) * (3 * 3) = 36 := by grind
  rw [← e]; exact h.nz h.n4 (h.nz h.three h.three)
theorem LadRing.n1296 (h : LadRing R) : (1296 : R) ≠ 0 := by
  have e : (36 : R) * 36 = 1296 := by grind
  rw [← e]; exact h.nz h.n36 h.n36
/-- The points. -/
def ptZ (R : Type) [Lean.Grind.CommRing R] : Nat → R × R
  | 0 => (1, 0)
  | 1 => (9, 1)
  | n + 2 => if n % 2 = 0 then (dblX (ptZ R ((n + 2) / 2)).1 (ptZ R ((n + 2) / 2)).2, dblZ (ptZ R ((n + 2) / 2)).1 (ptZ R ((n + 2) / 2)).2)
    else (addX (ptZ R ((n + 2) / 2)).1 (ptZ R ((n + 2) / 2)).2 (ptZ R ((n + 2) / 2 + 1)).1 (ptZ R ((n + 2) / 2 + 1)).2, addZ (ptZ R ((n + 2) / 2)).1 (ptZ R ((n + 2) / 2)).2 (ptZ R ((n + 2) / 2 + 1)).1 (ptZ R ((n + 2) / 2 + 1)).2)
decreasing_by all_goals omega
theorem ptZ_zero : ptZ R 0 = (1, 0) := by rw [ptZ]
theorem ptZ_one : ptZ R 1 = (9, 1) := by rw [ptZ]
theorem ptZ_even (n : Nat) (h : 1 ≤ n) : ptZ R (2 * n) = (dblX (ptZ R n).1 (ptZ R n).2, dblZ (ptZ R n).1 (ptZ R n).2) := by
  obtain ⟨k, rfl⟩ : ∃ k, n = k + 1 := ⟨n - 1, by omega⟩
  rw [show 2 * (k + 1) = 2 * k + 2 by omega, ptZ, if_pos (by omega), show (2 * k + 2) / 2 = k + 1 by omega]
theorem ptZ_odd (n : Nat) (h : 1 ≤ n) : ptZ R (2 * n + 1) = (addX (ptZ R n).1 (ptZ R n).2 (ptZ R (n + 1)).1 (ptZ R (n + 1)).2, addZ (ptZ R n).1 (ptZ R n).2 (ptZ R (n + 1)).1 (ptZ R (n + 1)).2) := by
  obtain ⟨k, rfl⟩ : ∃ k, n = k + 1 := ⟨n - 1, by omega⟩
  rw [show 2 * (k + 1) + 1 = (2 * k + 1) + 2 by omega, ptZ, if_neg (by omega), show (2 * k + 1 + 2) / 2 = k + 1 by omega]
def triP (p q r : R × R) : Prop := triZ p.1 p.2 q.1 q.2 r.1 r.2
theorem tri_scale (h : LadRing R) {c x0 z0 x z x2 z2 : R} (hc : c ≠ 0) (ht : triZ (c * x0) (c * z0) x z x2 z2) : triZ x0 z0 x z x2 z2 := by
  obtain ⟨m, k, hm, hk, h1, h2, h3⟩ := ht
  exact ⟨m * c, k, h.nz hm hc, hk, by rw [← h1]; grind, by rw [← h2]; grind, by rw [← h3]; grind⟩
theorem tri_all (h : LadRing R) (n : Nat) (hn : 1 ≤ n) : triP (ptZ R (n - 1)) (ptZ R n) (ptZ R (n + 1)) := by
  induction n using Nat.strongRecOn with
  | _ n ih =>
    by_cases h1 : n = 1
    · subst h1
      have e2 : ptZ R (1 + 1) = (dblX 9 1, dblZ 9 1) := by rw [show 1 + 1 = 2 * 1 from rfl, ptZ_even 1 (by omega), ptZ_one]
      rw [e2, ptZ_one, show 1 - 1 = 0 from rfl, ptZ_zero]
      refine ⟨1, 1, h.one, h.one, ?_, ?_, ?_⟩
      · unfold alZ; grind
      · unfold beZ dblZ; grind
      · unfold gaZ dblX; grind
    · by_cases he : n % 2 = 0
      · obtain ⟨j, rfl⟩ : ∃ j, n = 2 * j := ⟨n / 2, by omega⟩
        have hj := tri_even h.dom h.n1296 (ih j (by omega) (by omega))
        rw [ptZ_even j (by omega), ptZ_odd j (by omega)]
        by_cases hj1 : j = 1
        · subst hj1
          rw [show 2 * 1 - 1 = 1 from rfl, ptZ_one]
          rw [show 1 - 1 = 0 from rfl, ptZ_zero, ptZ_one] at hj
          refine tri_scale h h.n36 ?_
          have a1 : addX (1 : R) 0 9 1 = 36 * 9 := by unfold addX; grind
          have a2 : addZ (1 : R) 0 9 1 = 36 * 1 := by unfold addZ; grind
          rw [← a1, ← a2]
          exact hj
        · rw [show 2 * j - 1 = 2 * (j - 1) + 1 by omega, ptZ_odd (j - 1) (by omega), show j - 1 + 1 = j by omega]
          exact hj
      · obtain ⟨j, rfl⟩ : ∃ j, n = 2 * j + 1 := ⟨n / 2, by omega⟩
        have hj := tri_odd h.n1296 h.one (phi_of_tri h.dom (ih j (by omega) (by omega)))
        rw [show 2 * j + 1 - 1 = 2 * j by omega, show 2 * j + 1 + 1 = 2 * (j + 1) by omega, ptZ_even j (by omega), ptZ_even (j + 1) (by omega), ptZ_odd j (by omega)]
        exact hj
/-- None is (0 : 0). -/
def okZ (p : R × R) : Prop := ¬ (p.1 = 0 ∧ p.2 = 0)
theorem sq_zero (h : LadRing R) {a : R} (e : a * a = 0) : a = 0 := (h.dom a a e).elim id id
theorem dbl_ok (h : LadRing R) {x z : R} (hp : ¬ (x = 0 ∧ z = 0)) : ¬ (dblX x z = 0 ∧ dblZ x z = 0) := by
  rintro ⟨e1, e2⟩
  have e1 : x * x - z * z = 0 := sq_zero h e1
  have e1 : (x - z) * (x + z) = 0 := by rw [← e1]; grind
  unfold dblZ at e2
  rcases h.dom _ _ e1 with e | e
  · have : x = z := by grind
    subst this
    have : 4 * 486664 * (x * x) * (x * x) = 0 := by rw [← e2]; grind
    rcases h.dom _ _ this with e3 | e3
    · rcases h.dom _ _ e3 with e4 | e4
      · exact h.nz h.n4 h.plus e4
      · exact hp ⟨sq_zero h e4, sq_zero h e4⟩
    · exact hp ⟨sq_zero h e3, sq_zero h e3⟩
  · have : x = -z := by grind
    subst this
    have : 4 * 486660 * (z * z) * (z * z) = 0 := by rw [← e2]; grind
    have hz : z = 0 := by
      rcases h.dom _ _ this with e3 | e3
      · rcases h.dom _ _ e3 with e4 | e4
        · exact absurd e4 (h.nz h.n4 h.minus)
        · exact sq_zero h e4
      · exact sq_zero h e3
    exact hp ⟨by rw [hz]; grind, hz⟩
theorem add_ok (h : LadRing R) {x z a b : R} (hp : ¬ (x = 0 ∧ z = 0)) (hq : ¬ (a = 0 ∧ b = 0)) (hf : phiZ x z a b = 0) : ¬ (addX x z a b = 0 ∧ addZ x z a b = 0) := by
  rintro ⟨e1, e2⟩
  have e1 : x * a - z * b = 0 := sq_zero h ((h.dom _ _ e1).elim (fun e => absurd e h.n4) id)
  have e2 : x * b - z * a = 0 := sq_zero h ((h.dom _ _ e2).elim (fun e => absurd e h.n36) id)
  have k1 : x * (a * a - b * b) = 0 := by
    have : x * (a * a - b * b) = a * (x * a - z * b) - b * (x * b - z * a) := by grind
    rw [this, e1, e2]; grind
  have k2 : z * (a * a - b * b) = 0 := by
    have : z * (a * a - b * b) = b * (x * a - z * b) - a * (x * b - z * a) := by grind
    rw [this, e1, e2]; grind
  have k3 : a * a - b * b = 0 := by
    rcases h.dom _ _ k1 with e | e
    · rcases h.dom _ _ k2 with e' | e'
      · exact absurd ⟨e, e'⟩ hp
      · exact e'
    · exact e
  have k4 : (a - b) * (a + b) = 0 := by rw [← k3]; grind
  have fin : ∀ c : R, c ≠ 0 → c * ((x * x) * (b * b)) = 0 → x = 0 ∨ b = 0 := fun c hc e => by
    rcases h.dom _ _ e with e | e
    · exact absurd e hc
    · rcases h.dom _ _ e with e | e
      · exact .inl (sq_zero h e)
      · exact .inr (sq_zero h e)
  unfold phiZ alZ beZ gaZ at hf
  rcases h.dom _ _ k4 with e | e
  · have ab : a = b := by grind
    subst ab
    have xz : a * (x - z) = 0 := by rw [← e2]; grind
    rcases h.dom _ _ xz with e3 | e3
    · exact hq ⟨e3, e3⟩
    · have : x = z := by grind
      subst this
      rcases fin (36 * 486664) (h.nz h.n36 h.plus) (by have : 36 * 486664 * (x * x * (a * a)) = -0 := by rw [← hf]; grind
                                                       rw [this]; grind) with e4 | e4
      · exact hp ⟨e4, e4⟩
      · exact hq ⟨e4, e4⟩
  · have ab : a = -b := by grind
    subst ab
    have xz : b * (x + z) = 0 := by rw [← e2]; grind
    rcases h.dom _ _ xz with e3 | e3
    · exact hq ⟨by rw [e3]; grind, e3⟩
    · have : z = -x := by grind
      subst this
      rcases fin (36 * 486660) (h.nz h.n36 h.minus) (by have : 36 * 486660 * (x * x * (b * b)) = -0 := by rw [← hf]; grind
                                                        rw [this]; grind) with e4 | e4
      · exact hp ⟨e4, by rw [e4]; grind⟩
      · exact hq ⟨by rw [e4]; grind, e4⟩
theorem pt_ok (h : LadRing R) (n : Nat) : okZ (ptZ R n) := by
  induction n using Nat.strongRecOn with
  | _ n ih =>
    by_cases h0 : n = 0
    · subst h0; rw [ptZ_zero]; exact fun e => h.one e.1
    · by_cases h1 : n = 1
      · subst h1; rw [ptZ_one]; exact fun e => h.one e.2
      · by_cases he : n % 2 = 0
        · obtain ⟨j, rfl⟩ : ∃ j, n = 2 * j := ⟨n / 2, by omega⟩
          rw [ptZ_even j (by omega)]
          exact dbl_ok h (ih j (by omega))
        · obtain ⟨j, rfl⟩ : ∃ j, n = 2 * j + 1 := ⟨n / 2, by omega⟩
          rw [ptZ_odd j (by omega)]
          exact add_ok h (ih j (by omega)) (ih (j + 1) (by omega)) (phi_of_tri h.dom (tri_all h j (by omega)))
theorem sub_eq_zero' (a b : R) (h : a - b = 0) : a = b := by grind
theorem add_mul_zero' (a b : R) : a + b * 0 = a := by grind
theorem mul_zero_add' (a b : R) : a * 0 + b = b := by grind
/-- The same ratio. -/
def sameP (p q : R × R) : Prop := ∃ y w : R, y ≠ 0 ∧ w ≠ 0 ∧ y * p.1 = w * q.1 ∧ y * p.2 = w * q.2
theorem same_zero (h : LadRing R) {p q : R × R} (hs : sameP p q) : p.2 = 0 ↔ q.2 = 0 := by
  obtain ⟨y, w, hy, hw, _, e⟩ := hs
  constructor
  · intro hp
    rw [hp] at e
    exact (h.dom w q.2 (by rw [← e]; grind)).elim (fun e => absurd e hw) id
  · intro hq
    rw [hq] at e
    exact (h.dom y p.2 (by rw [e]; grind)).elim (fun e => absurd e hy) id
theorem same_next (h : LadRing R) {p0 p p2 q0 q q2 : R × R} (hp : triP p0 p p2) (hq : triP q0 q q2) (h0 : sameP p0 q0) (h1 : sameP p q) (hok : okZ p0) : sameP p2 q2 := by
  obtain ⟨m, k, hm, hk, a1, a2, a3⟩ := hp
  obtain ⟨m', k', hm', hk', b1, b2, b3⟩ := hq
  obtain ⟨e, f, he, hf, c1, c2⟩ := h0
  obtain ⟨y, w, hy, hw, d1, d2⟩ := h1
  obtain ⟨x0, z0⟩ := p0; obtain ⟨x, z⟩ := p; obtain ⟨x2, z2⟩ := p2
  obtain ⟨u0, v0⟩ := q0; obtain ⟨u, v⟩ := q; obtain ⟨u2, v2⟩ := q2
  dsimp only at *
  have al : y * y * alZ x z = w * w * alZ u v := by
    have : y * y * alZ x z = (y * x - 9 * (y * z)) * (y * x - 9 * (y * z)) := by unfold alZ; grind
    rw [this, d1, d2]; unfold alZ; grind
  have be : y * y * beZ x z = w * w * beZ u v := by
    have : y * y * beZ x z = (y * x + 9 * (y * z)) * (9 * (y * x) + y * z) + 8759916 * ((y * x) * (y * z)) := by unfold beZ; grind
    rw [this, d1, d2]; unfold beZ; grind
  have ga : y * y * gaZ x z = w * w * gaZ u v := by
    have : y * y * gaZ x z = (9 * (y * x) - y * z) * (9 * (y * x) - y * z) := by unfold gaZ; grind
    rw [this, d1, d2]; unfold gaZ; grind
  -- G (z0 z2) = H (v0 v2) and so on, G = k' y y m, H = k w w m'
  have g1 : k' * (y * y) * m * (z0 * z2) = k * (w * w) * m' * (v0 * v2) := by
    have e1 : k' * (y * y) * m * (z0 * z2) = k' * (y * y) * (m * (z0 * z2)) := by grind
    have e2 : k * (w * w) * m' * (v0 * v2) = k * (w * w) * (m' * (v0 * v2)) := by grind
    rw [e1, e2, a1, b1]
    have e3 : k' * (y * y) * (k * alZ x z) = k' * k * (y * y * alZ x z) := by grind
    rw [e3, al]; grind
  have g2 : k' * (y * y) * m * (x0 * z2 + x2 * z0) = k * (w * w) * m' * (u0 * v2 + u2 * v0) := by
    have e1 : k' * (y * y) * m * (x0 * z2 + x2 * z0) = k' * (y * y) * (m * (x0 * z2 + x2 * z0)) := by grind
    have e2 : k * (w * w) * m' * (u0 * v2 + u2 * v0) = k * (w * w) * (m' * (u0 * v2 + u2 * v0)) := by grind
    rw [e1, e2, a2, b2]
    have e3 : k' * (y * y) * (k * (2 * beZ x z)) = k' * k * 2 * (y * y * beZ x z) := by grind
    rw [e3, be]; grind
  have g3 : k' * (y * y) * m * (x0 * x2) = k * (w * w) * m' * (u0 * u2) := by
    have e1 : k' * (y * y) * m * (x0 * x2) = k' * (y * y) * (m * (x0 * x2)) := by grind
    have e2 : k * (w * w) * m' * (u0 * u2) = k * (w * w) * (m' * (u0 * u2)) := by grind
    rw [e1, e2, a3, b3]
    have e3 : k' * (y * y) * (k * gaZ x z) = k' * k * (y * y * gaZ x z) := by grind
    rw [e3, ga]; grind
  have hG : k' * (y * y) * m ≠ 0 := h.nz (h.nz hk' (h.nz hy hy)) hm
  have hH : k * (w * w) * m' ≠ 0 := h.nz (h.nz hk (h.nz hw hw)) hm'
  generalize k' * (y * y) * m = G at *
  generalize k * (w * w) * m' = H at *
  have s1 : z0 * (f * G * z2 - H * e * v2) = 0 := by
    have : z0 * (f * G * z2 - H * e * v2) = f * (G * (z0 * z2)) - H * v2 * (e * z0) := by grind
    rw [this, g1, c2]; grind
  have s3 : x0 * (f * G * x2 - H * e * u2) = 0 := by
    have : x0 * (f * G * x2 - H * e * u2) = f * (G * (x0 * x2)) - H * u2 * (e * x0) := by grind
    rw [this, g3, c1]; grind
  have s2 : x0 * (f * G * z2 - H * e * v2) + z0 * (f * G * x2 - H * e * u2) = 0 := by
    have : x0 * (f * G * z2 - H * e * v2) + z0 * (f * G * x2 - H * e * u2) = f * (G * (x0 * z2 + x2 * z0)) - H * v2 * (e * x0) - H * u2 * (e * z0) := by grind
    rw [this, g2, c1, c2]; grind
  generalize hV : f * G * z2 - H * e * v2 = V at *
  generalize hU : f * G * x2 - H * e * u2 = U at *
  have hUV : U = 0 ∧ V = 0 := by
    by_cases hx : x0 = 0
    · have hz : z0 ≠ 0 := fun e => hok ⟨hx, e⟩
      have v0' : V = 0 := (h.dom _ _ s1).elim (fun e => absurd e hz) id
      rw [v0'] at s2
      have : z0 * U = 0 := by rwa [mul_zero_add'] at s2
      exact ⟨(h.dom _ _ this).elim (fun e => absurd e hz) id, v0'⟩
    · have u0' : U = 0 := (h.dom _ _ s3).elim (fun e => absurd e hx) id
      rw [u0'] at s2
      have : x0 * V = 0 := by rwa [add_mul_zero'] at s2
      exact ⟨u0', (h.dom _ _ this).elim (fun e => absurd e hx) id⟩
  refine ⟨f * G, H * e, h.nz hf hG, h.nz hH he, ?_, ?_⟩
  · have := hUV.1; rw [← hU] at this; exact sub_eq_zero' _ _ this
  · have := hUV.2; rw [← hV] at this; exact sub_eq_zero' _ _ this
/-- Behind a point at infinity the points come again. -/
theorem pt_again (h : LadRing R) (N : Nat) (hN : 1 ≤ N) (hz : (ptZ R N).2 = 0) : ∀ m, sameP (ptZ R (N + m)) (ptZ R m) ∧ sameP (ptZ R (N + m + 1)) (ptZ R (m + 1)) := by
  have hx : (ptZ R N).1 ≠ 0 := fun e => pt_ok h N ⟨e, hz⟩
  intro m
  induction m with
  | zero =>
    refine ⟨⟨1, (ptZ R N).1, h.one, hx, ?_, ?_⟩, ?_⟩
    · rw [ptZ_zero, Nat.add_zero]; dsimp only; grind
    · rw [ptZ_zero, Nat.add_zero, hz]; dsimp only; grind
    · have ht := tri_all h N hN
      have ok0 := pt_ok h (N - 1)
      have ok2 := pt_ok h (N + 1)
      rw [Nat.add_zero, Nat.zero_add, ptZ_one]
      generalize ptZ R (N - 1) = p0 at *
      generalize ptZ R (N + 1) = p2 at *
      generalize ptZ R N = p at *
      obtain ⟨x0, z0⟩ := p0; obtain ⟨x2, z2⟩ := p2; obtain ⟨x, z⟩ := p
      dsimp only at *
      subst hz
      obtain ⟨m, k, hm, hk, a1, a2, a3⟩ := ht
      dsimp only at a1 a2 a3
      unfold okZ at ok0 ok2
      dsimp only at ok0 ok2
      have a1 : m * (z0 * z2) = k * (x * x) := by rw [a1]; unfold alZ; grind
      have a2 : m * (x0 * z2 + x2 * z0) = k * (x * x) * 18 := by rw [a2]; unfold beZ; grind
      have a3 : m * (x0 * x2) = k * (x * x) * 81 := by rw [a3]; unfold gaZ; grind
      have hK : k * (x * x) ≠ 0 := h.nz hk (h.nz hx hx)
      generalize k * (x * x) = K at *
      have hz2 : z2 ≠ 0 := fun e => hK (by rw [← a1, e]; grind)
      have hz0 : z0 ≠ 0 := fun e => hK (by rw [← a1, e]; grind)
      have e1 : m * ((9 * z0 - x0) * (9 * z2 - x2)) = 0 := by
        have : m * ((9 * z0 - x0) * (9 * z2 - x2)) = 81 * (m * (z0 * z2)) - 9 * (m * (x0 * z2 + x2 * z0)) + m * (x0 * x2) := by grind
        rw [this, a1, a2, a3]; grind
      have e2 := (h.dom _ _ e1).elim (fun e => absurd e hm) id
      have e3 : 9 * z2 - x2 = 0 := by
        rcases h.dom _ _ e2 with e | e
        · have hx0 : x0 = 9 * z0 := by grind
          have : m * z0 * (9 * z2 - x2) = 0 := by
            have : m * z0 * (9 * z2 - x2) = 18 * (m * (z0 * z2)) - m * (9 * z0 * z2 + x2 * z0) := by grind
            rw [this, ← hx0, a1, a2]; grind
          exact (h.dom _ _ this).elim (fun e => absurd e (h.nz hm hz0)) id
        · exact e
      exact ⟨1, z2, h.one, hz2, by dsimp only; grind, by dsimp only; grind⟩
  | succ m ih =>
    refine ⟨by rw [show N + (m + 1) = N + m + 1 by omega]; exact ih.2, ?_⟩
    have t1 := tri_all h (N + m + 1) (by omega)
    have t2 := tri_all h (m + 1) (by omega)
    rw [show N + m + 1 - 1 = N + m by omega] at t1
    rw [show m + 1 - 1 = m by omega] at t2
    rw [show N + (m + 1) + 1 = N + m + 1 + 1 by omega]
    exact same_next h t1 t2 ih.1 ih.2 (pt_ok h _)
/-- The numbers whose point is at infinity are the multiples of the least. -/
theorem inf_again (h : LadRing R) (N : Nat) (hN : 1 ≤ N) (hz : (ptZ R N).2 = 0) (m : Nat) : (ptZ R (N + m)).2 = 0 ↔ (ptZ R m).2 = 0 := same_zero h (pt_again h N hN hz m).1
theorem inf_mod (h : LadRing R) (N : Nat) (hN : 1 ≤ N) (hz : (ptZ R N).2 = 0) (r : Nat) : ∀ q, (ptZ R (N * q + r)).2 = 0 ↔ (ptZ R r).2 = 0
  | 0 => by rw [Nat.mul_zero, Nat.zero_add]
  | q + 1 => by rw [show N * (q + 1) + r = N + (N * q + r) by rw [Nat.mul_succ]; omega, inf_again h N hN hz, inf_mod h N hN hz r q]
theorem inf_gcd (h : LadRing R) (a : Nat) : ∀ b, 1 ≤ a → (ptZ R a).2 = 0 → (ptZ R b).2 = 0 → (ptZ R (Nat.gcd a b)).2 = 0 := by
  induction a using Nat.strongRecOn with
  | _ a ih =>
    intro b ha hza hzb
    rw [Nat.gcd_rec]
    have hr : (ptZ R (b % a)).2 = 0 := by
      rw [← inf_mod h a ha hza (b % a) (b / a), Nat.div_add_mod]; exact hzb
    by_cases h0 : b % a = 0
    · rw [h0, Nat.gcd_zero_left]; exact hza
    · exact ih (b % a) (Nat.mod_lt _ (by omega)) a (by omega) hr hza
end
end Go.Proofs.YtnodllkfmdhhlaaDoor
