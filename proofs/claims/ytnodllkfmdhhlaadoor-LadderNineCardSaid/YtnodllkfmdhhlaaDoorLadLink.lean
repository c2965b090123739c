/- The ladder on numbers and the points: the same ratios. No program. -/
import Derived.Test.YtnodllkfmdhhlaaDoorLadSeq
namespace Go.Proofs.YtnodllkfmdhhlaaDoor
set_option maxRecDepth 100000
set_option linter.unusedSimpArgs false
set_option linter.unusedVariables false

instance : NeZero pF := ⟨by decide⟩
abbrev Fp : Type := Fin pF
/-- A number's class. -/
def cF (a : Nat) : Fp := Fin.ofNat pF a
theorem cF_val (a : Nat) : (cF a).val = a % pF := rfl
theorem cF_add (a b : Nat) : cF (addF a b) = cF a + cF b := by
  apply Fin.ext
  rw [Fin.val_add, cF_val, cF_val, cF_val, addF, Nat.mod_mod, ← Nat.add_mod]
theorem cF_mul (a b : Nat) : cF (mulF a b) = cF a * cF b := by
  apply Fin.ext
  rw [Fin.val_mul, cF_val, cF_val, cF_val, mulF, Nat.mod_mod, ← Nat.mul_mod]
theorem cF_sub (a b : Nat) (hb : b < pF) : cF (subF a b) = cF a - cF b := by
  apply Fin.ext
  rw [Fin.sub_def, cF_val, cF_val, cF_val, subF, Nat.mod_mod, Nat.mod_eq_of_lt hb]
  show (a + (pF - b)) % pF = (pF - b + a % pF) % pF
  rw [Nat.add_mod_mod, Nat.add_comm]
theorem cF_zero (a : Nat) (h : a < pF) : cF a = 0 ↔ a = 0 := by
  constructor
  · intro e
    have := congrArg Fin.val e
    rw [cF_val, Nat.mod_eq_of_lt h] at this
    exact this
  · rintro rfl; rfl
theorem cF_one : cF 1 = 1 := rfl
theorem cF_nine : cF 9 = 9 := by apply Fin.ext; rfl
theorem cF_fac : cF 121665 = 121665 := by apply Fin.ext; rfl

/-- A step between the exchanges, in the ring. -/
theorem mid_dbl (u : Nat) (q : Rung) (h : q.ok) : cF (rungMid u q).a = dblX (cF q.a) (cF q.b) ∧ cF (rungMid u q).b = dblZ (cF q.a) (cF q.b) := by
  constructor
  · show cF (rgA q) = _
    unfold rgA rgO rgQ rgM rgN
    rw [cF_mul, cF_mul, cF_mul, cF_add, cF_sub _ _ h.2.1]
    unfold dblX
    generalize cF q.a = a; generalize cF q.b = b
    grind
  · show cF (rgB q) = _
    have ho : cF (rgO q) = (cF q.a + cF q.b) * (cF q.a + cF q.b) := by unfold rgO rgM; rw [cF_mul, cF_add]
    have hr : cF (rgR q) = 4 * (cF q.a * cF q.b) := by
      unfold rgR
      rw [cF_sub _ _ (show rgQ q < pF from mulF_lt _ _), ho]
      unfold rgQ rgN
      rw [cF_mul, cF_sub _ _ h.2.1]
      generalize cF q.a = a; generalize cF q.b = b
      grind
    unfold rgB
    rw [cF_mul, cF_add, cF_mul, hr, ho, cF_fac]
    unfold dblZ
    generalize cF q.a = a; generalize cF q.b = b
    grind
theorem mid_add (q : Rung) (h : q.ok) : cF (rungMid 9 q).c = addX (cF q.a) (cF q.b) (cF q.c) (cF q.d) ∧ cF (rungMid 9 q).d = addZ (cF q.a) (cF q.b) (cF q.c) (cF q.d) := by
  have hs : cF (rgS q) = (cF q.c - cF q.d) * (cF q.a + cF q.b) := by unfold rgS rgM; rw [cF_mul, cF_sub _ _ h.2.2.2, cF_add]
  have ht : cF (rgT q) = (cF q.c + cF q.d) * (cF q.a - cF q.b) := by unfold rgT rgN; rw [cF_mul, cF_sub _ _ h.2.1, cF_add]
  constructor
  · show cF (rgC q) = _
    unfold rgC rgX
    rw [cF_mul, cF_add, hs, ht]
    unfold addX
    generalize cF q.a = a; generalize cF q.b = b; generalize cF q.c = c; generalize cF q.d = d
    grind
  · show cF (rgD 9 q) = _
    unfold rgD rgY
    rw [cF_mul, cF_mul, cF_sub _ _ (show rgS q < pF from mulF_lt _ _), hs, ht, cF_nine]
    unfold addZ
    generalize cF q.a = a; generalize cF q.b = b; generalize cF q.c = c; generalize cF q.d = d
    grind

/-- Scaled by what is not nought. -/
def scaled (p : Fp × Fp) (a b : Nat) : Prop := ∃ s : Fp, s ≠ 0 ∧ cF a = s * p.1 ∧ cF b = s * p.2
section
variable (h : LadRing Fp)
include h
theorem scaled_dbl {p : Fp × Fp} {a b a2 b2 : Nat} (hs : scaled p a b) (h1 : cF a2 = dblX (cF a) (cF b)) (h2 : cF b2 = dblZ (cF a) (cF b)) : scaled (dblX p.1 p.2, dblZ p.1 p.2) a2 b2 := by
  obtain ⟨s, hs, e1, e2⟩ := hs
  refine ⟨s * s * (s * s), h.nz (h.nz hs hs) (h.nz hs hs), ?_, ?_⟩
  · rw [h1, e1, e2]; unfold dblX; dsimp only; generalize p.1 = x; generalize p.2 = z; clear h1 h2 e1 e2; grind
  · rw [h2, e1, e2]; unfold dblZ; dsimp only; generalize p.1 = x; generalize p.2 = z; clear h1 h2 e1 e2; grind
theorem scaled_add {p q : Fp × Fp} {a b c d a2 b2 : Nat} (hs : scaled p a b) (ht : scaled q c d) (h1 : cF a2 = addX (cF a) (cF b) (cF c) (cF d)) (h2 : cF b2 = addZ (cF a) (cF b) (cF c) (cF d)) : scaled (addX p.1 p.2 q.1 q.2, addZ p.1 p.2 q.1 q.2) a2 b2 := by
  obtain ⟨s, hs, e1, e2⟩ := hs
  obtain ⟨t, ht, e3, e4⟩ := ht
  refine ⟨s * s * (t * t), h.nz (h.nz hs hs) (h.nz ht ht), ?_, ?_⟩
  · rw [h1, e1, e2, e3, e4]; unfold addX; dsimp only; generalize p.1 = x; generalize p.2 = z; generalize q.1 = x'; generalize q.2 = z'; clear h1 h2 e1 e2 e3 e4; grind
  · rw [h2, e1, e2, e3, e4]; unfold addZ; dsimp only; generalize p.1 = x; generalize p.2 = z; generalize q.1 = x'; generalize q.2 = z'; clear h1 h2 e1 e2 e3 e4; grind
omit h in
theorem add_turn {R : Type} [Lean.Grind.CommRing R] (x z a b : R) : addX x z a b = addX a b x z ∧ addZ x z a b = addZ a b x z := by
  constructor
  · unfold addX; grind
  · unfold addZ; grind
omit h in
theorem one_mul_of {R : Type} [Lean.Grind.CommRing R] (y : R) : y = 1 * y := by grind
omit h in
theorem gen_add {R : Type} [Lean.Grind.CommRing R] : addX (1 : R) 0 9 1 = 36 * 9 ∧ addZ (1 : R) 0 9 1 = 36 * 1 ∧ dblX (1 : R) 0 = 1 ∧ dblZ (1 : R) 0 = 0 ∧ (1 : R) = 1 * 1 ∧ (0 : R) = 1 * 0 ∧ (9 : R) = 1 * 9 := by
  unfold addX addZ dblX dblZ
  refine ⟨by grind, by grind, by grind, by grind, by grind, by grind, by grind⟩
omit h in
/-- Any twice, and any two neighbours: the points again, up to a factor. -/
theorem pt_dbl (n : Nat) : (dblX (ptZ Fp n).1 (ptZ Fp n).2, dblZ (ptZ Fp n).1 (ptZ Fp n).2) = ptZ Fp (2 * n) := by
  by_cases h0 : n = 0
  · subst h0
    rw [show 2 * 0 = 0 from rfl, ptZ_zero]
    exact Prod.ext (gen_add (R := Fp)).2.2.1 (gen_add (R := Fp)).2.2.2.1
  · rw [ptZ_even n (by omega)]
theorem pt_add (n : Nat) : ∃ f : Fp, f ≠ 0 ∧ addX (ptZ Fp n).1 (ptZ Fp n).2 (ptZ Fp (n + 1)).1 (ptZ Fp (n + 1)).2 = f * (ptZ Fp (2 * n + 1)).1 ∧ addZ (ptZ Fp n).1 (ptZ Fp n).2 (ptZ Fp (n + 1)).1 (ptZ Fp (n + 1)).2 = f * (ptZ Fp (2 * n + 1)).2 := by
  by_cases h0 : n = 0
  · subst h0
    rw [show 2 * 0 + 1 = 1 from rfl, ptZ_zero, ptZ_one]
    exact ⟨36, h.n36, (gen_add (R := Fp)).1, (gen_add (R := Fp)).2.1⟩
  · rw [ptZ_odd n (by omega)]
    refine ⟨1, h.one, ?_, ?_⟩
    · exact one_mul_of _
    · exact one_mul_of _
theorem scaled_pt_add {n a2 b2 : Nat} (hs : scaled (addX (ptZ Fp n).1 (ptZ Fp n).2 (ptZ Fp (n + 1)).1 (ptZ Fp (n + 1)).2, addZ (ptZ Fp n).1 (ptZ Fp n).2 (ptZ Fp (n + 1)).1 (ptZ Fp (n + 1)).2) a2 b2) : scaled (ptZ Fp (2 * n + 1)) a2 b2 := by
  obtain ⟨s, hs, e1, e2⟩ := hs
  obtain ⟨f, hf, g1, g2⟩ := pt_add h n
  dsimp only at e1 e2
  refine ⟨s * f, h.nz hs hf, ?_, ?_⟩
  · rw [e1, g1]; generalize (ptZ Fp (2 * n + 1)).1 = y; grind
  · rw [e2, g2]; generalize (ptZ Fp (2 * n + 1)).2 = y; grind
/-- A step. -/
theorem lad_link_step (v bit : Nat) (hb : bit = 0 ∨ bit = 1) (q : Rung) (hq : q.ok) (h1 : scaled (ptZ Fp v) q.a q.b) (h2 : scaled (ptZ Fp (v + 1)) q.c q.d) :
    scaled (ptZ Fp (2 * v + bit)) (rungStep 9 bit q).a (rungStep 9 bit q).b ∧ scaled (ptZ Fp (2 * v + bit + 1)) (rungStep 9 bit q).c (rungStep 9 bit q).d := by
  rcases hb with rfl | rfl
  · obtain ⟨e1, e2⟩ := mid_dbl 9 q hq
    obtain ⟨e3, e4⟩ := mid_add q hq
    constructor
    · have := scaled_dbl h h1 e1 e2
      rw [pt_dbl v] at this
      exact this
    · exact scaled_pt_add h (scaled_add h h1 h2 e3 e4)
  · have hq' : (q.turn 1).ok := turn_ok _ _ hq
    obtain ⟨e1, e2⟩ := mid_dbl 9 (q.turn 1) hq'
    obtain ⟨e3, e4⟩ := mid_add (q.turn 1) hq'
    rw [(add_turn _ _ _ _).1] at e3
    rw [(add_turn _ _ _ _).2] at e4
    constructor
    · exact scaled_pt_add h (scaled_add h h1 h2 e3 e4)
    · have := scaled_dbl h h2 e1 e2
      rw [pt_dbl (v + 1)] at this
      exact this
/-- The ladder: after so many bits, whatever the bits. -/
def pre (l : List UInt8) : Nat → Nat
  | 0 => 0
  | n + 1 => 2 * pre l n + bitL l (254 - n)
theorem lad_link (l : List UInt8) : ∀ n, scaled (ptZ Fp (pre l n)) (ladN 9 l n).a (ladN 9 l n).b ∧ scaled (ptZ Fp (pre l n + 1)) (ladN 9 l n).c (ladN 9 l n).d
  | 0 => by
    constructor
    · refine ⟨1, h.one, ?_, ?_⟩
      · show cF 1 = _; rw [show pre l 0 = 0 from rfl, ptZ_zero, cF_one]; exact (gen_add (R := Fp)).2.2.2.2.1
      · show cF 0 = _; rw [show pre l 0 = 0 from rfl, ptZ_zero]; exact (gen_add (R := Fp)).2.2.2.2.2.1
    · refine ⟨1, h.one, ?_, ?_⟩
      · show cF 9 = _; rw [show pre l 0 + 1 = 1 from rfl, ptZ_one, cF_nine]; exact (gen_add (R := Fp)).2.2.2.2.2.2
      · show cF 1 = _; rw [show pre l 0 + 1 = 1 from rfl, ptZ_one, cF_one]; exact (gen_add (R := Fp)).2.2.2.2.1
  | n + 1 => by
    rw [ladN, pre]
    exact lad_link_step h _ _ (bitL_cases _ _) _ (lad_ok 9 (by decide) l n) (lad_link l n).1 (lad_link l n).2
end
end Go.Proofs.YtnodllkfmdhhlaaDoor
