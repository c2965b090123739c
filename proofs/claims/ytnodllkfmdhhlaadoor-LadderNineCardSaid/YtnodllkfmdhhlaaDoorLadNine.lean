/- The share of 9 is never nought: from the primality of the field's number and of the order. No program. -/
import Derived.Test.YtnodllkfmdhhlaaDoorLadLink
namespace Go.Proofs.YtnodllkfmdhhlaaDoor
set_option maxRecDepth 100000
set_option linter.unusedSimpArgs false
set_option linter.unusedVariables false

/-- Without a divisor of its own. -/
def sole (p : Nat) : Prop := ∀ d, d ∣ p → d = 1 ∨ d = p
theorem sole_dvd {p a b : Nat} (hp : sole p) (h : p ∣ a * b) : p ∣ a ∨ p ∣ b := by
  rcases hp _ (Nat.gcd_dvd_left p a) with e | e
  · exact .inr (Nat.Coprime.dvd_of_dvd_mul_left e h)
  · exact .inl (by rw [← e]; exact Nat.gcd_dvd_right p a)
theorem fp_dom (hp : sole pF) (a b : Fp) (h : a * b = 0) : a = 0 ∨ b = 0 := by
  have e := congrArg Fin.val h
  rw [Fin.val_mul] at e
  have e : a.val * b.val % pF = 0 := e
  rcases sole_dvd hp (Nat.dvd_of_mod_eq_zero e) with d | d
  · exact .inl (Fin.ext (Nat.eq_zero_of_dvd_of_lt d a.isLt))
  · exact .inr (Fin.ext (Nat.eq_zero_of_dvd_of_lt d b.isLt))
theorem fp_ring (hp : sole pF) : LadRing Fp :=
  ⟨fp_dom hp, fun e => by have := congrArg Fin.val e; revert this; decide +kernel, fun e => by have := congrArg Fin.val e; revert this; decide +kernel,
    fun e => by have := congrArg Fin.val e; revert this; decide +kernel, fun e => by have := congrArg Fin.val e; revert this; decide +kernel, fun e => by have := congrArg Fin.val e; revert this; decide +kernel⟩
theorem dz_gen {R : Type} [Lean.Grind.CommRing R] (z : R) : 4 * (0 * z) * (0 * 0 + 486662 * (0 * z) + z * z) = 0 ∧ 4 * (z * 0) * (z * z + 486662 * (z * 0) + 0 * 0) = 0 := by
  constructor
  · grind
  · grind
/-- What the bits come to. -/
theorem pre_val (l : List UInt8) : ∀ n, n ≤ 255 → pre l n = leV l 32 / 2 ^ (255 - n) % 2 ^ n
  | 0, _ => by rw [pre, Nat.pow_zero, Nat.mod_one]
  | n + 1, h => by
    rw [pre, pre_val l n (by omega), ← leV_bit l 32 (254 - n) (by omega)]
    have e : 255 - n = (254 - n) + 1 := by omega
    rw [show 255 - (n + 1) = 254 - n by omega, e, Nat.pow_succ, ← Nat.div_div_eq_div_mul]
    generalize leV l 32 / 2 ^ (254 - n) = x
    rw [Nat.pow_succ, Nat.mul_comm (2 ^ n) 2, Nat.mod_mul]
    omega
/-- The order. -/
def ordL : Nat := 7237005577332262213973186563042994240857116359379907606001950938285454250989
def ordB : List UInt8 := leF ordL 32
theorem ord_pre : pre ordB 255 = ordL := by
  rw [pre_val _ 255 (by omega), ordB, leV_leF]
  decide +kernel
theorem ord_last : (ladN 9 ordB 255).b = 0 := by
  have h := ladQ_eq 9 ordB 255 0 rfl
  have h2 : (ladQ 9 1 0 9 1 (bitsFrom ordB 255)).2 = 0 := by decide +kernel
  have h3 := congrArg Prod.snd h
  exact h3.symm.trans h2
theorem and_248 (x : Nat) (h : x < 256) : (x &&& 248) % 8 = 0 := by
  have := Nat.and_mod_two_pow (a := x) (b := 248) (n := 3)
  rw [show (2 : Nat) ^ 3 = 8 from rfl, show 248 % 8 = 0 from rfl, Nat.and_zero] at this
  exact this
theorem or_64 (x : Nat) : (x ||| 64) / 64 % 2 = 1 := by
  have h : (x ||| 64).testBit 6 = true := by rw [Nat.testBit_or, show Nat.testBit 64 6 = true by decide, Bool.or_true]
  rw [Nat.testBit_eq_decide_div_mod_eq] at h
  simpa using h
theorem clamp_bits (s : List UInt8) (hs : s.length = 32) : bitL (clampL s) 0 = 0 ∧ bitL (clampL s) 1 = 0 ∧ bitL (clampL s) 2 = 0 ∧ bitL (clampL s) 254 = 1 := by
  have e0 : ((clampL s).getD 0 0).toNat = (s.getD 0 0).toNat &&& 248 := by
    rw [clampL, List.getD_eq_getElem?_getD, List.getElem?_set_ne (by decide), List.getElem?_set_self (by omega)]
    exact UInt8.toNat_and _ _
  have e31 : ((clampL s).getD 31 0).toNat = ((s.getD 31 0 &&& 127).toNat ||| 64) := by
    rw [clampL, List.getD_eq_getElem?_getD, List.getElem?_set_self (by rw [List.length_set]; omega)]
    exact UInt8.toNat_or _ _
  have h8 := and_248 _ (s.getD 0 0).toNat_lt
  have h64 := or_64 (s.getD 31 0 &&& 127).toNat
  show ((clampL s).getD 0 0).toNat / 2 ^ 0 % 2 = 0 ∧ ((clampL s).getD 0 0).toNat / 2 ^ 1 % 2 = 0 ∧ ((clampL s).getD 0 0).toNat / 2 ^ 2 % 2 = 0 ∧ ((clampL s).getD 31 0).toNat / 2 ^ 6 % 2 = 1
  rw [e0, e31]
  generalize (s.getD 0 0).toNat &&& 248 = y at *
  generalize (s.getD 31 0 &&& 127).toNat ||| 64 = z at *
  simp only [Nat.reducePow]
  omega
section
variable (hp : sole pF) (hl : sole ordL)
include hp
theorem scaled_zero {p : Fp × Fp} {a b : Nat} (hs : scaled p a b) : (cF b = 0 → p.2 = 0) ∧ (cF a = 0 → p.1 = 0) := by
  obtain ⟨s, hs, e1, e2⟩ := hs
  constructor
  · intro h; rw [h] at e2
    exact (fp_dom hp _ _ e2.symm).elim (fun e => absurd e hs) id
  · intro h; rw [h] at e1
    exact (fp_dom hp _ _ e1.symm).elim (fun e => absurd e hs) id
theorem ord_inf : (ptZ Fp ordL).2 = 0 := by
  have h := (lad_link (fp_ring hp) ordB 255).1
  rw [ord_pre] at h
  exact (scaled_zero hp h).1 (by rw [ord_last]; rfl)
include hl
/-- No multiple of eight in the range is at infinity twice. -/
theorem none_inf (k : Nat) (h0 : 0 < k) (h8 : k % 8 = 0) (h : k < 2 ^ 255) : (ptZ Fp (2 * k)).2 ≠ 0 := by
  intro hz
  have hg := inf_gcd (fp_ring hp) ordL (2 * k) (by decide) (ord_inf hp) hz
  rcases hl _ (Nat.gcd_dvd_left ordL (2 * k)) with e | e
  · rw [e, ptZ_one] at hg
    exact (fp_ring hp).one hg
  · have hd : ordL ∣ 2 * k := by rw [← e]; exact Nat.gcd_dvd_right ordL (2 * k)
    obtain ⟨j, hj⟩ : ∃ j, k = 8 * j := ⟨k / 8, by omega⟩
    rw [show 2 * k = 16 * j by omega] at hd
    have hc : Nat.Coprime ordL 16 := by decide +kernel
    have hd2 := Nat.Coprime.dvd_of_dvd_mul_left hc hd
    have := Nat.le_of_dvd (by omega) hd2
    have e2 : 16 * ordL > 2 ^ 256 := by decide +kernel
    have e3 : 2 ^ 256 = 2 * 2 ^ 255 := by decide +kernel
    omega
omit hl in
theorem pow_zero_of (b n : Nat) (h : cF (powF b n) = 0) : cF b = 0 := by
  have hz : pF ∣ b ^ n := by
    have := congrArg Fin.val h
    rw [cF_val, powF, Nat.mod_mod] at this
    exact Nat.dvd_of_mod_eq_zero this
  clear h
  induction n with
  | zero => rw [Nat.pow_zero] at hz; exact absurd (Nat.le_of_dvd (by decide) hz) (by decide)
  | succ n ih =>
    rw [Nat.pow_succ] at hz
    rcases sole_dvd hp hz with h | h
    · exact ih h
    · exact Fin.ext (by rw [cF_val]; exact Nat.mod_eq_zero_of_dvd h)
/-- The document's promise that a public key is always found. -/
theorem share_nine (s : List UInt8) (hs : s.length = 32) : shareF s nineL ≠ 0 := by
  intro h
  have hu : pubF nineL = 9 := by decide +kernel
  rw [shareF, ladF, hu] at h
  have hk := (lad_link (fp_ring hp) (clampL s) 255).1
  obtain ⟨b0, b1, b2, b254⟩ := clamp_bits s hs
  have hv := pre_val (clampL s) 255 (by omega)
  rw [show 255 - 255 = 0 from rfl, Nat.pow_zero, Nat.div_one] at hv
  have f0 := leV_bit (clampL s) 32 0 (by decide)
  have f1 := leV_bit (clampL s) 32 1 (by decide)
  have f2 := leV_bit (clampL s) 32 2 (by decide)
  have f3 := leV_bit (clampL s) 32 254 (by decide)
  rw [b0] at f0; rw [b1] at f1; rw [b2] at f2; rw [b254] at f3
  generalize leV (clampL s) 32 = V at *
  generalize pre (clampL s) 255 = k at *
  have h8 : k % 8 = 0 := by
    have e : k % 8 = V % 8 := by rw [hv]; exact Nat.mod_mod_of_dvd V (by decide)
    rw [e]
    simp only [Nat.pow_zero, Nat.div_one, Nat.reducePow] at f0 f1 f2
    omega
  have hlt : k < 2 ^ 255 := by rw [hv]; exact Nat.mod_lt _ (by decide)
  have h0 : 0 < k := by
    have e : k / 2 ^ 254 % 2 = 1 := by
      rw [hv, ← f3]
      have e2 : (2 : Nat) ^ 255 = 2 ^ 254 * 2 := by decide +kernel
      rw [e2, Nat.mod_mul_right_div_self, Nat.mod_mod]
    rcases Nat.eq_zero_or_pos k with hz | hz
    · rw [hz, Nat.zero_div] at e; cases e
    · exact hz
  have hn := none_inf hp hl k h0 h8 hlt
  generalize ladN 9 (clampL s) 255 = q at *
  have h1 : cF q.a * cF (invF q.b) = 0 := by rw [← cF_mul, h]; rfl
  have hxz : (ptZ Fp k).1 = 0 ∨ (ptZ Fp k).2 = 0 := by
    rcases fp_dom hp _ _ h1 with e | e
    · exact .inl ((scaled_zero hp hk).2 e)
    · exact .inr ((scaled_zero hp hk).1 (pow_zero_of hp _ _ e))
  refine hn ?_
  rw [← pt_dbl k]
  show dblZ _ _ = 0
  unfold dblZ
  rcases hxz with e | e
  · rw [e]; generalize (ptZ Fp k).2 = z; exact (dz_gen z).1
  · rw [e]; generalize (ptZ Fp k).1 = z; exact (dz_gen z).2
end
end Go.Proofs.YtnodllkfmdhhlaaDoor
