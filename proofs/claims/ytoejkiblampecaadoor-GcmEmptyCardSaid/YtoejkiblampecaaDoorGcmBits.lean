/- Blocks of sixteen bytes as polynomials, and the reference's product on them. Arithmetic alone. -/
import Derived.Test.YtoejkiblampecaaDoorGcmMath
import Derived.Test.YtoejkiblampecaaDoorAesSpec
namespace Go.Proofs.YtoejkiblampecaaDoor
open Go.RowKit
set_option maxRecDepth 100000
set_option linter.unusedSimpArgs false
set_option linter.unusedVariables false

theorem powers_bit (p : Nat → Bool) : ∀ n j, (xsum (fun m => pick (p m) (2 ^ m)) n).testBit j = (decide (j < n) && p j) := by
  intro n
  induction n with
  | zero => intro j; simp [xsum]
  | succ n ih =>
    intro j
    rw [xsum, Nat.testBit_xor, ih j]
    by_cases e : j = n
    · subst e
      cases hb : p j <;> simp [pick, hb, Nat.testBit_two_pow_self]
    · have hz : (pick (p n) (2 ^ n)).testBit j = false := by
        cases p n
        · simp [pick]
        · simp only [pick, if_true]; exact Nat.testBit_two_pow_of_ne (fun h => e h.symm)
      rw [hz]
      by_cases h2 : j < n
      · simp [h2, show j < n + 1 by omega]
      · simp [h2, show ¬ j < n + 1 by omega]
theorem powers_lt (p : Nat → Bool) (n : Nat) : xsum (fun m => pick (p m) (2 ^ m)) n < 2 ^ n := by
  apply Nat.lt_pow_two_of_testBit
  intro j hj
  rw [powers_bit]; simp; omega
/-- A coefficient of a block. -/
def gbit (s : List UInt8) (n : Nat) : Bool := (s.getD (n / 8) 0).toNat.testBit (7 - n % 8)
/-- The polynomial of a block. -/
def bN (s : List UInt8) : Nat := xsum (fun m => pick (gbit s m) (2 ^ m)) 128
theorem bN_bit (s : List UInt8) (j : Nat) (h : j < 128) : (bN s).testBit j = gbit s j := by rw [bN, powers_bit]; simp [h]
theorem bN_lt (s : List UInt8) : bN s < 2 ^ 128 := powers_lt _ _
theorem byte_ext {x y : UInt8} (h : ∀ j, j < 8 → x.toNat.testBit j = y.toNat.testBit j) : x = y := by
  apply UInt8.toNat_inj.1
  apply Nat.eq_of_testBit_eq
  intro j
  by_cases hj : j < 8
  · exact h j hj
  · have hx := UInt8.toNat_lt x; have hy := UInt8.toNat_lt y
    rw [Nat.testBit_lt_two_pow (Nat.lt_of_lt_of_le hx (Nat.pow_le_pow_right (by decide) (by omega))), Nat.testBit_lt_two_pow (Nat.lt_of_lt_of_le hy (Nat.pow_le_pow_right (by decide) (by omega)))]
theorem blocks_bits {s t : List UInt8} (hs : s.length = 16) (ht : t.length = 16) (h : ∀ n, n < 128 → gbit s n = gbit t n) : s = t :=
  bytes_ext hs ht fun i hi => byte_ext fun j hj => by
    have := h (8 * i + (7 - j)) (by omega)
    simp only [gbit] at this
    rwa [show (8 * i + (7 - j)) / 8 = i by omega, show 7 - (8 * i + (7 - j)) % 8 = j by omega] at this
theorem blocks_num {s t : List UInt8} (hs : s.length = 16) (ht : t.length = 16) (h : bN s = bN t) : s = t :=
  blocks_bits hs ht fun n hn => by rw [← bN_bit s n hn, ← bN_bit t n hn, h]
/-- The block of a polynomial. -/
def toB (v : Nat) : List UInt8 := (List.range 16).map fun i => UInt8.ofNat (xsum (fun j => pick (v.testBit (8 * i + 7 - j)) (2 ^ j)) 8)
theorem toB_length (v : Nat) : (toB v).length = 16 := by simp [toB]
theorem toB_bit (v n : Nat) (h : n < 128) : gbit (toB v) n = v.testBit n := by
  rw [gbit, toB, range_getD _ _ _ (by omega)]
  have hl := powers_lt (fun j => v.testBit (8 * (n / 8) + 7 - j)) 8
  rw [show (UInt8.ofNat (xsum (fun j => pick (v.testBit (8 * (n / 8) + 7 - j)) (2 ^ j)) 8)).toNat = xsum (fun j => pick (v.testBit (8 * (n / 8) + 7 - j)) (2 ^ j)) 8 from by
    simp only [UInt8.toNat_ofNat']; omega, powers_bit]
  rw [show 8 * (n / 8) + 7 - (7 - n % 8) = n by omega]
  simp
  omega
theorem bN_toB (v : Nat) (h : v < 2 ^ 128) : bN (toB v) = v := by
  apply Nat.eq_of_testBit_eq
  intro j
  by_cases hj : j < 128
  · rw [bN_bit _ _ hj, toB_bit _ _ hj]
  · rw [Nat.testBit_lt_two_pow (Nat.lt_of_lt_of_le (bN_lt _) (Nat.pow_le_pow_right (by decide) (by omega))), Nat.testBit_lt_two_pow (Nat.lt_of_lt_of_le h (Nat.pow_le_pow_right (by decide) (by omega)))]
theorem toB_bN (s : List UInt8) (h : s.length = 16) : toB (bN s) = s := blocks_num (toB_length _) h (bN_toB _ (bN_lt s))
theorem gbit_xor (s t : List UInt8) (n : Nat) (h : n < 128) : gbit (plS s t) n = (gbit s n ^^ gbit t n) := by
  simp only [gbit, plS]
  rw [range_getD _ _ _ (by omega), UInt8.toNat_xor, Nat.testBit_xor]
theorem bN_xor (s t : List UInt8) : bN (plS s t) = bN s ^^^ bN t := by
  apply Nat.eq_of_testBit_eq
  intro j
  by_cases hj : j < 128
  · rw [bN_bit _ _ hj, gbit_xor _ _ _ hj, Nat.testBit_xor, bN_bit _ _ hj, bN_bit _ _ hj]
  · have e : ∀ x : Nat, x < 2 ^ 128 → x.testBit j = false := fun x hx => Nat.testBit_lt_two_pow (Nat.lt_of_lt_of_le hx (Nat.pow_le_pow_right (by decide) (by omega)))
    rw [e _ (bN_lt _), Nat.testBit_xor, e _ (bN_lt _), e _ (bN_lt _)]; rfl

/-- The reference's step: a block moved on by one coefficient. -/
def shB (x y : UInt8) : UInt8 := UInt8.ofNat (x.toNat / 2 ||| y.toNat * 128 % 256)
def shG (v : List UInt8) : List UInt8 := (List.range 16).map fun i => if i = 0 then (UInt8.ofNat ((v.getD 0 0).toNat / 2)) ^^^ (if (v.getD 15 0).toNat % 2 = 1 then 0xe1 else 0) else shB (v.getD i 0) (v.getD (i - 1) 0)
theorem shG_length (v : List UInt8) : (shG v).length = 16 := by simp [shG]
theorem half_lt (x : UInt8) : x.toNat / 2 < 256 := by have := UInt8.toNat_lt x; omega
theorem shB_toNat (x y : UInt8) : (shB x y).toNat = (x.toNat / 2 ||| y.toNat * 128 % 256) := by
  have h : x.toNat / 2 ||| y.toNat * 128 % 256 < 2 ^ 8 := Nat.or_lt_two_pow (half_lt x) (Nat.mod_lt _ (by decide))
  rw [shB, UInt8.toNat_ofNat']
  exact Nat.mod_eq_of_lt h
theorem e1_bit : ∀ p, p < 8 → Nat.testBit 225 p = decide (p = 0 ∨ p = 5 ∨ p = 6 ∨ p = 7) := by decide
theorem red_bit : ∀ j, j < 128 → Nat.testBit 340282366920938463463374607431768211591 j = decide (j = 0 ∨ j = 1 ∨ j = 2 ∨ j = 7) := by decide +kernel
theorem half_bit (x : Nat) (p : Nat) : (x / 2).testBit p = x.testBit (p + 1) := by rw [Nat.testBit_succ]
theorem odd_bit (x : Nat) : decide (x % 2 = 1) = x.testBit 0 := by rw [Nat.testBit_zero]
theorem xt_bit (v j : Nat) (hj : j < 128) : (xt v).testBit j = ((decide (1 ≤ j) && v.testBit (j - 1)) ^^ (v.testBit 127 && decide (j = 0 ∨ j = 1 ∨ j = 2 ∨ j = 7))) := by
  have e : v * 2 = v <<< 1 := by rw [Nat.shiftLeft_eq]
  rw [xt, Nat.testBit_xor, e, Nat.testBit_shiftLeft]
  congr 1
  rw [← red_bit j hj]
  cases v.testBit 127 <;> simp [pick]
theorem shG_num (v : List UInt8) : bN (shG v) = xt (bN v) := by
  apply Nat.eq_of_testBit_eq
  intro n
  by_cases hn : n < 128
  · rw [bN_bit _ _ hn, xt_bit _ _ hn, bN_bit _ 127 (by omega)]
    have h127 : gbit v 127 = (v.getD 15 0).toNat.testBit 0 := rfl
    rw [gbit, shG, range_getD _ _ _ (by omega)]
    by_cases h0 : n / 8 = 0
    · rw [if_pos h0, UInt8.toNat_xor, Nat.testBit_xor, show (UInt8.ofNat ((v.getD 0 0).toNat / 2)).toNat = (v.getD 0 0).toNat / 2 from by have := half_lt (v.getD 0 0); simp only [UInt8.toNat_ofNat']; omega, half_bit]
      congr 1
      · by_cases hz : n = 0
        · subst hz
          simp
          exact Nat.testBit_lt_two_pow (UInt8.toNat_lt _)
        · rw [bN_bit _ (n - 1) (by omega), gbit, show (n - 1) / 8 = 0 by omega, show 7 - (n - 1) % 8 = 7 - n % 8 + 1 by omega]
          simp; omega
      · rw [h127, ← odd_bit]
        by_cases ho : (v.getD 15 0).toNat % 2 = 1
        · rw [if_pos ho, show (0xe1 : UInt8).toNat = 225 from rfl, e1_bit _ (by omega), decide_eq_true ho, Bool.true_and]
          apply decide_eq_decide.2
          omega
        · rw [if_neg ho, decide_eq_false ho]; simp
    · have hj1 : 1 ≤ n := by omega
      have hred : decide (n = 0 ∨ n = 1 ∨ n = 2 ∨ n = 7) = false := by apply decide_eq_false; omega
      rw [if_neg h0, shB_toNat, Nat.testBit_or, half_bit, hred, Bool.and_false, Bool.xor_false, bN_bit _ (n - 1) (by omega), gbit]
      have e128 : (v.getD (n / 8 - 1) 0).toNat * 128 % 256 = ((v.getD (n / 8 - 1) 0).toNat <<< 7) % 2 ^ 8 := by rw [Nat.shiftLeft_eq]
      rw [e128, Nat.testBit_mod_two_pow, Nat.testBit_shiftLeft]
      by_cases h8 : n % 8 = 0
      · rw [show (n - 1) / 8 = n / 8 - 1 by omega, show 7 - (n - 1) % 8 = 0 by omega, show 7 - n % 8 = 7 by omega]
        have := Nat.testBit_lt_two_pow (x := (v.getD (n / 8) 0).toNat) (UInt8.toNat_lt _)
        rw [this]
        simp [hj1]
      · rw [show (n - 1) / 8 = n / 8 by omega, show 7 - (n - 1) % 8 = 7 - n % 8 + 1 by omega]
        have : ¬ (7 - n % 8 ≥ 7) := by omega
        simp [this, hj1]
  · have e : ∀ x : Nat, x < 2 ^ 128 → x.testBit n = false := fun x hx => Nat.testBit_lt_two_pow (Nat.lt_of_lt_of_le hx (Nat.pow_le_pow_right (by decide) (by omega)))
    rw [e _ (bN_lt _), e _ (xt_lt _ (bN_lt _))]

/-- The reference's product, step by step: a moved on, and what is added up. -/
def vG (a : List UInt8) : Nat → List UInt8
  | 0 => a
  | n + 1 => shG (vG a n)
def oG (a b : List UInt8) : Nat → List UInt8
  | 0 => List.replicate 16 0
  | n + 1 => if gbit b n then plS (oG a b n) (vG a n) else oG a b n
theorem vG_length (a : List UInt8) (h : a.length = 16) : ∀ n, (vG a n).length = 16
  | 0 => h
  | n + 1 => shG_length _
theorem oG_length (a b : List UInt8) : ∀ n, (oG a b n).length = 16
  | 0 => by rw [oG, List.length_replicate]
  | n + 1 => by
    rw [oG]
    split
    · exact plS_length _ _
    · exact oG_length a b n
theorem vG_num (a : List UInt8) : ∀ n, bN (vG a n) = xtN (bN a) n
  | 0 => rfl
  | n + 1 => by rw [vG, shG_num, vG_num a n]; rfl
theorem bN_zero : bN (List.replicate 16 0) = 0 := by decide +kernel
theorem oG_num (a b : List UInt8) : ∀ n, n ≤ 128 → bN (oG a b n) = xsum (fun k => pick ((bN b).testBit k) (xtN (bN a) k)) n
  | 0, _ => bN_zero
  | n + 1, h => by
    rw [oG, xsum, ← oG_num a b n (by omega), bN_bit b n (by omega)]
    cases hb : gbit b n
    · simp [pick]
    · simp only [if_true, pick, bN_xor, vG_num]
def prodG (a b : List UInt8) : List UInt8 := oG a b 128
theorem prodG_length (a b : List UInt8) : (prodG a b).length = 16 := oG_length a b 128
theorem prodG_num (a b : List UInt8) : bN (prodG a b) = mulN (bN a) (bN b) := oG_num a b 128 (Nat.le_refl _)
theorem prodG_comm (a b : List UInt8) : prodG a b = prodG b a := blocks_num (prodG_length _ _) (prodG_length _ _) (by rw [prodG_num, prodG_num, mulN_comm _ _ (bN_lt _) (bN_lt _)])
theorem prodG_add (a b c : List UInt8) : prodG (plS a b) c = plS (prodG a c) (prodG b c) := blocks_num (prodG_length _ _) (plS_length _ _) (by rw [prodG_num, bN_xor, bN_xor, prodG_num, prodG_num, mulN_add])
end Go.Proofs.YtoejkiblampecaaDoor
