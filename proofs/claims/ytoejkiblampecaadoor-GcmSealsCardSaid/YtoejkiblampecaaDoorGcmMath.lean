/- Polynomials over the field with two elements, modulo x^128 + x^7 + x^2 + x + 1, as numbers: the product adds and goes in any order. Arithmetic alone. -/
import Derived.Test.YtoejkiblampecaaDoorArr
namespace Go.Proofs.YtoejkiblampecaaDoor
open Go.RowKit
set_option maxRecDepth 100000
set_option linter.unusedSimpArgs false
set_option linter.unusedVariables false

/-- The xor of so many numbers. -/
def xsum (f : Nat → Nat) : Nat → Nat
  | 0 => 0
  | k + 1 => xsum f k ^^^ f k
theorem xsum_congr {f g : Nat → Nat} : ∀ n, (∀ i, i < n → f i = g i) → xsum f n = xsum g n
  | 0, _ => rfl
  | n + 1, h => by rw [xsum, xsum, xsum_congr n fun i hi => h i (by omega), h n (by omega)]
theorem nxor_lc (x y z : Nat) : x ^^^ (y ^^^ z) = y ^^^ (x ^^^ z) := by rw [← Nat.xor_assoc, Nat.xor_comm x y, Nat.xor_assoc]
theorem xsum_xor (f g : Nat → Nat) : ∀ n, xsum (fun i => f i ^^^ g i) n = xsum f n ^^^ xsum g n
  | 0 => by simp [xsum]
  | n + 1 => by
    simp only [xsum, xsum_xor f g n]
    simp only [Nat.xor_assoc]
    rw [nxor_lc (xsum g n)]
theorem xsum_zero : ∀ n, xsum (fun _ => 0) n = 0
  | 0 => rfl
  | n + 1 => by rw [xsum, xsum_zero n]; rfl
/-- Two sums go in any order. -/
theorem xsum_swap (f : Nat → Nat → Nat) (m : Nat) : ∀ n, xsum (fun i => xsum (f i) m) n = xsum (fun j => xsum (fun i => f i j) n) m
  | 0 => by simp only [xsum]; rw [xsum_zero]
  | n + 1 => by
    simp only [xsum]
    rw [xsum_swap f m n, ← xsum_xor]
/-- A map that adds, of a sum. -/
theorem xsum_map (g : Nat → Nat) (h0 : g 0 = 0) (hg : ∀ a b, g (a ^^^ b) = g a ^^^ g b) (f : Nat → Nat) : ∀ n, g (xsum f n) = xsum (fun i => g (f i)) n
  | 0 => h0
  | n + 1 => by simp only [xsum]; rw [hg, xsum_map g h0 hg f n]
theorem xsum_bit (f : Nat → Nat) (j : Nat) : ∀ n, (xsum f n).testBit j = (List.range n).foldl (fun b i => b ^^ (f i).testBit j) false
  | 0 => by simp [xsum]
  | n + 1 => by rw [xsum, Nat.testBit_xor, xsum_bit f j n, List.range_succ, List.foldl_append]; rfl

/-- What is taken if a bit is set. -/
def pick (b : Bool) (v : Nat) : Nat := if b then v else 0
theorem pick_xor (b : Bool) (u v : Nat) : pick b (u ^^^ v) = pick b u ^^^ pick b v := by cases b <;> simp [pick]
theorem pick_xorB (b c : Bool) (v : Nat) : pick (b ^^ c) v = pick b v ^^^ pick c v := by
  cases b <;> cases c <;> simp [pick]
theorem pick_lt {n : Nat} (b : Bool) (v : Nat) (h : v < 2 ^ n) : pick b v < 2 ^ n := by
  cases b
  · exact Nat.two_pow_pos n
  · exact h
/-- The product with x. -/
def xt (v : Nat) : Nat := (v * 2) ^^^ pick (v.testBit 127) 340282366920938463463374607431768211591
theorem twice_xor (a b : Nat) : (a ^^^ b) * 2 = a * 2 ^^^ b * 2 := by
  apply Nat.eq_of_testBit_eq
  intro j
  have e : ∀ x : Nat, x * 2 = x <<< 1 := fun x => by rw [Nat.shiftLeft_eq]
  rw [e, e, e, Nat.testBit_xor]
  simp only [Nat.testBit_shiftLeft, Nat.testBit_xor]
  cases decide (j ≥ 1) <;> simp
theorem xt_xor (a b : Nat) : xt (a ^^^ b) = xt a ^^^ xt b := by
  simp only [xt, twice_xor, Nat.testBit_xor, pick_xorB]
  simp only [Nat.xor_assoc]
  rw [nxor_lc (b * 2)]
theorem xt_zero : xt 0 = 0 := rfl
theorem bit_eq (v j n : Nat) (hv : v < 2 ^ (n + 1)) (h : v.testBit n = false) : v < 2 ^ n := by
  apply Nat.lt_pow_two_of_testBit
  intro i hi
  by_cases e : i = n
  · subst e; exact h
  · exact Nat.testBit_lt_two_pow (Nat.lt_of_lt_of_le hv (Nat.pow_le_pow_right (by decide) (by omega)))
theorem xt_lt (v : Nat) (h : v < 2 ^ 128) : xt v < 2 ^ 128 := by
  have h129 : xt v < 2 ^ 129 := by
    unfold xt
    refine Nat.xor_lt_two_pow ?_ (pick_lt _ _ (by decide))
    have : (2 : Nat) ^ 129 = 2 ^ 128 * 2 := by rw [Nat.pow_succ]
    omega
  refine bit_eq _ 0 128 h129 ?_
  unfold xt
  have e : v * 2 = v <<< 1 := by rw [Nat.shiftLeft_eq]
  rw [Nat.testBit_xor, e, Nat.testBit_shiftLeft]
  cases hb : v.testBit 127
  · simp [pick, hb]
  · have : Nat.testBit 340282366920938463463374607431768211591 128 = true := by decide +kernel
    simp [pick, hb, this]
def xtN (v : Nat) : Nat → Nat
  | 0 => v
  | k + 1 => xt (xtN v k)
theorem xtN_xor (a b : Nat) : ∀ k, xtN (a ^^^ b) k = xtN a k ^^^ xtN b k
  | 0 => rfl
  | k + 1 => by rw [xtN, xtN, xtN, xtN_xor a b k, xt_xor]
theorem xtN_zero : ∀ k, xtN 0 k = 0
  | 0 => rfl
  | k + 1 => by rw [xtN, xtN_zero k]; rfl
theorem xtN_lt (v : Nat) (h : v < 2 ^ 128) : ∀ k, xtN v k < 2 ^ 128
  | 0 => h
  | k + 1 => xt_lt _ (xtN_lt v h k)
theorem xtN_add (v m : Nat) : ∀ n, xtN (xtN v m) n = xtN v (m + n)
  | 0 => rfl
  | n + 1 => by rw [xtN, xtN_add v m n]; rfl
theorem xtN_one : ∀ m, m < 128 → xtN 1 m = 2 ^ m
  | 0, _ => rfl
  | m + 1, h => by
    rw [xtN, xtN_one m (by omega), xt, Nat.testBit_two_pow_of_ne (by omega), Nat.pow_succ]
    simp [pick]
theorem xtN_pick (b : Bool) (v k : Nat) : xtN (pick b v) k = pick b (xtN v k) := by
  cases b
  · exact xtN_zero k
  · rfl
/-- The product of two polynomials. -/
def mulN (a b : Nat) : Nat := xsum (fun n => pick (b.testBit n) (xtN a n)) 128
/-- A polynomial is the sum of its powers. -/
theorem bits_sum (a : Nat) (h : a < 2 ^ 128) : a = xsum (fun m => pick (a.testBit m) (xtN 1 m)) 128 := by
  have hs : xsum (fun m => pick (a.testBit m) (xtN 1 m)) 128 = xsum (fun m => pick (a.testBit m) (2 ^ m)) 128 := xsum_congr 128 fun i hi => by rw [xtN_one i hi]
  rw [hs]
  have key : ∀ n j, (xsum (fun m => pick (a.testBit m) (2 ^ m)) n).testBit j = (decide (j < n) && a.testBit j) := by
    intro n
    induction n with
    | zero => intro j; simp [xsum]
    | succ n ih =>
      intro j
      rw [xsum, Nat.testBit_xor, ih j]
      by_cases e : j = n
      · subst e
        cases hb : a.testBit j <;> simp [pick, hb, Nat.testBit_two_pow_self]
      · have hz : (pick (a.testBit n) (2 ^ n)).testBit j = false := by
          cases a.testBit n
          · simp [pick]
          · simp only [pick, if_true]; exact Nat.testBit_two_pow_of_ne (fun h => e h.symm)
        rw [hz]
        by_cases h2 : j < n
        · simp [h2, show j < n + 1 by omega]
        · simp [h2, show ¬ j < n + 1 by omega]
  apply Nat.eq_of_testBit_eq
  intro j
  rw [key 128 j]
  by_cases hj : j < 128
  · simp [hj]
  · simp [hj, Nat.testBit_lt_two_pow (Nat.lt_of_lt_of_le h (Nat.pow_le_pow_right (by decide) (show 128 ≤ j by omega)))]
theorem mulN_two (a b : Nat) (ha : a < 2 ^ 128) : mulN a b = xsum (fun n => xsum (fun m => pick (b.testBit n && a.testBit m) (xtN 1 (m + n))) 128) 128 := by
  unfold mulN
  refine xsum_congr 128 fun n _ => ?_
  conv => lhs; rw [bits_sum a ha]
  rw [xsum_map (fun v => xtN v n) (xtN_zero n) (fun u v => xtN_xor u v n), xsum_map (pick (b.testBit n)) (by cases b.testBit n <;> rfl) (pick_xor _)]
  refine xsum_congr 128 fun m _ => ?_
  rw [xtN_pick, xtN_add]
  cases b.testBit n <;> cases a.testBit m <;> rfl
/-- The product goes in any order. -/
theorem mulN_comm (a b : Nat) (ha : a < 2 ^ 128) (hb : b < 2 ^ 128) : mulN a b = mulN b a := by
  rw [mulN_two a b ha, mulN_two b a hb, xsum_swap (fun n m => pick (b.testBit n && a.testBit m) (xtN 1 (m + n)))]
  refine xsum_congr 128 fun i _ => xsum_congr 128 fun j _ => ?_
  rw [Bool.and_comm, Nat.add_comm]
theorem mulN_add (a b c : Nat) : mulN (a ^^^ b) c = mulN a c ^^^ mulN b c := by
  unfold mulN
  rw [← xsum_xor]
  refine xsum_congr 128 fun n _ => ?_
  rw [xtN_xor, pick_xor]
theorem xsum_lt (f : Nat → Nat) (h : ∀ i, f i < 2 ^ 128) : ∀ n, xsum f n < 2 ^ 128
  | 0 => by simp [xsum]
  | n + 1 => Nat.xor_lt_two_pow (xsum_lt f h n) (h n)
theorem mulN_lt (a b : Nat) (ha : a < 2 ^ 128) : mulN a b < 2 ^ 128 := xsum_lt _ (fun i => pick_lt _ _ (xtN_lt a ha i)) 128
end Go.Proofs.YtoejkiblampecaaDoor
