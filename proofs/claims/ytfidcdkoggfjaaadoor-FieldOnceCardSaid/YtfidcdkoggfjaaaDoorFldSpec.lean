/- The field of the document on numbers: sums, products, powers reckoned, roots, small numbers; its laws and the chapter's examples. No program. -/
import Derived.Test.YtfidcdkoggfjaaaDoorFldOps
namespace Go.Proofs.YtfidcdkoggfjaaaDoor
set_option maxRecDepth 100000
set_option linter.unusedSimpArgs false
set_option linter.unusedVariables false

def addF (a b : Nat) : Nat := (a + b) % pF
def subF (a b : Nat) : Nat := (a + (pF - b)) % pF
def mulF (a b : Nat) : Nat := a * b % pF
def powF (a n : Nat) : Nat := a ^ n % pF
def invF (a : Nat) : Nat := powF a (pF - 2)
theorem addF_lt (a b : Nat) : addF a b < pF := Nat.mod_lt _ pF_pos
theorem subF_lt (a b : Nat) : subF a b < pF := Nat.mod_lt _ pF_pos
theorem mulF_lt (a b : Nat) : mulF a b < pF := Nat.mod_lt _ pF_pos
theorem powF_lt (a n : Nat) : powF a n < pF := Nat.mod_lt _ pF_pos
/-- The laws. -/
theorem addF_comm (a b : Nat) : addF a b = addF b a := by rw [addF, addF, Nat.add_comm]
theorem mulF_comm (a b : Nat) : mulF a b = mulF b a := by rw [mulF, mulF, Nat.mul_comm]
theorem mulF_assoc (a b c : Nat) : mulF (mulF a b) c = mulF a (mulF b c) := by
  rw [mulF, mulF, mulF, mulF, Nat.mod_mul_mod, Nat.mul_mod_mod, Nat.mul_assoc]
theorem addF_assoc (a b c : Nat) : addF (addF a b) c = addF a (addF b c) := by
  rw [addF, addF, addF, addF, Nat.mod_add_mod, Nat.add_mod_mod, Nat.add_assoc]
theorem mulF_add (a b c : Nat) : mulF a (addF b c) = addF (mulF a b) (mulF a c) := by
  rw [mulF, addF, addF, mulF, mulF, Nat.mul_mod_mod, Nat.mul_add, ← Nat.add_mod]
theorem sub_add (a b : Nat) (ha : a < pF) (hb : b < pF) : subF (addF a b) b = a := by
  rw [subF, addF, Nat.mod_add_mod, show a + b + (pF - b) = a + pF by omega, Nat.add_mod_right, Nat.mod_eq_of_lt ha]
theorem sub_self (a : Nat) (ha : a < pF) : subF a a = 0 := by rw [subF, show a + (pF - a) = pF by omega, Nat.mod_self]
theorem mul_one (a : Nat) (ha : a < pF) : mulF a 1 = a := by rw [mulF, Nat.mul_one, Nat.mod_eq_of_lt ha]
theorem mul_zero (a : Nat) : mulF a 0 = 0 := by rw [mulF, Nat.mul_zero, Nat.zero_mod]

/-- A power, reckoned bit by bit. -/
def pwC (a n : Nat) : Nat → Nat
  | 0 => 1
  | m + 1 => if n.testBit (255 - m) then (pwC a n m * pwC a n m % pF) * a % pF else pwC a n m * pwC a n m % pF
/-- The same, each square reckoned once. -/
def pwQ (a n : Nat) : Nat → Nat
  | 0 => 1
  | m + 1 => (fun x => if n.testBit (255 - m) then (x * x % pF) * a % pF else x * x % pF) (pwQ a n m)
theorem pwQ_eq (a n : Nat) : ∀ m, pwQ a n m = pwC a n m
  | 0 => rfl
  | m + 1 => by rw [pwC, ← pwQ_eq a n m]; rfl
theorem pwC_eq (a n : Nat) (h : n < 2 ^ 256) : ∀ m, m ≤ 256 → pwC a n m = pwF a n m
  | 0, _ => by rw [pwF_zero a n h]; rfl
  | m + 1, hm => by rw [pwC, pwF_step a n m (by omega), pwC_eq a n h m (by omega)]
theorem powF_reckoned (a n : Nat) (h : n < 2 ^ 256) : powF a n = pwQ a n 256 := by
  rw [pwQ_eq, pwC_eq a n h 256 (Nat.le_refl _), pwF_last]; rfl

/-- The root, as the document tells it. -/
def rootX (a : Nat) : Nat := powF a ((pF + 3) / 8)
def rootY (a : Nat) : Nat := if mulF (rootX a) (rootX a) = a then rootX a else mulF (rootX a) (powF 2 ((pF - 1) / 4))
def rootF (a : Nat) : Nat × Bool := if mulF (rootY a) (rootY a) = a then (if rootY a % 2 = 1 then subF 0 (rootY a) else rootY a, true) else (0, false)
theorem rootY_lt (a : Nat) : rootY a < pF := by
  unfold rootY
  split
  · exact powF_lt _ _
  · exact mulF_lt _ _
theorem rootF_lt (a : Nat) : (rootF a).1 < pF := by
  unfold rootF
  split
  · show (if rootY a % 2 = 1 then subF 0 (rootY a) else rootY a) < pF
    split
    · exact subF_lt _ _
    · exact rootY_lt a
  · exact pF_pos
theorem neg_square (y : Nat) (hy : y < pF) : mulF (subF 0 y) (subF 0 y) = mulF y y := by
  rw [mulF, subF, Nat.zero_add, Nat.mod_mul_mod, Nat.mul_mod_mod, mulF]
  obtain ⟨z, hz⟩ : ∃ z, z = pF - y := ⟨_, rfl⟩
  rw [← hz]
  have h1 : z + y = pF := by omega
  have h2 : (z * z + z * y) % pF = 0 := by rw [← Nat.mul_add, h1, Nat.mul_mod_left]
  have h3 : (y * y + z * y) % pF = 0 := by rw [← Nat.add_mul, Nat.add_comm y z, h1, Nat.mul_mod_right]
  have h4 : (z * z + (z * y + y * y)) % pF = (y * y) % pF := by rw [← Nat.add_assoc, Nat.add_mod, h2, Nat.zero_add, Nat.mod_mod]
  have h5 : (z * z + (z * y + y * y)) % pF = (z * z) % pF := by rw [Nat.add_comm (z * y), Nat.add_mod, h3, Nat.add_zero, Nat.mod_mod]
  rw [← h4, h5]
/-- A root's square is what it is the root of, and it is even. -/
theorem rootF_square (a : Nat) (h : (rootF a).2 = true) : mulF (rootF a).1 (rootF a).1 = a ∧ (rootF a).1 % 2 = 0 := by
  unfold rootF at *
  split
  · rename_i h1
    show mulF (if rootY a % 2 = 1 then subF 0 (rootY a) else rootY a) (if rootY a % 2 = 1 then subF 0 (rootY a) else rootY a) = a ∧ (if rootY a % 2 = 1 then subF 0 (rootY a) else rootY a) % 2 = 0
    by_cases hodd : rootY a % 2 = 1
    · rw [if_pos hodd]
      refine ⟨by rw [neg_square _ (rootY_lt a)]; exact h1, ?_⟩
      have hlt := rootY_lt a
      rw [subF, Nat.zero_add]
      have hp : pF % 2 = 1 := by decide
      have hy0 : 0 < rootY a := by omega
      rw [Nat.mod_eq_of_lt (show pF - rootY a < pF by omega)]
      omega
    · rw [if_neg hodd]; exact ⟨h1, by omega⟩
  · rename_i h1
    rw [if_neg h1] at h
    cases h
theorem rootF_none (a : Nat) (h : (rootF a).2 = false) : (rootF a).1 = 0 := by
  unfold rootF at *
  split
  · rename_i h1; rw [if_pos h1] at h; cases h
  · rfl

/-- A number as it is, negative ones too. -/
def smallF (n : Int) : Nat := (n % (pF : Int)).toNat
theorem smallF_lt (n : Int) : smallF n < pF := by
  have h1 := Int.emod_nonneg n (show (pF : Int) ≠ 0 by decide)
  have h2 := Int.emod_lt_of_pos n (show (0 : Int) < (pF : Int) by decide)
  rw [smallF]
  omega
theorem smallF_pos (n : Nat) (h : n < 9223372036854775808) : smallF (n : Int) = n := by
  have hp : 9223372036854775808 < pF := by decide
  rw [smallF, Int.emod_eq_of_lt (by omega) (by omega)]
  omega
theorem smallF_neg (n : Int) (h0 : n < 0) (h : -9223372036854775808 ≤ n) : smallF n = pF - (-n).toNat := by
  have hp : 9223372036854775808 < pF := by decide
  rw [smallF]
  have : n % (pF : Int) = n + pF := by
    rw [← Int.add_emod_right, Int.emod_eq_of_lt (by omega) (by omega)]
  rw [this]
  omega
/-- Two numbers added digit by digit: the carry into a digit. -/
def cyF (P E i : Nat) : Nat := (P % 65536 ^ i + E % 65536 ^ i) / 65536 ^ i
theorem cyF_zero (P E : Nat) : cyF P E 0 = 0 := by simp [cyF, Nat.mod_one]
theorem cyF_step (P E i : Nat) : (P / 65536 ^ i % 65536 + E / 65536 ^ i % 65536 + cyF P E i) % 65536 = (P + E) / 65536 ^ i % 65536 ∧ (P / 65536 ^ i % 65536 + E / 65536 ^ i % 65536 + cyF P E i) / 65536 = cyF P E (i + 1) := by
  have hp : 0 < 65536 ^ i := Nat.pow_pos (by decide)
  have hS : (P % 65536 ^ (i + 1) + E % 65536 ^ (i + 1)) / 65536 ^ i = P / 65536 ^ i % 65536 + E / 65536 ^ i % 65536 + cyF P E i := by
    rw [cyF, Nat.pow_succ, Nat.mod_mul, Nat.mod_mul]
    rw [show P % 65536 ^ i + 65536 ^ i * (P / 65536 ^ i % 65536) + (E % 65536 ^ i + 65536 ^ i * (E / 65536 ^ i % 65536)) = P % 65536 ^ i + E % 65536 ^ i + 65536 ^ i * (P / 65536 ^ i % 65536 + E / 65536 ^ i % 65536) by rw [Nat.mul_add]; omega]
    rw [Nat.add_mul_div_left _ _ hp]
    omega
  constructor
  · rw [← hS, ← Nat.mod_mul_right_div_self, ← Nat.pow_succ, ← Nat.add_mod, Nat.pow_succ, Nat.mod_mul_right_div_self]
  · rw [← hS, Nat.div_div_eq_div_mul, ← Nat.pow_succ]; rfl
/-- A negative number and 2 to the 256. -/
def negE (n : Int) : Nat := mF - (-n).toNat
theorem negE_digit (n : Int) (h0 : n < 0) (h : -9223372036854775808 ≤ n) (i : Nat) (hi : i < 16) : ((negE n / 65536 ^ i % 65536 : Nat) : Int) = if i > 3 then 65535 else n / 65536 ^ i % 65536 := by
  have em : mF = 115792089237316195423570985008687907853269984665640564039457584007913129639936 := rfl
  have hE : ((negE n : Nat) : Int) = (mF : Int) + n := by
    rw [negE]
    have : (-n).toNat ≤ mF := by rw [em]; omega
    omega
  have hc : ((negE n / 65536 ^ i % 65536 : Nat) : Int) = ((mF : Int) + n) / 65536 ^ i % 65536 := by rw [← hE]; simp
  rw [hc, em]
  rcases (show i = 0 ∨ i = 1 ∨ i = 2 ∨ i = 3 ∨ i = 4 ∨ i = 5 ∨ i = 6 ∨ i = 7 ∨ i = 8 ∨ i = 9 ∨ i = 10 ∨ i = 11 ∨ i = 12 ∨ i = 13 ∨ i = 14 ∨ i = 15 by omega) with rfl | rfl | rfl | rfl | rfl | rfl | rfl | rfl | rfl | rfl | rfl | rfl | rfl | rfl | rfl | rfl <;> first | (rw [if_pos (by decide)]; omega) | (rw [if_neg (by decide)]; omega)
theorem small_neg_ref (n : Int) (h0 : n < 0) (h : -9223372036854775808 ≤ n) : mkD (fun j => (pF + negE n) / 65536 ^ j % 65536) = digN (smallF n) := by
  have em : mF = 115792089237316195423570985008687907853269984665640564039457584007913129639936 := rfl
  have ep : pF = 57896044618658097711785492504343953926634992332820282019728792003956564819949 := rfl
  have h1 : pF + negE n = smallF n + mF := by
    rw [smallF_neg n h0 h, negE]
    rw [em, ep]
    omega
  have h2 := eq_digN (mkD fun j => (smallF n + mF) / 65536 ^ j % 65536) (mkD_length _) (fun j hj => by rw [mkD_get _ _ hj]; exact Nat.mod_lt _ (by decide))
  rw [h1]
  refine nums_ext (mkD_length _) (digN_length _) fun j hj => ?_
  rw [mkD_get _ _ hj, digN_get _ _ hj]
  have hd : mF = 65536 ^ j * 65536 ^ (16 - j) := by rw [← Nat.pow_add, show j + (16 - j) = 16 by omega]; exact mF_pow.symm
  rw [hd, Nat.add_mul_div_left _ _ (Nat.pow_pos (by decide))]
  obtain ⟨k, hk⟩ : ∃ k, 16 - j = k + 1 := ⟨15 - j, by omega⟩
  rw [hk, Nat.pow_succ, Nat.add_mul_mod_self_right]
theorem example_inv : mulF (invF 2) 2 = 1 := by
  rw [invF, powF_reckoned _ _ (by decide)]
  decide +kernel
theorem example_root4 : rootF 4 = (2, true) := by
  have h : rootX 4 = pwQ 4 ((pF + 3) / 8) 256 := powF_reckoned _ _ (by decide)
  have h2 : powF 2 ((pF - 1) / 4) = pwQ 2 ((pF - 1) / 4) 256 := powF_reckoned _ _ (by decide)
  rw [rootF, rootY, h, h2]
  decide +kernel
theorem example_root2 : rootF 2 = (0, false) := by
  have h : rootX 2 = pwQ 2 ((pF + 3) / 8) 256 := powF_reckoned _ _ (by decide)
  have h2 : powF 2 ((pF - 1) / 4) = pwQ 2 ((pF - 1) / 4) 256 := powF_reckoned _ _ (by decide)
  rw [rootF, rootY, h, h2]
  decide +kernel
end Go.Proofs.YtfidcdkoggfjaaaDoor
