/- Numbers modulo the order L on digits of sixteen bits: the arithmetic of the reference's scalar. No program. -/
import Derived.Test.YtjgpcfjnanideaaDoorFldA
namespace Go.Proofs.YtjgpcfjnanideaaDoor
set_option maxRecDepth 100000
set_option linter.unusedSimpArgs false
set_option linter.unusedVariables false

def lF : Nat := 7237005577332262213973186563042994240857116359379907606001950938285454250989
theorem lF_pow : lF = 2 ^ 252 + 27742317777372353535851937790883648493 := by decide
theorem lF_pos : 0 < lF := by decide
theorem lF_lt : lF < mF := by decide
theorem lF_digits : digN lF = [54253, 23797, 25370, 22546, 40150, 41719, 63966, 5342, 0, 0, 0, 0, 0, 0, 0, 4096] := by decide +kernel
/-- So many digits made one by one. -/
def mkN (n : Nat) (f : Nat → Nat) : List Nat := (List.range n).map f
theorem mkN_length (n : Nat) (f : Nat → Nat) : (mkN n f).length = n := by simp [mkN]
theorem mkN_get (n : Nat) (f : Nat → Nat) (j : Nat) (h : j < n) : (mkN n f).getD j 0 = f j := nrange_getD _ _ _ h
theorem mkN_set (n : Nat) (f g : Nat → Nat) (i : Nat) (hi : i < n) (h : ∀ j, j < n → j ≠ i → f j = g j) : (mkN n f).set i (g i) = mkN n g := nums_ext (by rw [List.length_set, mkN_length]) (mkN_length _ _) fun j hj => by
  rw [nset_getD _ _ _ _ (by rw [mkN_length]; exact hi), mkN_get n g j hj]
  by_cases e : j = i
  · rw [if_pos e, e]
  · rw [if_neg e, mkN_get n f j hj, h j hj e]
theorem mkN_snoc (n : Nat) (f : Nat → Nat) : mkN n f ++ [f n] = mkN (n + 1) f := by simp [mkN, List.range_succ]
theorem dS_mkN (x : Nat) : ∀ n, dS (mkN n fun j => x / 65536 ^ j % 65536) n = x % 65536 ^ n
  | 0 => by simp [dS, Nat.mod_one]
  | n + 1 => by
    rw [dS_step, mkN_get _ _ _ (Nat.lt_succ_self n), dS_congr _ (mkN n fun j => x / 65536 ^ j % 65536) n (fun j hj => by rw [mkN_get _ _ _ (by omega), mkN_get _ _ _ hj]), dS_mkN x n, Nat.pow_succ, Nat.mod_mul, Nat.mul_comm (65536 ^ n)]

/-- The first digit from the top that is unlike tells which number is less. -/
theorem dS_less (a b : List Nat) (i n : Nat) (hi : i < n) (h : a.getD i 0 < b.getD i 0) (ha : ∀ j, j < n → a.getD j 0 < 65536) (htop : ∀ j, i < j → j < n → a.getD j 0 = b.getD j 0) : dS a n < dS b n := by
  induction n with
  | zero => omega
  | succ n ih =>
    rw [dS_step, dS_step]
    by_cases e : i = n
    · subst e
      have h1 := dS_lt a i (fun j hj => ha j (by omega))
      have h2 : (a.getD i 0 + 1) * 65536 ^ i ≤ b.getD i 0 * 65536 ^ i := Nat.mul_le_mul_right _ h
      rw [Nat.add_mul, Nat.one_mul] at h2
      omega
    · have := ih (by omega) (fun j hj => ha j (by omega)) (fun j h1 h2 => htop j h1 (by omega))
      rw [htop n (by omega) (by omega)]
      omega
theorem digN_less (x y i : Nat) (hi : i < 16) (hx : x < mF) (hy : y < mF) (htop : ∀ j, i < j → j < 16 → (digN x).getD j 0 = (digN y).getD j 0) (hne : (digN x).getD i 0 ≠ (digN y).getD i 0) : ((digN x).getD i 0 < (digN y).getD i 0) ↔ x < y := by
  constructor
  · intro h
    have := dS_less (digN x) (digN y) i 16 hi h (fun j hj => digN_lt x j hj) htop
    rwa [digN_val x hx, digN_val y hy] at this
  · intro h
    rcases Nat.lt_or_ge ((digN x).getD i 0) ((digN y).getD i 0) with h1 | h1
    · exact h1
    · exfalso
      have := dS_less (digN y) (digN x) i 16 hi (by omega) (fun j hj => digN_lt y j hj) (fun j h2 h3 => (htop j h2 h3).symm)
      rw [digN_val x hx, digN_val y hy] at this
      omega
theorem digN_same (x y : Nat) (hx : x < mF) (hy : y < mF) (h : ∀ j, j < 16 → (digN x).getD j 0 = (digN y).getD j 0) : x = y := by
  have := dS_congr (digN x) (digN y) 16 h
  rwa [digN_val x hx, digN_val y hy] at this

/-- Twice a number and a bit: the carry into a digit. -/
def cy2 (x b i : Nat) : Nat := (2 * (x % 65536 ^ i) + b) / 65536 ^ i
theorem cy2_zero (x b : Nat) : cy2 x b 0 = b := by simp [cy2, Nat.mod_one]
theorem cy2_step (x b i : Nat) (hb : b < 2) : (cy2 x b i + 2 * (x / 65536 ^ i % 65536)) % 65536 = (2 * x + b) / 65536 ^ i % 65536 ∧ (cy2 x b i + 2 * (x / 65536 ^ i % 65536)) / 65536 = cy2 x b (i + 1) := by
  have hp : 0 < 65536 ^ i := Nat.pow_pos (by decide)
  have hS : (2 * (x % 65536 ^ (i + 1)) + b) / 65536 ^ i = cy2 x b i + 2 * (x / 65536 ^ i % 65536) := by
    rw [cy2, Nat.pow_succ, Nat.mod_mul]
    rw [show 2 * (x % 65536 ^ i + 65536 ^ i * (x / 65536 ^ i % 65536)) + b = 2 * (x % 65536 ^ i) + b + 65536 ^ i * (2 * (x / 65536 ^ i % 65536)) by rw [Nat.mul_add, Nat.mul_left_comm 2]; omega]
    rw [Nat.add_mul_div_left _ _ hp]
  have hm : (2 * (x % 65536 ^ (i + 1)) + b) % 65536 ^ (i + 1) = (2 * x + b) % 65536 ^ (i + 1) := by
    rw [Nat.add_mod, Nat.mul_mod, Nat.mod_mod, ← Nat.mul_mod, ← Nat.add_mod]
  constructor
  · rw [← hS, ← Nat.mod_mul_right_div_self, ← Nat.pow_succ, hm, Nat.pow_succ, Nat.mod_mul_right_div_self]
  · rw [← hS, Nat.div_div_eq_div_mul, ← Nat.pow_succ]; rfl
/-- A number less another one that is no greater: what is borrowed from a digit. -/
def brF (x y i : Nat) : Nat := if x % 65536 ^ i < y % 65536 ^ i then 1 else 0
theorem brF_zero (x y : Nat) : brF x y 0 = 0 := by simp [brF, Nat.mod_one]
theorem brF_step (x y i : Nat) (h : y ≤ x) : (((x / 65536 ^ i % 65536 : Nat) : Int) - ((y / 65536 ^ i % 65536 : Nat) : Int) - ((brF x y i : Nat) : Int)) % 65536 = (((x - y) / 65536 ^ i % 65536 : Nat) : Int) ∧ (((x / 65536 ^ i % 65536 : Nat) : Int) - ((y / 65536 ^ i % 65536 : Nat) : Int) - ((brF x y i : Nat) : Int)) / 65536 = -((brF x y (i + 1) : Nat) : Int) := by
  obtain ⟨P, hP⟩ : ∃ P, P = 65536 ^ i := ⟨_, rfl⟩
  have hp : 0 < P := by rw [hP]; exact Nat.pow_pos (by decide)
  rw [brF, brF, Nat.pow_succ, Nat.mod_mul, Nat.mod_mul, ← hP]
  have hx := Nat.mod_add_div x P; have hy := Nat.mod_add_div y P
  have hx1 := Nat.mod_lt x hp; have hy1 := Nat.mod_lt y hp
  -- the quotient of the difference
  have hq : (x - y) / P = x / P - y / P - (if x % P < y % P then 1 else 0) := by
    have hle : y / P ≤ x / P := Nat.div_le_div_right h
    by_cases hc : x % P < y % P
    · rw [if_pos hc]
      have hlt : y / P < x / P := by
        rcases Nat.lt_or_ge (y / P) (x / P) with h1 | h1
        · exact h1
        · exfalso
          have : x / P = y / P := by omega
          rw [this] at hx
          omega
      have : x - y = P * (x / P - y / P - 1) + (P + x % P - y % P) := by
        obtain ⟨k, hk⟩ : ∃ k, x / P = y / P + k + 1 := ⟨x / P - y / P - 1, by omega⟩
        rw [hk] at hx ⊢
        rw [show y / P + k + 1 - y / P - 1 = k by omega]
        rw [Nat.mul_add, Nat.mul_add, Nat.mul_one] at hx
        omega
      rw [this, Nat.mul_add_div hp, Nat.div_eq_of_lt (show P + x % P - y % P < P by omega), Nat.add_zero]
    · rw [if_neg hc, Nat.sub_zero]
      have : x - y = P * (x / P - y / P) + (x % P - y % P) := by
        obtain ⟨k, hk⟩ : ∃ k, x / P = y / P + k := ⟨x / P - y / P, by omega⟩
        rw [hk] at hx ⊢
        rw [show y / P + k - y / P = k by omega]
        rw [Nat.mul_add] at hx
        omega
      rw [this, Nat.mul_add_div hp, Nat.div_eq_of_lt (show x % P - y % P < P by omega), Nat.add_zero]
  have hle : y / P + (if x % P < y % P then 1 else 0) ≤ x / P := by
    by_cases hc : x % P < y % P
    · rw [if_pos hc]
      rcases Nat.lt_or_ge (y / P) (x / P) with h1 | h1
      · omega
      · exfalso
        have h2 : x / P = y / P := Nat.le_antisymm h1 (Nat.div_le_div_right h)
        rw [h2] at hx
        omega
    · rw [if_neg hc]; exact Nat.div_le_div_right h
  have hcmp : (x % P + P * (x / P % 65536) < y % P + P * (y / P % 65536)) ↔ (x / P % 65536 < y / P % 65536 + (if x % P < y % P then 1 else 0)) := by
    by_cases hc : x % P < y % P
    · rw [if_pos hc]
      constructor
      · intro h1
        rcases Nat.lt_or_ge (x / P % 65536) (y / P % 65536 + 1) with h2 | h2
        · exact h2
        · exfalso
          have : P * (y / P % 65536 + 1) ≤ P * (x / P % 65536) := Nat.mul_le_mul_left _ h2
          rw [Nat.mul_add, Nat.mul_one] at this
          omega
      · intro h1
        have : P * (x / P % 65536) ≤ P * (y / P % 65536) := Nat.mul_le_mul_left _ (by omega)
        omega
    · rw [if_neg hc]
      constructor
      · intro h1
        rcases Nat.lt_or_ge (x / P % 65536) (y / P % 65536) with h2 | h2
        · omega
        · exfalso
          have : P * (y / P % 65536) ≤ P * (x / P % 65536) := Nat.mul_le_mul_left _ h2
          omega
      · intro h1
        have : P * (x / P % 65536 + 1) ≤ P * (y / P % 65536) := Nat.mul_le_mul_left _ (by omega)
        rw [Nat.mul_add, Nat.mul_one] at this
        omega
  rw [hq]
  simp only [hcmp]
  clear hcmp hq hx hy
  by_cases hc : x % P < y % P
  · simp only [if_pos hc] at *
    split <;> constructor <;> omega
  · simp only [if_neg hc] at *
    split <;> constructor <;> omega
/-- Twice a number and a bit, modulo L. -/
theorem twice_mod (x b : Nat) (hx : x < lF) (hb : b < 2) : (2 * x + b) % lF = if 2 * x + b < lF then 2 * x + b else 2 * x + b - lF := by
  split
  · rename_i h; exact Nat.mod_eq_of_lt h
  · rename_i h
    rw [Nat.mod_eq_sub_mod (by omega), Nat.mod_eq_of_lt (by omega)]
/-- A number's remainder, bit by bit from the top. -/
theorem rest_step (n m : Nat) : (2 * (n / 2 ^ (m + 1) % lF) + n / 2 ^ m % 2) % lF = n / 2 ^ m % lF := by
  have h : n / 2 ^ m = 2 * (n / 2 ^ (m + 1)) + n / 2 ^ m % 2 := by
    rw [Nat.pow_succ, ← Nat.div_div_eq_div_mul]
    omega
  conv => rhs; rw [h]
  rw [Nat.add_mod, Nat.mul_mod_mod, ← Nat.add_mod]
/-- A bit of a number is one of its digits'. -/
theorem dS_bit (v : List Nat) (n i k : Nat) (h : ∀ j, j < n → v.getD j 0 < 65536) (hi : i < n) (hk : k < 16) : v.getD i 0 / 2 ^ k % 2 = dS v n / 2 ^ (16 * i + k) % 2 := by
  rw [← dS_digit v n i h hi, Nat.pow_add, Nat.pow_mul, ← Nat.div_div_eq_div_mul]
  show dS v n / 65536 ^ i % 65536 / 2 ^ k % 2 = dS v n / 65536 ^ i / 2 ^ k % 2
  generalize dS v n / 65536 ^ i = q
  have hb := Nat.testBit_mod_two_pow q 16 k
  rw [Nat.testBit_eq_decide_div_mod_eq, Nat.testBit_eq_decide_div_mod_eq, decide_eq_true hk, Bool.true_and] at hb
  have hb2 := decide_eq_decide.1 hb
  rw [show (2 : Nat) ^ 16 = 65536 from rfl] at hb2
  omega
/-- The products of one digit with the other number's, laid one by one into 32 digits. -/
def prK (a b : List Nat) (i : Nat) (v : List Nat) : Nat → List Nat
  | 0 => v
  | k + 1 => (prK a b i v k).set (i + k) ((prK a b i v k).getD (i + k) 0 + a.getD i 0 * b.getD k 0)
theorem prK_length (a b : List Nat) (i : Nat) (v : List Nat) : ∀ k, (prK a b i v k).length = v.length
  | 0 => rfl
  | k + 1 => by rw [prK, List.length_set]; exact prK_length a b i v k
theorem prK_val (a b : List Nat) (i N : Nat) (v : List Nat) (hl : v.length = N) : ∀ k, i + k ≤ N → dS (prK a b i v k) N = dS v N + a.getD i 0 * 65536 ^ i * dS b k := by
  intro k
  induction k with
  | zero => intro _; rw [show prK a b i v 0 = v from rfl, show dS b 0 = 0 from rfl, Nat.mul_zero, Nat.add_zero]
  | succ k ih =>
    intro h
    have ih := ih (by omega)
    have hlen := prK_length a b i v k
    have e0 : prK a b i v (k + 1) = (prK a b i v k).set (i + k) ((prK a b i v k).getD (i + k) 0 + a.getD i 0 * b.getD k 0) := rfl
    rw [e0, dS_step b k]
    clear e0
    generalize prK a b i v k = u at *
    have hs := dS_set u (i + k) (u.getD (i + k) 0 + a.getD i 0 * b.getD k 0) (by omega) N (by omega)
    have ht : a.getD i 0 * 65536 ^ i * (dS b k + b.getD k 0 * 65536 ^ k) = a.getD i 0 * 65536 ^ i * dS b k + a.getD i 0 * b.getD k 0 * 65536 ^ (i + k) := by
      rw [Nat.mul_add, Nat.pow_add]
      congr 1
      rw [Nat.mul_assoc, Nat.mul_assoc, Nat.mul_left_comm (65536 ^ i)]
    rw [ht]
    rw [Nat.add_mul] at hs
    generalize dS (u.set (i + k) (u.getD (i + k) 0 + a.getD i 0 * b.getD k 0)) N = D1 at *
    generalize dS u N = D0 at *
    generalize dS v N = Dv at *
    generalize u.getD (i + k) 0 * 65536 ^ (i + k) = z1 at *
    omega
theorem prK_le (a b : List Nat) (i : Nat) (v : List Nat) (X : Nat) (ha : a.getD i 0 < 65536) (hb : ∀ k, k < 16 → b.getD k 0 < 65536) (hl : v.length = 32) (hi : i < 16) (hv : ∀ j, j < 32 → v.getD j 0 ≤ X) : ∀ k, k ≤ 16 → ∀ j, j < 32 → (prK a b i v k).getD j 0 ≤ X + k * 4294967296
  | 0, _, j, hj => Nat.le_trans (hv j hj) (Nat.le_add_right _ _)
  | k + 1, h, j, hj => by
    have ih := prK_le a b i v X ha hb hl hi hv k (by omega)
    have hab : a.getD i 0 * b.getD k 0 ≤ 65535 * 65535 := Nat.mul_le_mul (by omega) (by have := hb k (by omega); omega)
    rw [prK, nset_getD _ _ _ _ (by rw [prK_length]; omega)]
    split
    · have := ih (i + k) (by omega); omega
    · exact Nat.le_trans (ih j hj) (Nat.add_le_add_left (Nat.mul_le_mul_right _ (Nat.le_succ k)) X)
def prI (a b c : List Nat) : Nat → List Nat
  | 0 => mkN 32 fun _ => 0
  | i + 1 => prK a b i ((prI a b c i).set i ((prI a b c i).getD i 0 + c.getD i 0)) 16
theorem prI_length (a b c : List Nat) : ∀ i, (prI a b c i).length = 32
  | 0 => mkN_length _ _
  | i + 1 => by rw [prI, prK_length, List.length_set]; exact prI_length a b c i
theorem prI_val (a b c : List Nat) (N : Nat) (hN : N = 32) : ∀ i, i ≤ 16 → dS (prI a b c i) N = dS a i * dS b 16 + dS c i := by
  intro i
  induction i with
  | zero =>
    intro _
    rw [show dS a 0 = 0 from rfl, show dS c 0 = 0 from rfl, Nat.zero_mul]
    have h := dS_le (prI a b c 0) 0 N (fun j hj => by rw [prI, mkN_get _ _ _ (by omega)]; exact Nat.le_refl _)
    omega
  | succ i ih =>
    intro h
    have ih := ih (by omega)
    have hlen := prI_length a b c i
    have e0 : prI a b c (i + 1) = prK a b i ((prI a b c i).set i ((prI a b c i).getD i 0 + c.getD i 0)) 16 := rfl
    rw [e0, prK_val a b i N _ (by rw [List.length_set, hlen, hN]) 16 (by omega), dS_step a i, dS_step c i]
    clear e0
    have hs := dS_set (prI a b c i) i ((prI a b c i).getD i 0 + c.getD i 0) (by omega) N (by omega)
    rw [Nat.add_mul] at hs ⊢
    generalize dS ((prI a b c i).set i ((prI a b c i).getD i 0 + c.getD i 0)) N = D1 at *
    generalize dS (prI a b c i) N = D0 at *
    generalize (prI a b c i).getD i 0 * 65536 ^ i = z1 at *
    generalize a.getD i 0 * 65536 ^ i * dS b 16 = z2 at *
    generalize dS a i * dS b 16 = z3 at *
    omega
theorem prI_le (a b c : List Nat) (ha : ∀ k, k < 16 → a.getD k 0 < 65536) (hb : ∀ k, k < 16 → b.getD k 0 < 65536) (hc : ∀ k, k < 16 → c.getD k 0 < 65536) : ∀ i, i ≤ 16 → ∀ j, j < 32 → (prI a b c i).getD j 0 ≤ i * 68719542272
  | 0, _, j, hj => by rw [prI, mkN_get _ _ _ hj]; exact Nat.zero_le _
  | i + 1, h, j, hj => by
    have ih := prI_le a b c ha hb hc i (by omega)
    have hlen := prI_length a b c i
    have := prK_le a b i ((prI a b c i).set i ((prI a b c i).getD i 0 + c.getD i 0)) (i * 68719542272 + 65536) (ha i (by omega)) hb (by rw [List.length_set, hlen]) (by omega) (fun j hj => by
      rw [nset_getD _ _ _ _ (by omega)]
      split
      · have := ih i (by omega); have := hc i (by omega); omega
      · exact Nat.le_trans (ih j hj) (Nat.le_add_right _ _)) 16 (Nat.le_refl _) j hj
    rw [prI]
    omega
/-- What is carried through: the digits of the product and the sum. -/
theorem top_zero (W V q D z y zc : Nat) (hWV : V * V ≤ W) (hD : D < W) (hz : z * y < W + 1) (ha : z < V) (hb : y < V) (hc : zc < V) (hr : D + q * W = z * y + zc) : D = z * y + zc := by
  have hq : q = 0 := by
    rcases Nat.eq_zero_or_pos q with h | h
    · exact h
    · exfalso
      have h1 : 1 * W ≤ q * W := Nat.mul_le_mul_right _ h
      have h2 : (z + 1) * (y + 1) ≤ V * V := Nat.mul_le_mul ha hb
      rw [Nat.add_mul, Nat.mul_add, Nat.one_mul, Nat.mul_one] at h2
      have h3 : (z + 1) * V ≤ V * V := Nat.mul_le_mul_right _ ha
      have h4 : z * y ≤ z * V := Nat.mul_le_mul_left _ (by omega)
      rw [Nat.add_mul, Nat.one_mul] at h3
      omega
  rw [hq, Nat.zero_mul, Nat.add_zero] at hr
  exact hr
theorem mulAdd_digits (a b c : List Nat) (N M : Nat) (hN : N = 32) (hM : M = 16) (ha : ∀ k, k < M → a.getD k 0 < 65536) (hb : ∀ k, k < M → b.getD k 0 < 65536) (hc : ∀ k, k < M → c.getD k 0 < 65536) (hv : dS (prI a b c M) N = dS a M * dS b M + dS c M) (hl : (prI a b c M).length = N) : (∀ j, j < N → (rnd (prI a b c M) N).1.getD j 0 < 65536) ∧ dS (rnd (prI a b c M) N).1 N = dS a M * dS b M + dS c M := by
  have hr := rnd_val (prI a b c M) N hl N (Nat.le_refl _)
  have hlow : ∀ j, j < N → (rnd (prI a b c M) N).1.getD j 0 < 65536 := fun j hj => rnd_low _ N (by omega) j hj
  refine ⟨hlow, ?_⟩
  have h1 := dS_lt _ N hlow
  have ha1 := dS_lt a M ha; have hb1 := dS_lt b M hb; have hc1 := dS_lt c M hc
  rw [hv] at hr
  have hW : 65536 ^ M * 65536 ^ M ≤ 65536 ^ N := by rw [← Nat.pow_add]; exact Nat.pow_le_pow_right (by decide) (by omega)
  exact top_zero (65536 ^ N) (65536 ^ M) _ _ _ _ _ hW h1 (Nat.lt_succ_of_le (Nat.le_trans (Nat.mul_le_mul (Nat.le_of_lt ha1) (Nat.le_of_lt hb1)) hW)) ha1 hb1 hc1 hr
end Go.Proofs.YtjgpcfjnanideaaDoor
