/- The reference's sums, differences, products, powers, bytes and halves of numbers modulo 2^255 less 19, on digits. No program. -/
import Derived.Test.YtfidcdkoggfjaaaDoorFldMath
namespace Go.Proofs.YtfidcdkoggfjaaaDoor
set_option maxRecDepth 100000
set_option linter.unusedSimpArgs false
set_option linter.unusedVariables false

theorem dS_fn (f : Nat → Nat) (N : Nat) : ∀ n, n ≤ N → dS ((List.range N).map f) (n) = dS ((List.range N).map f) n := fun _ _ => rfl
/-- Digits made one by one. -/
def mkD (f : Nat → Nat) : List Nat := (List.range 16).map f
theorem mkD_length (f : Nat → Nat) : (mkD f).length = 16 := by simp [mkD]
theorem mkD_get (f : Nat → Nat) (j : Nat) (h : j < 16) : (mkD f).getD j 0 = f j := nrange_getD _ _ _ h
theorem mkD_set (f g : Nat → Nat) (i : Nat) (hi : i < 16) (h : ∀ j, j < 16 → j ≠ i → f j = g j) : (mkD f).set i (g i) = mkD g := nums_ext (by rw [List.length_set, mkD_length]) (mkD_length _) fun j hj => by
  rw [nset_getD _ _ _ _ (by rw [mkD_length]; exact hi), mkD_get g j hj]
  by_cases e : j = i
  · rw [if_pos e, e]
  · rw [if_neg e, mkD_get f j hj, h j hj e]
theorem digN_mkD (x : Nat) : digN x = mkD fun j => x / 65536 ^ j % 65536 := rfl
theorem dS_add (u v w : List Nat) : ∀ n, (∀ j, j < n → w.getD j 0 = u.getD j 0 + v.getD j 0) → dS w n = dS u n + dS v n
  | 0, _ => rfl
  | n + 1, h => by
    rw [dS_step, dS_step, dS_step, dS_add u v w n (fun j hj => h j (by omega)), h n (by omega), Nat.add_mul]
    generalize u.getD n 0 * 65536 ^ n = a
    generalize v.getD n 0 * 65536 ^ n = b
    omega
/-- The sum, digit by digit. -/
def addD (a b : List Nat) : List Nat := mkD fun i => a.getD i 0 + b.getD i 0
theorem addD_val (a b : List Nat) : dS (addD a b) 16 = dS a 16 + dS b 16 := dS_add _ _ _ 16 fun j hj => mkD_get _ _ hj
theorem add_ref (x y : Nat) (hx : x < pF) (hy : y < pF) : belowD (foldD (addD (digN x) (digN y))) = digN ((x + y) % pF) := by
  have hm : pF < mF := by decide
  have h := fold_below (addD (digN x) (digN y)) (mkD_length _) (dS_small _ 131072 (by decide) fun j hj => by
    rw [addD, mkD_get _ _ hj]
    have := digN_lt x j hj; have := digN_lt y j hj
    omega)
  rw [addD_val, digN_val x (by omega), digN_val y (by omega)] at h
  exact h
theorem pF_digits : ∀ j, j < 16 → (digN pF).getD j 0 = if j = 0 then 65517 else if j = 15 then 32767 else 65535 := by decide +kernel
/-- The top digit of a number below p. -/
theorem top_le (x : Nat) (hx : x < pF) : (digN x).getD 15 0 ≤ 32767 := by
  rw [digN_get _ _ (by decide)]
  have e15 : 65536 ^ 15 = 1766847064778384329583297500742918515827483896875618958121606201292619776 := by decide
  have ep : pF = 57896044618658097711785492504343953926634992332820282019728792003956564819949 := rfl
  rw [e15]
  rw [ep] at hx
  omega
/-- The difference and twice p, digit by digit. -/
def subD (a b : List Nat) : List Nat := mkD fun i => a.getD i 0 + 2 * (digN pF).getD i 0 - b.getD i 0
theorem subD_ok (x j : Nat) (hx : x < pF) (hj : j < 16) : (digN x).getD j 0 ≤ 2 * (digN pF).getD j 0 := by
  rw [pF_digits j hj]
  have h1 := digN_lt x j hj
  by_cases h0 : j = 0
  · rw [if_pos h0]; omega
  · rw [if_neg h0]
    by_cases h15 : j = 15
    · rw [if_pos h15]; subst h15; have := top_le x hx; omega
    · rw [if_neg h15]; omega
theorem dS_twice (v w : List Nat) : ∀ n, (∀ j, j < n → w.getD j 0 = 2 * v.getD j 0) → dS w n = 2 * dS v n
  | 0, _ => rfl
  | n + 1, h => by
    rw [dS_step, dS_step, dS_twice v w n (fun j hj => h j (by omega)), h n (by omega), Nat.mul_assoc, Nat.mul_add]
theorem sub_ref (x y : Nat) (hx : x < pF) (hy : y < pF) : belowD (foldD (subD (digN x) (digN y))) = digN ((x + (pF - y)) % pF) := by
  have hm : pF < mF := by decide
  have h := fold_below (subD (digN x) (digN y)) (mkD_length _) (dS_small _ 262144 (by decide) fun j hj => by
    rw [subD, mkD_get _ _ hj]
    have := digN_lt x j hj; have := digN_lt pF j hj
    omega)
  have hp : dS (digN pF) 16 = pF := digN_val pF (by decide)
  have h1 : dS (mkD fun i => (digN x).getD i 0 + 2 * (digN pF).getD i 0) 16 = x + 2 * pF := by
    rw [dS_add (digN x) (mkD fun i => 2 * (digN pF).getD i 0) _ 16 (fun j hj => by rw [mkD_get _ _ hj, mkD_get _ _ hj]), digN_val x (by omega), dS_twice (digN pF) _ 16 (fun j hj => mkD_get _ _ hj), hp]
  have h2 : dS (subD (digN x) (digN y)) 16 + y = x + 2 * pF := by
    have h3 := dS_add (subD (digN x) (digN y)) (digN y) (mkD fun i => (digN x).getD i 0 + 2 * (digN pF).getD i 0) 16 (fun j hj => by
      rw [mkD_get _ _ hj, subD, mkD_get _ _ hj]
      have := subD_ok y j hy hj
      omega)
    rw [h1, digN_val y (by omega)] at h3
    exact h3.symm
  have h4 : dS (subD (digN x) (digN y)) 16 = (x + (pF - y)) + pF := by
    generalize dS (subD (digN x) (digN y)) 16 = D at *
    omega
  rw [h, h4, Nat.add_mod_right]

/-- The products of one digit with the other number's, laid one by one. -/
def mulK (a b : List Nat) (i : Nat) (v : List Nat) : Nat → List Nat
  | 0 => v
  | k + 1 => if i + k < 16 then (mulK a b i v k).set (i + k) ((mulK a b i v k).getD (i + k) 0 + a.getD i 0 * b.getD k 0) else (mulK a b i v k).set (i + k - 16) ((mulK a b i v k).getD (i + k - 16) 0 + 38 * a.getD i 0 * b.getD k 0)
theorem mulK_length (a b : List Nat) (i : Nat) (v : List Nat) : ∀ k, (mulK a b i v k).length = v.length
  | 0 => rfl
  | k + 1 => by
    rw [mulK]
    split
    · rw [List.length_set]; exact mulK_length a b i v k
    · rw [List.length_set]; exact mulK_length a b i v k
theorem mulK_le (a b : List Nat) (i : Nat) (v : List Nat) (X : Nat) (hl : v.length = 16) (hi : i < 16) (ha : a.getD i 0 < 65536) (hb : ∀ k, k < 16 → b.getD k 0 < 65536) (hv : ∀ j, j < 16 → v.getD j 0 ≤ X) : ∀ k, k ≤ 16 → ∀ j, j < 16 → (mulK a b i v k).getD j 0 ≤ X + k * 163203907584
  | 0, _, j, hj => by rw [mulK]; have := hv j hj; omega
  | k + 1, h, j, hj => by
    have ih := mulK_le a b i v X hl hi ha hb hv k (by omega)
    have hbk := hb k (by omega)
    have hab : a.getD i 0 * b.getD k 0 ≤ 65535 * 65535 := Nat.mul_le_mul (by omega) (by omega)
    have hab2 : 38 * a.getD i 0 * b.getD k 0 ≤ 163203907584 := by rw [Nat.mul_assoc]; omega
    rw [mulK]
    split
    · rw [nset_getD _ _ _ _ (by rw [mulK_length]; omega)]
      split
      · have := ih (i + k) (by omega); omega
      · exact Nat.le_trans (ih j hj) (Nat.add_le_add_left (Nat.mul_le_mul_right _ (Nat.le_succ k)) X)
    · rw [nset_getD _ _ _ _ (by rw [mulK_length]; omega)]
      split
      · have := ih (i + k - 16) (by omega); omega
      · exact Nat.le_trans (ih j hj) (Nat.add_le_add_left (Nat.mul_le_mul_right _ (Nat.le_succ k)) X)
theorem mF_mod (q : Nat) : (38 * q) % pF = (q * mF) % pF := by
  rw [mF_pF, Nat.mul_add, show q * (2 * pF) = pF * (2 * q) by rw [Nat.mul_comm 2 pF, ← Nat.mul_assoc, Nat.mul_comm q pF, Nat.mul_assoc, Nat.mul_comm q 2], Nat.mul_add_mod, Nat.mul_comm q 38]
theorem add_mod_eq {a b c d p : Nat} (h1 : a % p = b % p) (h2 : c % p = d % p) : (a + c) % p = (b + d) % p := by
  rw [Nat.add_mod, h1, h2, ← Nat.add_mod]
theorem mulK_val (a b : List Nat) (i N : Nat) (hN : N = 16) (v : List Nat) (hl : v.length = N) (hi : i < N) : ∀ k, k ≤ N → dS (mulK a b i v k) N % pF = (dS v N + a.getD i 0 * 65536 ^ i * dS b k) % pF := by
  intro k
  induction k with
  | zero => intro _; rw [show mulK a b i v 0 = v from rfl, show dS b 0 = 0 from rfl, Nat.mul_zero, Nat.add_zero]
  | succ k ih =>
    intro h
    have ih := ih (by omega)
    rw [dS_step b k]
    have hlen := mulK_length a b i v k
    have e0 : mulK a b i v (k + 1) = if i + k < 16 then (mulK a b i v k).set (i + k) ((mulK a b i v k).getD (i + k) 0 + a.getD i 0 * b.getD k 0) else (mulK a b i v k).set (i + k - 16) ((mulK a b i v k).getD (i + k - 16) 0 + 38 * a.getD i 0 * b.getD k 0) := rfl
    rw [e0]
    clear e0
    generalize mulK a b i v k = u at *
    have ht : a.getD i 0 * 65536 ^ i * (dS b k + b.getD k 0 * 65536 ^ k) = a.getD i 0 * 65536 ^ i * dS b k + a.getD i 0 * b.getD k 0 * 65536 ^ (i + k) := by
      rw [Nat.mul_add, Nat.pow_add]
      congr 1
      rw [Nat.mul_assoc, Nat.mul_assoc, Nat.mul_left_comm (65536 ^ i)]
    rw [ht, ← Nat.add_assoc]
    split
    · rename_i hlt
      have hs := dS_set u (i + k) (u.getD (i + k) 0 + a.getD i 0 * b.getD k 0) (by omega) N (by omega)
      rw [Nat.add_mul] at hs
      have hv : dS (u.set (i + k) (u.getD (i + k) 0 + a.getD i 0 * b.getD k 0)) N = dS u N + a.getD i 0 * b.getD k 0 * 65536 ^ (i + k) := by
        generalize dS (u.set (i + k) (u.getD (i + k) 0 + a.getD i 0 * b.getD k 0)) N = D1 at *
        generalize dS u N = D0 at *
        generalize u.getD (i + k) 0 * 65536 ^ (i + k) = z1 at *
        omega
      rw [hv]
      exact add_mod_eq ih rfl
    · rename_i hlt
      have hs := dS_set u (i + k - 16) (u.getD (i + k - 16) 0 + 38 * a.getD i 0 * b.getD k 0) (by omega) N (by omega)
      rw [Nat.add_mul] at hs
      have hv : dS (u.set (i + k - 16) (u.getD (i + k - 16) 0 + 38 * a.getD i 0 * b.getD k 0)) N = dS u N + 38 * a.getD i 0 * b.getD k 0 * 65536 ^ (i + k - 16) := by
        generalize dS (u.set (i + k - 16) (u.getD (i + k - 16) 0 + 38 * a.getD i 0 * b.getD k 0)) N = D1 at *
        generalize dS u N = D0 at *
        generalize u.getD (i + k - 16) 0 * 65536 ^ (i + k - 16) = z1 at *
        omega
      rw [hv]
      refine add_mod_eq ih ?_
      have hp : 65536 ^ (i + k) = 65536 ^ (i + k - 16) * mF := by rw [← mF_pow, ← Nat.pow_add, show i + k - 16 + 16 = i + k by omega]
      rw [hp, ← Nat.mul_assoc, ← mF_mod]
      rw [Nat.mul_assoc 38, Nat.mul_assoc 38]
def mulI (a b : List Nat) : Nat → List Nat
  | 0 => mkD fun _ => 0
  | i + 1 => mulK a b i (mulI a b i) 16
theorem mulI_length (a b : List Nat) : ∀ i, (mulI a b i).length = 16
  | 0 => mkD_length _
  | i + 1 => by rw [mulI, mulK_length]; exact mulI_length a b i
theorem mulI_le (a b : List Nat) (ha : ∀ k, k < 16 → a.getD k 0 < 65536) (hb : ∀ k, k < 16 → b.getD k 0 < 65536) : ∀ i, i ≤ 16 → ∀ j, j < 16 → (mulI a b i).getD j 0 ≤ i * 2611262521344
  | 0, _, j, hj => by rw [mulI, mkD_get _ _ hj]; omega
  | i + 1, h, j, hj => by
    have := mulK_le a b i (mulI a b i) _ (mulI_length a b i) (by omega) (ha i (by omega)) hb (mulI_le a b ha hb i (by omega)) 16 (Nat.le_refl _) j hj
    rw [mulI]
    omega
theorem mulI_val (a b : List Nat) (N : Nat) (hN : N = 16) : ∀ i, i ≤ N → dS (mulI a b i) N % pF = (dS a i * dS b N) % pF := by
  intro i
  induction i with
  | zero =>
    intro _
    rw [show dS a 0 = 0 from rfl, Nat.zero_mul]
    have : dS (mulI a b 0) N = 0 := by
      have h := dS_le (mulI a b 0) 0 N (fun j hj => by rw [mulI, mkD_get _ _ (by omega)]; exact Nat.le_refl _)
      omega
    rw [this]
  | succ i ih =>
    intro h
    have e0 : mulI a b (i + 1) = mulK a b i (mulI a b i) 16 := rfl
    have hk := mulK_val a b i N hN (mulI a b i) (by rw [mulI_length, hN]) (by omega) N (Nat.le_refl _)
    rw [e0, ← hN, hk, dS_step a i, Nat.add_mul]
    exact add_mod_eq (ih (by omega)) rfl
/-- The product. -/
theorem mul_ref (x y : Nat) (hx : x < pF) (hy : y < pF) : belowD (foldD (mulI (digN x) (digN y) 16)) = digN (x * y % pF) := by
  have hm : pF < mF := by decide
  have h := fold_below (mulI (digN x) (digN y) 16) (mulI_length _ _ _) (dS_small _ 41780200341504 (by decide) fun j hj => by
    have := mulI_le (digN x) (digN y) (fun k hk => digN_lt x k hk) (fun k hk => digN_lt y k hk) 16 (Nat.le_refl _) j hj
    omega)
  have hv := mulI_val (digN x) (digN y) 16 rfl 16 (Nat.le_refl _)
  rw [digN_val x (by omega), digN_val y (by omega)] at hv
  rw [h, hv]

/-- A power, bit by bit from the highest of 256. -/
def pwF (a n : Nat) (m : Nat) : Nat := a ^ (n / 2 ^ (256 - m)) % pF
theorem pwF_zero (a n : Nat) (h : n < 2 ^ 256) : pwF a n 0 = 1 := by
  rw [pwF, Nat.sub_zero, Nat.div_eq_of_lt h, Nat.pow_zero]; rfl
theorem pwF_last (a n : Nat) : pwF a n 256 = a ^ n % pF := by rw [pwF, Nat.sub_self, Nat.pow_zero, Nat.div_one]
theorem pwF_lt (a n m : Nat) : pwF a n m < pF := Nat.mod_lt _ pF_pos
theorem pwF_step (a n m : Nat) (h : m < 256) : pwF a n (m + 1) = if n.testBit (255 - m) then (pwF a n m * pwF a n m % pF) * a % pF else pwF a n m * pwF a n m % pF := by
  have e : n / 2 ^ (256 - (m + 1)) = 2 * (n / 2 ^ (256 - m)) + n / 2 ^ (255 - m) % 2 := by
    rw [show 256 - (m + 1) = 255 - m by omega, show 256 - m = 255 - m + 1 by omega, Nat.pow_succ, ← Nat.div_div_eq_div_mul]
    omega
  rw [pwF, e, pwF, Nat.testBit_eq_decide_div_mod_eq]
  generalize n / 2 ^ (256 - m) = q
  have h2 : n / 2 ^ (255 - m) % 2 = 0 ∨ n / 2 ^ (255 - m) % 2 = 1 := by omega
  rcases h2 with h2 | h2
  · rw [h2, Nat.add_zero, if_neg (by simp), ← Nat.mul_mod, ← Nat.pow_add, show q + q = 2 * q by omega]
  · rw [h2, if_pos (by simp), Nat.pow_succ, ← Nat.mul_mod, ← Nat.pow_add, show q + q = 2 * q by omega, Nat.mod_mul_mod]
/-- A bit of a number is one of its digits'. -/
theorem digN_bit (n i : Nat) (hi : i < 256) : (digN n).getD (i / 16) 0 / 2 ^ (i % 16) % 2 = n / 2 ^ i % 2 := by
  rw [digN_get _ _ (by omega), show 65536 ^ (i / 16) = 2 ^ (16 * (i / 16)) by rw [Nat.pow_mul]]
  have h1 : (n / 2 ^ (16 * (i / 16)) % 65536) / 2 ^ (i % 16) % 2 = n / 2 ^ (16 * (i / 16)) / 2 ^ (i % 16) % 2 := by
    have hb := Nat.testBit_mod_two_pow (n / 2 ^ (16 * (i / 16))) 16 (i % 16)
    rw [Nat.testBit_eq_decide_div_mod_eq, Nat.testBit_eq_decide_div_mod_eq, decide_eq_true (show i % 16 < 16 from Nat.mod_lt _ (by decide)), Bool.true_and] at hb
    have hb2 := decide_eq_decide.1 hb
    rw [show (2 : Nat) ^ 16 = 65536 from rfl] at hb2
    omega
  rw [h1, Nat.div_div_eq_div_mul, ← Nat.pow_add, show 16 * (i / 16) + i % 16 = i by omega]

/-- The bytes of a number, the lowest first. -/
def leF (x n : Nat) : List UInt8 := (List.range n).map fun i => UInt8.ofNat (x / 256 ^ i)
theorem leF_length (x n : Nat) : (leF x n).length = n := by simp [leF]
theorem leF_get (x n i : Nat) (h : i < n) : (leF x n).getD i 0 = UInt8.ofNat (x / 256 ^ i) := by simp [leF, List.getD_eq_getElem?_getD, h]
theorem leF_two (x n : Nat) : leF x (2 * n) ++ [UInt8.ofNat (x / 65536 ^ n % 65536), UInt8.ofNat (x / 65536 ^ n % 65536 / 256)] = leF x (2 * (n + 1)) := by
  have e1 : UInt8.ofNat (x / 65536 ^ n % 65536) = UInt8.ofNat (x / 256 ^ (2 * n)) := by
    apply UInt8.toNat_inj.1
    rw [UInt8.toNat_ofNat', UInt8.toNat_ofNat', Nat.pow_mul]
    show x / 65536 ^ n % 65536 % 256 = x / 65536 ^ n % 256
    omega
  have e2 : UInt8.ofNat (x / 65536 ^ n % 65536 / 256) = UInt8.ofNat (x / 256 ^ (2 * n + 1)) := by
    apply UInt8.toNat_inj.1
    rw [UInt8.toNat_ofNat', UInt8.toNat_ofNat', show 256 ^ (2 * n + 1) = 65536 ^ n * 256 by rw [Nat.pow_succ, Nat.pow_mul], ← Nat.div_div_eq_div_mul]
    show x / 65536 ^ n % 65536 / 256 % 256 = x / 65536 ^ n / 256 % 256
    omega
  rw [e1, e2, leF, leF, show 2 * (n + 1) = 2 * n + 1 + 1 by omega, List.range_succ, List.range_succ, List.map_append, List.map_append, List.append_assoc]
  rfl
/-- The number of so many bytes, the lowest first. -/
def leV (l : List UInt8) : Nat → Nat
  | 0 => 0
  | n + 1 => leV l n + (l.getD n 0).toNat * 256 ^ n
theorem leV_lt (l : List UInt8) : ∀ n, leV l n < 256 ^ n
  | 0 => by simp [leV]
  | n + 1 => by
    have h1 := leV_lt l n
    have h2 : (l.getD n 0).toNat * 256 ^ n ≤ 255 * 256 ^ n := Nat.mul_le_mul_right _ (by have := UInt8.toNat_lt (l.getD n 0); omega)
    rw [leV, Nat.pow_succ]
    omega
/-- The digits of bytes are their number's. -/
theorem leV_digits (l : List UInt8) (v : List Nat) : ∀ n, (∀ j, j < n → v.getD j 0 = (l.getD (2 * j) 0).toNat + 256 * (l.getD (2 * j + 1) 0).toNat) → dS v n = leV l (2 * n)
  | 0, _ => rfl
  | n + 1, h => by
    rw [dS_step, leV_digits l v n (fun j hj => h j (by omega)), h n (by omega), show 2 * (n + 1) = 2 * n + 1 + 1 by omega, leV, leV, Nat.pow_succ, Nat.pow_mul, show (256 : Nat) ^ 2 = 65536 from rfl, Nat.add_mul]
    rw [show 256 * (l.getD (2 * n + 1) 0).toNat * 65536 ^ n = (l.getD (2 * n + 1) 0).toNat * (65536 ^ n * 256) by rw [Nat.mul_comm 256, Nat.mul_assoc, Nat.mul_comm 256]]
    omega
theorem of_ref (l : List UInt8) : belowD (mkD fun j => (l.getD (2 * j) 0).toNat + 256 * (l.getD (2 * j + 1) 0).toNat) = digN (leV l 32 % pF) := by
  rw [belowD_spec _ (mkD_length _) (fun j hj => by
    rw [mkD_get _ _ hj]
    have := UInt8.toNat_lt (l.getD (2 * j) 0); have := UInt8.toNat_lt (l.getD (2 * j + 1) 0)
    omega), leV_digits l _ 16 (fun j hj => mkD_get _ _ hj)]
/-- The half of a number, digit by digit. -/
theorem half_ref (x j : Nat) (hj : j < 16) (hx : x < mF) : (digN (x / 2)).getD j 0 = (digN x).getD j 0 / 2 ||| (if j < 15 then (digN x).getD (j + 1) 0 % 2 * 32768 else 0) := by
  rw [digN_get _ _ hj, digN_get _ _ hj]
  have hlo : x / 65536 ^ j % 65536 / 2 < 2 ^ 15 := by omega
  have hor : ∀ b, b < 2 → x / 65536 ^ j % 65536 / 2 ||| b * 32768 = x / 65536 ^ j % 65536 / 2 + b * 32768 := fun b hb => by
    rw [Nat.or_comm, show b * 32768 = 2 ^ 15 * b by omega, ← Nat.two_pow_add_eq_or_of_lt hlo]
    omega
  have hd : x / 2 / 65536 ^ j = x / 65536 ^ j / 2 := by rw [Nat.div_div_eq_div_mul, Nat.div_div_eq_div_mul, Nat.mul_comm]
  rw [hd]
  by_cases h : j < 15
  · rw [if_pos h, digN_get _ _ (by omega), hor _ (by omega), Nat.pow_succ, ← Nat.div_div_eq_div_mul]
    generalize x / 65536 ^ j = q
    omega
  · obtain rfl : j = 15 := by omega
    rw [if_neg h, Nat.or_zero]
    have e15 : 65536 ^ 15 = 1766847064778384329583297500742918515827483896875618958121606201292619776 := by decide
    have em : mF = 115792089237316195423570985008687907853269984665640564039457584007913129639936 := rfl
    rw [e15]
    rw [em] at hx
    omega
end Go.Proofs.YtfidcdkoggfjaaaDoor
