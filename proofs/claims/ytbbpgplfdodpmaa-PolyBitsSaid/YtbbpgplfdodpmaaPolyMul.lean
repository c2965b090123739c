/- The product of two numbers of ten digits, as the reference makes it: the arithmetic. -/
import Derived.Test.YtbbpgplfdodpmaaPolySpec
namespace Go.Proofs.Ytbbpgplfdodpmaa
open Go.RowKit Go.Sort
set_option maxRecDepth 100000
set_option linter.unusedSimpArgs false
set_option linter.unusedVariables false

def mulStep (a b out : List Int) (i k : Nat) : List Int :=
  if i + k < 10 then out.set (i + k) (out.getD (i + k) 0 + a.getD i 0 * b.getD k 0) else out.set (i + k - 10) (out.getD (i + k - 10) 0 + 5 * a.getD i 0 * b.getD k 0)
def mulRow (a b out : List Int) (i : Nat) : Nat → List Int
  | 0 => out
  | k + 1 => mulStep a b (mulRow a b out i k) i k
def mulL (a b : List Int) : Nat → List Int
  | 0 => List.replicate 10 0
  | i + 1 => mulRow a b (mulL a b i) i 10
theorem mulStep_length (a b out : List Int) (i k : Nat) : (mulStep a b out i k).length = out.length := by unfold mulStep; split <;> simp
theorem mulRow_length (a b out : List Int) (i k : Nat) : (mulRow a b out i k).length = out.length := by
  induction k with
  | zero => rfl
  | succ k ih => rw [mulRow, mulStep_length, ih]
theorem mulL_length (a b : List Int) (i : Nat) : (mulL a b i).length = 10 := by
  induction i with
  | zero => simp [mulL]
  | succ i ih => rw [mulL, mulRow_length, ih]
theorem take_V (v : List Int) (k : Nat) (h : k < v.length) : polyV (v.take (k + 1)) = polyV (v.take k) + v.getD k 0 * 8192 ^ k := by
  rw [List.take_succ_eq_append_getElem h, polyV_append, List.length_take, Nat.min_eq_left (Nat.le_of_lt h)]
  simp [polyV, h, Int.mul_comm]
theorem getD_in {m : Int} {v : List Int} (hv : digitsIn m v) (j : Nat) (h : j < v.length) : 0 ≤ v.getD j 0 ∧ v.getD j 0 ≤ m := by
  have : v.getD j 0 = v[j] := by simp [h]
  rw [this]; exact hv _ (List.getElem_mem h)
/-- Five times a product, ten places lower, is the product, modulo p. -/
theorem five_down (x : Int) (j : Nat) (h : 10 ≤ j) : 5 * x * 8192 ^ (j - 10) = x * 8192 ^ j - polyP * (x * 8192 ^ (j - 10)) := by
  have e : (8192 : Int) ^ j = 8192 ^ (j - 10) * (polyP + 5) := by rw [← polyP_eq, ← Int.pow_add]; congr 1; omega
  rw [e]
  generalize (8192 : Int) ^ (j - 10) = t
  rw [Int.mul_add, Int.mul_add, Int.mul_comm t polyP, Int.mul_left_comm x polyP t, Int.mul_assoc 5 x t, Int.mul_comm t 5, Int.mul_left_comm x 5 t]
  omega
theorem mulStep_V (a b out : List Int) (i k : Nat) (ho : out.length = 10) (hi : i < 10) (hk : k < 10) : ∃ q, polyV (mulStep a b out i k) = polyV out + a.getD i 0 * b.getD k 0 * 8192 ^ (i + k) - polyP * q := by
  unfold mulStep
  split
  · refine ⟨0, ?_⟩
    rw [polyV_set _ _ _ (by omega)]
    have : out.getD (i + k) 0 + a.getD i 0 * b.getD k 0 - out.getD (i + k) 0 = a.getD i 0 * b.getD k 0 := by omega
    rw [this]; omega
  · refine ⟨a.getD i 0 * b.getD k 0 * 8192 ^ (i + k - 10), ?_⟩
    rw [polyV_set _ _ _ (by omega)]
    have : out.getD (i + k - 10) 0 + 5 * a.getD i 0 * b.getD k 0 - out.getD (i + k - 10) 0 = 5 * (a.getD i 0 * b.getD k 0) := by rw [Int.mul_assoc]; omega
    rw [this, five_down _ _ (by omega)]; omega
theorem mulRow_V (a b out : List Int) (i : Nat) (ho : out.length = 10) (hb : b.length = 10) (hi : i < 10) : ∀ k, k ≤ 10 → ∃ q, polyV (mulRow a b out i k) = polyV out + a.getD i 0 * 8192 ^ i * polyV (b.take k) - polyP * q := by
  intro k
  induction k with
  | zero => intro _; exact ⟨0, by simp [mulRow, polyV]⟩
  | succ k ih =>
    intro hk
    obtain ⟨q1, h1⟩ := ih (by omega)
    obtain ⟨q2, h2⟩ := mulStep_V a b (mulRow a b out i k) i k (by rw [mulRow_length, ho]) hi (by omega)
    refine ⟨q1 + q2, ?_⟩
    rw [mulRow, h2, h1, take_V b k (by omega), Int.mul_add, Int.mul_add, Int.pow_add]
    have e : a.getD i 0 * b.getD k 0 * (8192 ^ i * 8192 ^ k) = a.getD i 0 * 8192 ^ i * (b.getD k 0 * 8192 ^ k) := by
      rw [Int.mul_assoc, Int.mul_assoc, Int.mul_left_comm (b.getD k 0)]
    rw [e]; omega
theorem mulL_V (a b : List Int) (ha : a.length = 10) (hb : b.length = 10) : ∀ i, i ≤ 10 → ∃ q, polyV (mulL a b i) = polyV (a.take i) * polyV b - polyP * q := by
  intro i
  induction i with
  | zero => intro _; exact ⟨0, by rw [mulL, polyV_zeros]; simp [polyV]⟩
  | succ i ih =>
    intro hi
    obtain ⟨q1, h1⟩ := ih (by omega)
    obtain ⟨q2, h2⟩ := mulRow_V a b (mulL a b i) i (mulL_length _ _ _) hb (by omega) 10 (by omega)
    refine ⟨q1 + q2, ?_⟩
    rw [mulL, h2, h1, List.take_of_length_le (show b.length ≤ 10 by omega), take_V a i (by omega), Int.add_mul, Int.mul_add]
    omega
theorem mulStep_in (a b out : List Int) (i k n : Nat) (ha : digitsIn 8191 a) (hb : digitsIn 8191 b) (hal : a.length = 10) (hbl : b.length = 10) (hi : i < 10) (hk : k < 10) (hol : out.length = 10) (ho : digitsIn (335544320 * (n : Int)) out) : digitsIn (335544320 * ((n + 1 : Nat) : Int)) (mulStep a b out i k) := by
  obtain ⟨a0, a1⟩ := getD_in ha i (by omega)
  obtain ⟨b0, b1⟩ := getD_in hb k (by omega)
  have p0 : 0 ≤ a.getD i 0 * b.getD k 0 := Int.mul_nonneg a0 b0
  have p1 : a.getD i 0 * b.getD k 0 ≤ 8191 * 8191 := Int.mul_le_mul a1 b1 b0 (by omega)
  unfold mulStep
  split
  · obtain ⟨o0, o1⟩ := getD_in ho (i + k) (by omega)
    exact digitsIn_set ho (by omega) _ _ (by omega) (by omega)
  · obtain ⟨o0, o1⟩ := getD_in ho (i + k - 10) (by omega)
    rw [Int.mul_assoc]
    exact digitsIn_set ho (by omega) _ _ (by omega) (by omega)
theorem mulRow_in (a b out : List Int) (i n : Nat) (ha : digitsIn 8191 a) (hb : digitsIn 8191 b) (hal : a.length = 10) (hbl : b.length = 10) (hi : i < 10) (hol : out.length = 10) (ho : digitsIn (335544320 * (n : Int)) out) : ∀ k, k ≤ 10 → digitsIn (335544320 * ((n + k : Nat) : Int)) (mulRow a b out i k) := by
  intro k
  induction k with
  | zero => intro _; exact ho
  | succ k ih => intro hk; exact mulStep_in a b _ i k (n + k) ha hb hal hbl hi (by omega) (by rw [mulRow_length, hol]) (ih (by omega))
theorem mulL_in (a b : List Int) (ha : digitsIn 8191 a) (hb : digitsIn 8191 b) (hal : a.length = 10) (hbl : b.length = 10) : ∀ i, i ≤ 10 → digitsIn (335544320 * ((10 * i : Nat) : Int)) (mulL a b i) := by
  intro i
  induction i with
  | zero => intro _ x hx; rw [mulL] at hx; have := List.eq_of_mem_replicate hx; omega
  | succ i ih => intro hi; exact mulRow_in a b _ i (10 * i) ha hb hal hbl (by omega) (mulL_length _ _ _) (ih (by omega)) 10 (by omega)
/-- The product: its digits, and its number modulo p. -/
theorem mul_digits (a b : List Int) (ha : digitsIn 8191 a) (hb : digitsIn 8191 b) (hal : a.length = 10) (hbl : b.length = 10) : digitsIn 8191 (carry3 (mulL a b 10)) ∧ (carry3 (mulL a b 10)).length = 10 ∧ polyV (carry3 (mulL a b 10)) % polyP = polyV a * polyV b % polyP := by
  refine ⟨carry3_digits _ (mulL_length _ _ _) (fun x hx => ?_), by rw [carry3_length, mulL_length], ?_⟩
  · obtain ⟨h0, h1⟩ := mulL_in a b ha hb hal hbl 10 (by omega) x hx
    exact ⟨h0, by omega⟩
  · obtain ⟨q1, h1⟩ := carry3_V (mulL a b 10) (mulL_length _ _ _)
    obtain ⟨q2, h2⟩ := mulL_V a b hal hbl 10 (by omega)
    rw [h1, h2, List.take_of_length_le (show a.length ≤ 10 by omega)]
    rw [show polyV a * polyV b - polyP * q2 - polyP * q1 = polyV a * polyV b - polyP * (q2 + q1) by rw [Int.mul_add]; omega]
    simp [Int.sub_emod, Int.mul_emod_right]
end Go.Proofs.Ytbbpgplfdodpmaa
