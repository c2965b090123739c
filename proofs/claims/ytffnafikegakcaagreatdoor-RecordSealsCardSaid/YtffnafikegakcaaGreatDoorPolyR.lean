/- Numbers as ten digits of 13 bits, modulo 2 to the 130 less 5; The product of two numbers of ten digits, as the reference makes it: the arithmetic; The reference's carried: the carries of ten digits in memory; The reference's times: the product of two numbers of ten digits; Numbers in digits: of bytes, and the least of a number modulo p: the arithmetic; The reference's rest and digits; What a tag is, over plain numbers: the arithmetic; Pieces of data, and one step of the sum; The bytes of the tag: bits of digits, and sums of bytes; The reference's Tag. -/
import Derived.Test.YtffnafikegakcaaGreatDoorBase
import Derived.Laws.BitsAllLaws
namespace Go.Proofs.YtffnafikegakcaaGreatDoor
section
open Go.RowKit Go.Sort
set_option maxRecDepth 100000
set_option linter.unusedSimpArgs false
set_option linter.unusedVariables false

/-- The number that digits are. -/
def polyV : List Int → Int
  | [] => 0
  | x :: r => x + 8192 * polyV r
def polyP : Int := 1361129467683753853853498429727072845819
theorem polyP_eq : (8192 : Int) ^ 10 = polyP + 5 := by decide
theorem polyV_append (a b : List Int) : polyV (a ++ b) = polyV a + 8192 ^ a.length * polyV b := by
  induction a with
  | nil => simp [polyV]
  | cons x r ih => simp only [List.cons_append, polyV, ih, List.length_cons, Int.pow_succ]; rw [Int.mul_add, ← Int.mul_assoc, Int.mul_comm 8192 (8192 ^ r.length)]; omega
theorem polyV_set (v : List Int) (j : Nat) (x : Int) (h : j < v.length) : polyV (v.set j x) = polyV v + (x - v.getD j 0) * 8192 ^ j := by
  induction v generalizing j with
  | nil => simp at h
  | cons y r ih =>
    cases j with
    | zero => simp [polyV]; omega
    | succ j =>
      have h' : j < r.length := by simpa using h
      simp only [List.set_cons_succ, polyV, ih j h', List.getD_cons_succ, Int.pow_succ]
      rw [Int.mul_add, Int.mul_comm 8192 ((x - r.getD j 0) * 8192 ^ j), Int.mul_assoc]; omega
theorem polyV_zeros (n : Nat) : polyV (List.replicate n 0) = 0 := by
  induction n with
  | zero => rfl
  | succ n ih => simp [List.replicate_succ, polyV, ih]
/-- Digits within a bound. -/
def digitsIn (m : Int) (v : List Int) : Prop := ∀ x ∈ v, 0 ≤ x ∧ x ≤ m
theorem polyV_bound (v : List Int) (h : digitsIn 8191 v) : 0 ≤ polyV v ∧ polyV v < 8192 ^ v.length := by
  induction v with
  | nil => simp [polyV]
  | cons x r ih =>
    obtain ⟨h1, h2⟩ := ih (fun y hy => h y (by simp [hy]))
    obtain ⟨h3, h4⟩ := h x (by simp)
    simp only [polyV, List.length_cons, Int.pow_succ]
    omega
/-- The carry goes through the digits. -/
def carryGo : List Int → Int → List Int × Int
  | [], c => ([], c)
  | x :: r, c => ((x + c) % 8192 :: (carryGo r ((x + c) / 8192)).1, (carryGo r ((x + c) / 8192)).2)
theorem carryGo_length (v : List Int) (c : Int) : (carryGo v c).1.length = v.length := by
  induction v generalizing c with
  | nil => rfl
  | cons x r ih => simp [carryGo, ih]
theorem carryGo_V (v : List Int) (c : Int) : polyV (carryGo v c).1 + 8192 ^ v.length * (carryGo v c).2 = polyV v + c := by
  induction v generalizing c with
  | nil => simp [carryGo, polyV]
  | cons x r ih =>
    have h := ih ((x + c) / 8192)
    simp only [carryGo, polyV, List.length_cons, Int.pow_succ]
    have e : (8192 : Int) ^ r.length * 8192 * (carryGo r ((x + c) / 8192)).2 = 8192 * (8192 ^ r.length * (carryGo r ((x + c) / 8192)).2) := by rw [Int.mul_comm (8192 ^ r.length) 8192, Int.mul_assoc]
    rw [e]
    omega
theorem carryGo_digits (v : List Int) (c : Int) : digitsIn 8191 (carryGo v c).1 := by
  induction v generalizing c with
  | nil => intro x hx; simp [carryGo] at hx
  | cons x r ih =>
    intro y hy
    simp only [carryGo, List.mem_cons] at hy
    rcases hy with rfl | hy
    · omega
    · exact ih _ y hy
theorem carryGo_snoc (l : List Int) (x c : Int) : carryGo (l ++ [x]) c = ((carryGo l c).1 ++ [(x + (carryGo l c).2) % 8192], (x + (carryGo l c).2) / 8192) := by
  induction l generalizing c with
  | nil => simp [carryGo]
  | cons y r ih => simp [carryGo, ih]
theorem carryGo_bound (v : List Int) (m C c : Int) (hm : m + C < 8192 * (C + 1)) (hv : digitsIn m v) (h0 : 0 ≤ c) (h1 : c ≤ C) : 0 ≤ (carryGo v c).2 ∧ (carryGo v c).2 ≤ C := by
  induction v generalizing c with
  | nil => exact ⟨h0, h1⟩
  | cons x r ih =>
    obtain ⟨h3, h4⟩ := hv x (by simp)
    simp only [carryGo]
    exact ih ((x + c) / 8192) (fun y hy => hv y (by simp [hy])) (by omega) (by omega)
/-- One round: the carry that is left counts five times. -/
def carry1 (v : List Int) : List Int := (carryGo v 0).1.set 0 ((carryGo v 0).1.getD 0 0 + 5 * (carryGo v 0).2)
theorem carry1_length (v : List Int) : (carry1 v).length = v.length := by simp [carry1, carryGo_length]
theorem carry1_V (v : List Int) (h : v.length = 10) : polyV (carry1 v) = polyV v - polyP * (carryGo v 0).2 := by
  have h1 := carryGo_V v 0
  have hl := carryGo_length v 0
  rw [carry1, polyV_set _ 0 _ (by omega)]
  rw [h, polyP_eq] at h1
  simp only [Int.pow_zero, Int.mul_one]
  rw [Int.add_mul] at h1
  omega
def carry3 (v : List Int) : List Int := carry1 (carry1 (carry1 v))
theorem carry3_length (v : List Int) : (carry3 v).length = v.length := by simp [carry3, carry1_length]
theorem carry3_V (v : List Int) (h : v.length = 10) : ∃ q, polyV (carry3 v) = polyV v - polyP * q := by
  refine ⟨(carryGo v 0).2 + (carryGo (carry1 v) 0).2 + (carryGo (carry1 (carry1 v)) 0).2, ?_⟩
  rw [carry3, carry1_V _ (by simp [carry1_length, h]), carry1_V _ (by simp [carry1_length, h]), carry1_V _ h, Int.mul_add, Int.mul_add]
  omega
theorem digitsIn_set {m M : Int} {v : List Int} (hv : digitsIn m v) (hM : m ≤ M) (j : Nat) (x : Int) (h0 : 0 ≤ x) (h1 : x ≤ M) : digitsIn M (v.set j x) := by
  intro y hy
  rcases List.mem_or_eq_of_mem_set hy with h | rfl
  · obtain ⟨a, b⟩ := hv y h; exact ⟨a, by omega⟩
  · exact ⟨h0, h1⟩
/-- A list of digits whose first one may be greater. -/
theorem carry_first (x m : Int) (r : List Int) (hx0 : 0 ≤ x) (hx : x ≤ m) (hr : digitsIn 8191 r) (C : Int) (hm : m / 8192 ≤ C) (hr0 : r ≠ []) (hC : (8191 + C) / 8192 ≤ 1) : 0 ≤ (carryGo (x :: r) 0).2 ∧ (carryGo (x :: r) 0).2 ≤ 1 := by
  cases r with
  | nil => exact absurd rfl hr0
  | cons y t =>
    obtain ⟨h3, h4⟩ := hr y (by simp)
    simp only [carryGo, Int.add_zero]
    exact carryGo_bound t 8191 1 _ (by omega) (fun z hz => hr z (by simp [hz])) (by omega) (by omega)
theorem carry1_first (x : Int) (r : List Int) : carry1 (x :: r) = (x % 8192 + 5 * (carryGo (x :: r) 0).2) :: (carryGo r (x / 8192)).1 := by simp [carry1, carryGo]
/-- Three rounds make digits of it. -/
theorem carry3_digits (v : List Int) (h : v.length = 10) (hv : digitsIn 68719476736 v) : digitsIn 8191 (carry3 v) := by
  obtain ⟨x, r, rfl⟩ : ∃ x r, v = x :: r := by cases v with | nil => simp at h | cons x r => exact ⟨x, r, rfl⟩
  have hrl : r.length = 9 := by simpa using h
  have b1 := carryGo_bound (x :: r) 68719476736 8400000 0 (by omega) hv (by omega) (by omega)
  have e1 := carry1_first x r
  have d1 := carryGo_digits r (x / 8192)
  have l1 := carryGo_length r (x / 8192)
  generalize (carryGo (x :: r) 0).2 = c1 at *
  generalize (carryGo r (x / 8192)).1 = r1 at *
  have hx0 : 0 ≤ x % 8192 + 5 * c1 := by omega
  have hx1 : x % 8192 + 5 * c1 ≤ 42008191 := by omega
  generalize x % 8192 + 5 * c1 = x1 at *
  have hr1 : r1 ≠ [] := by intro e; rw [e] at l1; simp at l1; omega
  have b2 := carry_first x1 42008191 r1 hx0 hx1 d1 5128 (by omega) hr1 (by omega)
  have e2 := carry1_first x1 r1
  have d2 := carryGo_digits r1 (x1 / 8192)
  have l2 := carryGo_length r1 (x1 / 8192)
  generalize (carryGo (x1 :: r1) 0).2 = c2 at *
  generalize (carryGo r1 (x1 / 8192)).1 = r2 at *
  have hy0 : 0 ≤ x1 % 8192 + 5 * c2 := by omega
  have hy1 : x1 % 8192 + 5 * c2 ≤ 8196 := by omega
  generalize x1 % 8192 + 5 * c2 = x2 at *
  have hr2 : r2 ≠ [] := by intro e; rw [e] at l2; simp at l2; omega
  have b3 := carry_first x2 8196 r2 hy0 hy1 d2 1 (by omega) hr2 (by omega)
  have e3 := carry1_first x2 r2
  have d3 := carryGo_digits r2 (x2 / 8192)
  have z3 : x2 / 8192 = 0 → (carryGo (x2 :: r2) 0).2 = 0 := fun hz => by
    have := carryGo_bound r2 8191 0 0 (by omega) d2 (by omega) (by omega)
    simp only [carryGo, Int.add_zero, hz]
    omega
  rw [carry3, e1, e2, e3]
  intro y hy
  simp only [List.mem_cons] at hy
  rcases hy with rfl | hy
  · by_cases hz : x2 / 8192 = 0
    · have := z3 hz; omega
    · omega
  · exact d3 y hy
end

section
open Go.RowKit Go.Sort
set_option maxRecDepth 100000
set_option linter.unusedSimpArgs false
set_option linter.unusedVariables false

def mulStep (a b out : List Int) (i k : Nat) : List Int :=
  if i + k < 10 then out.set (i + k) (out.getD (i + k) 0 + a.getD i 0 * b.getD k 0) else out.set (i + k - 10) (out.getD (i + k - 10) 0 + 5 * a.getD i 0 * b.getD k 0)
def mulRow (a b out : List Int) (i : Nat) : Nat → List Int
  | 0 => out
  | k + 1 => mulStep a b (mulRow a b out i k) i k
def mulL (a b : List Int) : Nat → List Int
  | 0 => List.replicate 10 0
  | i + 1 => mulRow a b (mulL a b i) i 10
theorem mulStep_length (a b out : List Int) (i k : Nat) : (mulStep a b out i k).length = out.length := by unfold mulStep; split <;> simp
theorem mulRow_length (a b out : List Int) (i k : Nat) : (mulRow a b out i k).length = out.length := by
  induction k with
  | zero => rfl
  | succ k ih => rw [mulRow, mulStep_length, ih]
theorem mulL_length (a b : List Int) (i : Nat) : (mulL a b i).length = 10 := by
  induction i with
  | zero => simp [mulL]
  | succ i ih => rw [mulL, mulRow_length, ih]
theorem take_V (v : List Int) (k : Nat) (h : k < v.length) : polyV (v.take (k + 1)) = polyV (v.take k) + v.getD k 0 * 8192 ^ k := by
  rw [List.take_succ_eq_append_getElem h, polyV_append, List.length_take, Nat.min_eq_left (Nat.le_of_lt h)]
  simp [polyV, h, Int.mul_comm]
theorem getD_in {m : Int} {v : List Int} (hv : digitsIn m v) (j : Nat) (h : j < v.length) : 0 ≤ v.getD j 0 ∧ v.getD j 0 ≤ m := by
  have : v.getD j 0 = v[j] := by simp [h]
  rw [this]; exact hv _ (List.getElem_mem h)
/-- Five times a product, ten places lower, is the product, modulo p. -/
theorem five_down (x : Int) (j : Nat) (h : 10 ≤ j) : 5 * x * 8192 ^ (j - 10) = x * 8192 ^ j - polyP * (x * 8192 ^ (j - 10)) := by
  have e : (8192 : Int) ^ j = 8192 ^ (j - 10) * (polyP + 5) := by rw [← polyP_eq, ← Int.pow_add]; congr 1; omega
  rw [e]
  generalize (8192 : Int) ^ (j - 10) = t
  rw [Int.mul_add, Int.mul_add, Int.mul_comm t polyP, Int.mul_left_comm x polyP t, Int.mul_assoc 5 x t, Int.mul_comm t 5, Int.mul_left_comm x 5 t]
  omega
theorem mulStep_V (a b out : List Int) (i k : Nat) (ho : out.length = 10) (hi : i < 10) (hk : k < 10) : ∃ q, polyV (mulStep a b out i k) = polyV out + a.getD i 0 * b.getD k 0 * 8192 ^ (i + k) - polyP * q := by
  unfold mulStep
  split
  · refine ⟨0, ?_⟩
    rw [polyV_set _ _ _ (by omega)]
    have : out.getD (i + k) 0 + a.getD i 0 * b.getD k 0 - out.getD (i + k) 0 = a.getD i 0 * b.getD k 0 := by omega
    rw [this]; omega
  · refine ⟨a.getD i 0 * b.getD k 0 * 8192 ^ (i + k - 10), ?_⟩
    rw [polyV_set _ _ _ (by omega)]
    have : out.getD (i + k - 10) 0 + 5 * a.getD i 0 * b.getD k 0 - out.getD (i + k - 10) 0 = 5 * (a.getD i 0 * b.getD k 0) := by rw [Int.mul_assoc]; omega
    rw [this, five_down _ _ (by omega)]; omega
theorem mulRow_V (a b out : List Int) (i : Nat) (ho : out.length = 10) (hb : b.length = 10) (hi : i < 10) : ∀ k, k ≤ 10 → ∃ q, polyV (mulRow a b out i k) = polyV out + a.getD i 0 * 8192 ^ i * polyV (b.take k) - polyP * q := by
  intro k
  induction k with
  | zero => intro _; exact ⟨0, by simp [mulRow, polyV]⟩
  | succ k ih =>
    intro hk
    obtain ⟨q1, h1⟩ := ih (by omega)
    obtain ⟨q2, h2⟩ := mulStep_V a b (mulRow a b out i k) i k (by rw [mulRow_length, ho]) hi (by omega)
    refine ⟨q1 + q2, ?_⟩
    rw [mulRow, h2, h1, take_V b k (by omega), Int.mul_add, Int.mul_add, Int.pow_add]
    have e : a.getD i 0 * b.getD k 0 * (8192 ^ i * 8192 ^ k) = a.getD i 0 * 8192 ^ i * (b.getD k 0 * 8192 ^ k) := by
      rw [Int.mul_assoc, Int.mul_assoc, Int.mul_left_comm (b.getD k 0)]
    rw [e]; omega
theorem mulL_V (a b : List Int) (ha : a.length = 10) (hb : b.length = 10) : ∀ i, i ≤ 10 → ∃ q, polyV (mulL a b i) = polyV (a.take i) * polyV b - polyP * q := by
  intro i
  induction i with
  | zero => intro _; exact ⟨0, by rw [mulL, polyV_zeros]; simp [polyV]⟩
  | succ i ih =>
    intro hi
    obtain ⟨q1, h1⟩ := ih (by omega)
    obtain ⟨q2, h2⟩ := mulRow_V a b (mulL a b i) i (mulL_length _ _ _) hb (by omega) 10 (by omega)
    refine ⟨q1 + q2, ?_⟩
    rw [mulL, h2, h1, List.take_of_length_le (show b.length ≤ 10 by omega), take_V a i (by omega), Int.add_mul, Int.mul_add]
    omega
theorem mulStep_in (a b out : List Int) (i k n : Nat) (ha : digitsIn 8191 a) (hb : digitsIn 8191 b) (hal : a.length = 10) (hbl : b.length = 10) (hi : i < 10) (hk : k < 10) (hol : out.length = 10) (ho : digitsIn (335544320 * (n : Int)) out) : digitsIn (335544320 * ((n + 1 : Nat) : Int)) (mulStep a b out i k) := by
  obtain ⟨a0, a1⟩ := getD_in ha i (by omega)
  obtain ⟨b0, b1⟩ := getD_in hb k (by omega)
  have p0 : 0 ≤ a.getD i 0 * b.getD k 0 := Int.mul_nonneg a0 b0
  have p1 : a.getD i 0 * b.getD k 0 ≤ 8191 * 8191 := Int.mul_le_mul a1 b1 b0 (by omega)
  unfold mulStep
  split
  · obtain ⟨o0, o1⟩ := getD_in ho (i + k) (by omega)
    exact digitsIn_set ho (by omega) _ _ (by omega) (by omega)
  · obtain ⟨o0, o1⟩ := getD_in ho (i + k - 10) (by omega)
    rw [Int.mul_assoc]
    exact digitsIn_set ho (by omega) _ _ (by omega) (by omega)
theorem mulRow_in (a b out : List Int) (i n : Nat) (ha : digitsIn 8191 a) (hb : digitsIn 8191 b) (hal : a.length = 10) (hbl : b.length = 10) (hi : i < 10) (hol : out.length = 10) (ho : digitsIn (335544320 * (n : Int)) out) : ∀ k, k ≤ 10 → digitsIn (335544320 * ((n + k : Nat) : Int)) (mulRow a b out i k) := by
  intro k
  induction k with
  | zero => intro _; exact ho
  | succ k ih => intro hk; exact mulStep_in a b _ i k (n + k) ha hb hal hbl hi (by omega) (by rw [mulRow_length, hol]) (ih (by omega))
theorem mulL_in (a b : List Int) (ha : digitsIn 8191 a) (hb : digitsIn 8191 b) (hal : a.length = 10) (hbl : b.length = 10) : ∀ i, i ≤ 10 → digitsIn (335544320 * ((10 * i : Nat) : Int)) (mulL a b i) := by
  intro i
  induction i with
  | zero => intro _ x hx; rw [mulL] at hx; have := List.eq_of_mem_replicate hx; omega
  | succ i ih => intro hi; exact mulRow_in a b _ i (10 * i) ha hb hal hbl (by omega) (mulL_length _ _ _) (ih (by omega)) 10 (by omega)
/-- The product: its digits, and its number modulo p. -/
theorem mul_digits (a b : List Int) (ha : digitsIn 8191 a) (hb : digitsIn 8191 b) (hal : a.length = 10) (hbl : b.length = 10) : digitsIn 8191 (carry3 (mulL a b 10)) ∧ (carry3 (mulL a b 10)).length = 10 ∧ polyV (carry3 (mulL a b 10)) % polyP = polyV a * polyV b % polyP := by
  refine ⟨carry3_digits _ (mulL_length _ _ _) (fun x hx => ?_), by rw [carry3_length, mulL_length], ?_⟩
  · obtain ⟨h0, h1⟩ := mulL_in a b ha hb hal hbl 10 (by omega) x hx
    exact ⟨h0, by omega⟩
  · obtain ⟨q1, h1⟩ := carry3_V (mulL a b 10) (mulL_length _ _ _)
    obtain ⟨q2, h2⟩ := mulL_V a b hal hbl 10 (by omega)
    rw [h1, h2, List.take_of_length_le (show a.length ≤ 10 by omega)]
    rw [show polyV a * polyV b - polyP * q2 - polyP * q1 = polyV a * polyV b - polyP * (q2 + q1) by rw [Int.mul_add]; omega]
    simp [Int.sub_emod, Int.mul_emod_right]
end

section
open Go.RowKit Go.Sort
set_option maxRecDepth 100000
set_option linter.unusedSimpArgs false
set_option linter.unusedVariables false

/-- Integers as cells of a row. -/
def ic (v : List Int) : Array Value := (v.map (Value.int .i64)).toArray
theorem ic_get (v : List Int) (j : Nat) (h : j < v.length) : (ic v)[j]? = some (.int .i64 (v.getD j 0)) := by simp [ic, h]
theorem ic_set (v : List Int) (j : Nat) (x : Int) : (ic v).setIfInBounds j (.int .i64 x) = ic (v.set j x) := by simp [ic, List.map_set]
theorem ic_cell {W : World} {D : Nat} {t : TypeId} {v : List Int} (h : W.heap[D]? = some (.cells (ic v) t)) (j : Nat) (hj : j < v.length) : W.cell? ⟨D, j, none⟩ = some (.int .i64 (v.getD j 0)) := by rw [cell_of_row W _ _ _ _ _ h]; exact ic_get v j hj
theorem and_8191 (y : Int) (h0 : 0 ≤ y) (h1 : y ≤ 137438953472) : bits .and .i64 y 8191 = y % 8192 := by
  have h13 : (BitVec.ofInt 64 8191).toNat = 2 ^ 13 - 1 := by decide
  have key : (BitVec.ofInt 64 y &&& BitVec.ofInt 64 8191).toNat = (y % ((2 ^ 64 : Nat) : Int)).toNat % 2 ^ 13 := by
    rw [BitVec.toNat_and, BitVec.toNat_ofInt, h13, Nat.and_two_pow_sub_one_eq_mod]
  show IntKind.i64.wrap ((BitVec.ofInt 64 y &&& BitVec.ofInt 64 8191).toNat : Nat) = y % 8192
  rw [key, IntKind.wrap_i64]
  omega
def carryN (v : List Int) : Nat → List Int
  | 0 => v
  | k + 1 => carry1 (carryN v k)
theorem carryN_length (v : List Int) (k : Nat) : (carryN v k).length = v.length := by
  induction k with
  | zero => rfl
  | succ k ih => rw [carryN, carry1_length, ih]
theorem carry1_in (v : List Int) (h : digitsIn 68719476736 v) : digitsIn 68719476736 (carry1 v) := by
  have b := carryGo_bound v 68719476736 8400000 0 (by omega) h (by omega) (by omega)
  have d := carryGo_digits v 0
  by_cases hl : 0 < (carryGo v 0).1.length
  · obtain ⟨x0, x1⟩ := getD_in d 0 hl
    exact digitsIn_set d (by omega) _ _ (by omega) (by omega)
  · have : (carryGo v 0).1 = [] := List.eq_nil_of_length_eq_zero (by omega)
    intro x hx; rw [carry1, this] at hx; simp at hx
theorem carryN_in (v : List Int) (h : digitsIn 68719476736 v) (k : Nat) : digitsIn 68719476736 (carryN v k) := by
  induction k with
  | zero => exact h
  | succ k ih => exact carry1_in _ ih
/-- The digits in the midst of a round. -/
def midL (u : List Int) (i : Nat) : List Int := (carryGo (u.take i) 0).1 ++ u.drop i
theorem midL_length (u : List Int) (i : Nat) (h : i ≤ u.length) : (midL u i).length = u.length := by simp [midL, carryGo_length]; omega
theorem midL_get (u : List Int) (i : Nat) (h : i < u.length) : (midL u i).getD i 0 = u.getD i 0 := by
  have hl : (carryGo (u.take i) 0).1.length = i := by simp [carryGo_length]; omega
  rw [midL, List.getD_eq_getElem?_getD, List.getElem?_append_right (by omega), hl, Nat.sub_self, List.getElem?_drop, Nat.add_zero, List.getD_eq_getElem?_getD]
theorem midL_set (u : List Int) (i : Nat) (h : i < u.length) (z : Int) : (midL u i).set i z = (carryGo (u.take i) 0).1 ++ z :: u.drop (i + 1) := by
  have hl : (carryGo (u.take i) 0).1.length = i := by simp [carryGo_length]; omega
  rw [midL, List.set_append, if_neg (by omega), hl, Nat.sub_self, List.drop_eq_getElem_cons h, List.set_cons_zero]
theorem take_go (u : List Int) (i : Nat) (h : i < u.length) : carryGo (u.take (i + 1)) 0 = ((carryGo (u.take i) 0).1 ++ [(u.getD i 0 + (carryGo (u.take i) 0).2) % 8192], (u.getD i 0 + (carryGo (u.take i) 0).2) / 8192) := by
  have e : u.getD i 0 = u[i] := by simp [h]
  rw [List.take_succ_eq_append_getElem h, carryGo_snoc, e]
theorem midL_succ (u : List Int) (i : Nat) (h : i < u.length) : (midL u i).set i ((u.getD i 0 + (carryGo (u.take i) 0).2) % 8192) = midL u (i + 1) := by
  rw [midL_set u i h, midL, take_go u i h]; simp
theorem go_c (u : List Int) (i : Nat) (h : digitsIn 68719476736 u) : 0 ≤ (carryGo (u.take i) 0).2 ∧ (carryGo (u.take i) 0).2 ≤ 8400000 :=
  carryGo_bound (u.take i) 68719476736 8400000 0 (by omega) (fun x hx => h x (List.mem_of_mem_take hx)) (by omega) (by omega)

set_option maxHeartbeats 4000000 in
theorem carried_any (D : Nat) (v : List Int) (w : World) (hD : w.heap[D]? = some (.cells (ic v) 3)) (hl : v.length = 10) (hv : digitsIn 68719476736 v) :
    Calls Tryz.prog 81 #[.slice (some ⟨D, 0, none⟩) 10 10] w fun e w' => e = .returned (.slice (some ⟨D, 0, none⟩) 10 10) ∧ w'.heap[D]? = some (.cells (ic (carry3 v)) 3) ∧ But D w w' := by
  have HD := Lib.hid hD; have HV := Lib.hid hv; have HLv := Lib.hid hl
  clear hD hv hl
  go_enter Tryz.func81, Tryz.ntmps81
  go_wp2_with fail
  go_loopw [3] (fun kv wr => ∃ k : Nat, k ≤ 3 ∧ kv = .int .i64 k ∧ wr.heap[D]? = some (.cells (ic (carryN v k)) 3) ∧ But D w wr) (fun kv _ => 3 - (intOf kv).toNat)
  case atStart => exact ⟨0, by omega, rfl, HD.out, But.refl _ _⟩
  case round =>
    clear HD
    obtain ⟨k, hk, rfl, hd, hbut⟩ := hrel
    have HD := Lib.hid hd
    clear hd
    by_cases hk3 : k < 3
    · have hdk : decide ((k : Int) < 3) = true := by simp; omega
      have HU := Lib.hid (carryN_in v HV.out k)
      have HUl := Lib.hid (show (carryN v k).length = 10 from by rw [carryN_length, HLv.out])
      have HN : Hid (carryN v (k + 1) = carry1 (carryN v k)) := Lib.hid rfl
      generalize carryN v k = u at *
      go_wp2_with fail
      go_loopw [4, 5] (fun cv iv wr => ∃ i : Nat, i ≤ 10 ∧ iv = .int .i64 i ∧ cv = .int .i64 (carryGo (u.take i) 0).2 ∧ wr.heap[D]? = some (.cells (ic (midL u i)) 3) ∧ But D w wr) (fun _ iv _ => 10 - (intOf iv).toNat)
      case atStart => exact ⟨0, by omega, rfl, rfl, HD.out, hbut⟩
      case round =>
        clear HD hbut
        obtain ⟨i, hi, rfl, rfl, hd, hbut⟩ := hrel
        have HD := Lib.hid hd
        clear hd
        by_cases hi10 : i < 10
        · have hdi : decide ((i : Int) < 10) = true := by simp; omega
          obtain ⟨c0, c1⟩ := go_c u i HU.out
          obtain ⟨x0, x1⟩ := getD_in HU.out i (by rw [HUl.out]; exact hi10)
          have HS := Lib.hid (midL_succ u i (by rw [HUl.out]; exact hi10))
          have HT := Lib.hid (congrArg Prod.snd (take_go u i (by rw [HUl.out]; exact hi10)))
          have HML := Lib.hid (show (midL u i).length = 10 from by rw [midL_length u i (by rw [HUl.out]; omega), HUl.out])
          have cx := ic_cell HD.out i (by rw [HML.out]; exact hi10)
          rw [midL_get u i (by rw [HUl.out]; exact hi10)] at cx
          have fx := frozen_of_row wr D i _ _ HD.out
          generalize u.getD i 0 = x at *
          generalize (carryGo (u.take i) 0).2 = c at *
          have ha := and_8191 (x + c) (by omega) (by omega)
          have r1 := heap_setCell_same wr D i _ _ (.int .i64 (x + c)) HD.out
          rw [ic_set] at r1
          have cy := ic_cell r1 i (by rw [List.length_set, HML.out]; exact hi10)
          have e1 : ((midL u i).set i (x + c)).getD i 0 = x + c := by simp [List.getD_eq_getElem?_getD, HML.out, hi10]
          rw [e1] at cy
          have fy := frozen_of_row _ D i _ _ r1
          have r2 := heap_setCell_same _ D i _ _ (.int .i64 ((x + c) % 8192)) r1
          rw [ic_set, List.set_set, HS.out] at r2
          have HR2 := Lib.hid r2
          have hbut2 := (hbut.trans (But.setCell D wr ⟨D, i, none⟩ (.int .i64 (x + c)) rfl)).trans (But.setCell D _ ⟨D, i, none⟩ (.int .i64 ((x + c) % 8192)) rfl)
          clear r1 r2 e1 HS
          go_wp2_with fail
          go_roundw
          case rel => exact ⟨i + 1, by omega, by go_num, by rw [HT.out], HR2.out, hbut2⟩
          case measure => simp [intOf]; omega
        · have hdi : decide ((i : Int) < 10) = false := by simp; omega
          obtain rfl : i = 10 := by omega
          have HM : Hid (midL u 10 = (carryGo u 0).1) := Lib.hid (by rw [midL, List.take_of_length_le (by rw [HUl.out]; omega), List.drop_of_length_le (by rw [HUl.out]; omega), List.append_nil])
          have hc := go_c u 10 HU.out
          rw [HM.out] at HD
          have ht : u.take 10 = u := List.take_of_length_le (by rw [HUl.out]; omega)
          rw [ht] at hc
          rw [ht]
          have HC1 : Hid (carry1 u = (carryGo u 0).1.set 0 ((carryGo u 0).1.getD 0 0 + 5 * (carryGo u 0).2)) := Lib.hid rfl
          have hl1 : (carryGo u 0).1.length = 10 := by rw [carryGo_length, HUl.out]
          have hx := getD_in (carryGo_digits u 0) 0 (by omega)
          have cx := ic_cell HD.out 0 (by omega)
          have fx := frozen_of_row wr D 0 _ _ HD.out
          have HX := Lib.hid hx
          generalize (carryGo u 0).1.getD 0 0 = x at *
          generalize (carryGo u 0).2 = c at *
          obtain ⟨x0, x1⟩ := HX.out
          obtain ⟨c0, c1⟩ := hc
          have r1 := heap_setCell_same wr D 0 _ _ (.int .i64 (x + 5 * c)) HD.out
          rw [ic_set, ← HC1.out, ← HN.out] at r1
          have HR := Lib.hid r1
          have hbut2 := hbut.trans (But.setCell D wr ⟨D, 0, none⟩ (.int .i64 (x + 5 * c)) rfl)
          clear r1 HC1 HM hl1 ht
          go_wp2_with fail
          go_roundw
          case rel => exact ⟨k + 1, by omega, by go_num, HR.out, hbut2⟩
          case measure => simp [intOf]; omega
    · have hdk : decide ((k : Int) < 3) = false := by simp; omega
      obtain rfl : k = 3 := by omega
      go_wp2_with fail
      go_ret
      exact ⟨rfl, HD.out, hbut⟩
end

section
open Go.RowKit Go.Sort
set_option maxRecDepth 100000
set_option linter.unusedSimpArgs false
set_option linter.unusedVariables false

theorem info_int : (Tryz.prog.info? 3).map (fun i => (i.zero, i.size, i.bytes)) = some (some (.int .i64 0), 1, 8) := by kernel_rfl
/-- Ten noughts. -/
def zeros10 : Array Value := ic (List.replicate 10 0)
theorem made_ints (n : Nat) : madeCells (Value.int .i64 0).cells n = ic (List.replicate n 0) := by
  apply Array.ext_getElem?
  intro i
  by_cases h : i < n
  · simp [madeCells, ic, Value.cells, h, Nat.mod_one]
  · simp [madeCells, ic, Value.cells, h]
theorem make10 (W : World) : (Instr.makeSlice 109 (.int .i64 10) (.int .i64 10)).run Tryz.prog W = .ok (.slice (some ⟨W.heap.size, 0, none⟩) 10 10) (W.alloc (.cells zeros10 3)) := by
  obtain ⟨i0, hi, hz0, hz1, hz2⟩ := info_parts info_int
  have h := run_make (P := Tryz.prog) W 109 3 i0 (.int .i64 0) Tryz.underlying109 hi hz0 .i64 .i64 10 10 (by omega) (by omega) (by rw [hz2]; omega) (by omega)
  have e : madeCells (Value.int .i64 0).cells ((10 : Int).toNat * i0.size) = zeros10 := by rw [hz1, made_ints]; rfl
  rw [e] at h
  exact h

set_option maxHeartbeats 4000000 in
theorem ptimes_any (Da Db : Nat) (a b : List Int) (w : World) (hDa : w.heap[Da]? = some (.cells (ic a) 3)) (hDb : w.heap[Db]? = some (.cells (ic b) 3)) (hal : a.length = 10) (hbl : b.length = 10) (ha : digitsIn 8191 a) (hb : digitsIn 8191 b) :
    Calls Tryz.prog 80 #[.slice (some ⟨Da, 0, none⟩) 10 10, .slice (some ⟨Db, 0, none⟩) 10 10] w fun e w' => ∃ O, e = .returned (.slice (some ⟨O, 0, none⟩) 10 10) ∧ w.heap.size ≤ O ∧ w'.heap[O]? = some (.cells (ic (carry3 (mulL a b 10))) 3) ∧ Below w.heap.size w w' := by
  have hmk := make10
  have HO := Lib.hid (show (w.alloc (.cells zeros10 3)).heap[w.heap.size]? = some (.cells (ic (mulL a b 0)) 3) from blk_new w _)
  have hB0 := below_new w (.cells zeros10 3)
  have hla := blk_lt hDa; have hlb := blk_lt hDb
  have HDa := Lib.hid hDa; have HDb := Lib.hid hDb; have HA := Lib.hid ha; have HB := Lib.hid hb; have HAl := Lib.hid hal; have HBl := Lib.hid hbl
  have hsz0 : w.heap.size < (w.alloc (.cells zeros10 3)).heap.size := by simp
  clear hDa hDb ha hb hal hbl
  go_enter Tryz.func80, Tryz.ntmps80
  go_wp2_with fail
  clear hmk
  generalize (w.alloc (.cells zeros10 3)) = W0 at *
  generalize hBB : w.heap.size = O at *
  have HBB := Lib.hid hBB
  clear hBB
  go_loopw [6] (fun iv wr => ∃ i : Nat, i ≤ 10 ∧ iv = .int .i64 i ∧ wr.heap[O]? = some (.cells (ic (mulL a b i)) 3) ∧ Below O w wr) (fun iv _ => 10 - (intOf iv).toNat)
  case atStart => exact ⟨0, by omega, rfl, HO.out, hB0⟩
  case round =>
    clear HO hB0 hsz0
    obtain ⟨i, hi, rfl, ho, hbl⟩ := hrel
    have HO := Lib.hid ho
    clear ho
    by_cases hi10 : i < 10
    · have hdi : decide ((i : Int) < 10) = true := by simp; omega
      have HN : Hid (mulL a b (i + 1) = mulRow a b (mulL a b i) i 10) := Lib.hid rfl
      have HM := Lib.hid (mulL_in a b HA.out HB.out HAl.out HBl.out i (by omega))
      have HMl := Lib.hid (mulL_length a b i)
      generalize mulL a b i = m at *
      go_wp2_with fail
      go_loopw [7] (fun kv wr => ∃ k : Nat, k ≤ 10 ∧ kv = .int .i64 k ∧ wr.heap[O]? = some (.cells (ic (mulRow a b m i k)) 3) ∧ Below O w wr) (fun kv _ => 10 - (intOf kv).toNat)
      case atStart => exact ⟨0, by omega, rfl, HO.out, hbl⟩
      case round =>
        clear HO hbl
        obtain ⟨k, hk, rfl, ho, hbl⟩ := hrel
        have HO := Lib.hid ho
        clear ho
        by_cases hk10 : k < 10
        · have hdk : decide ((k : Int) < 10) = true := by simp; omega
          have HR := Lib.hid (mulRow_in a b m i (10 * i) HA.out HB.out HAl.out HBl.out hi10 HMl.out HM.out k (by omega))
          have HRl := Lib.hid (show (mulRow a b m i k).length = 10 from by rw [mulRow_length, HMl.out])
          have HRS : Hid (mulRow a b m i (k + 1) = mulStep a b (mulRow a b m i k) i k) := Lib.hid rfl
          obtain ⟨a0, a1⟩ := getD_in HA.out i (by rw [HAl.out]; exact hi10)
          obtain ⟨b0, b1⟩ := getD_in HB.out k (by rw [HBl.out]; exact hk10)
          have p0 : 0 ≤ a.getD i 0 * b.getD k 0 := Int.mul_nonneg a0 b0
          have p1 : a.getD i 0 * b.getD k 0 ≤ 67092481 := Int.mul_le_mul a1 b1 b0 (by omega)
          have ca := (hbl.cell (p := ⟨Da, i, none⟩) hla).trans (ic_cell HDa.out i (by rw [HAl.out]; exact hi10))
          have cb := (hbl.cell (p := ⟨Db, k, none⟩) hlb).trans (ic_cell HDb.out k (by rw [HBl.out]; exact hk10))
          generalize mulRow a b m i k = r at *
          by_cases hlow : i + k < 10
          · have hdl : decide ((i : Int) + (k : Int) < 10) = true := by simp; omega
            have HS : Hid (mulStep a b r i k = r.set (i + k) (r.getD (i + k) 0 + a.getD i 0 * b.getD k 0)) := Lib.hid (by rw [mulStep, if_pos hlow])
            obtain ⟨r0, r1⟩ := getD_in HR.out (i + k) (by rw [HRl.out]; exact hlow)
            have cr := ic_cell HO.out (i + k) (by rw [HRl.out]; exact hlow)
            have q0 : (0 : Int) ≤ (i : Int) + (k : Int) := by omega
            generalize a.getD i 0 = x at *
            generalize b.getD k 0 = y at *
            generalize r.getD (i + k) 0 = z at *
            have z1 : z ≤ 40000000000 := by omega
            clear r1
            have Hx := Lib.hid (And.intro a0 a1); have Hy := Lib.hid (And.intro b0 b1)
            clear a0 a1 b0 b1
            go_wp2_with fail
            have ka := cell_regrown ca; have kb := cell_regrown cb; have kr := cell_regrown cr
            refine wp_region_reads_tail 21 (by kernel_rfl) (by kernel_rfl) ?_
            simp only [List.take_succ_cons, List.take_zero, List.drop_succ_cons, List.drop_zero]
            repeat (first | go_big_quiet_step (fail) | quiet_step (fail))
            refine wpQuiet_nil ?_
            intro W1 hb1
            have hO1 := blk_below hb1 (blk_lt HO.out) HO.out
            have hbl1 : Below O w W1 := hbl.trans (hb1.mono (Nat.le_of_lt (blk_lt HO.out)))
            have cz := ic_cell hO1 (i + k) (by rw [HRl.out]; exact hlow)
            have fz := frozen_of_row W1 O (i + k) _ _ hO1
            have s1 := heap_setCell_same W1 O (i + k) _ _ (.int .i64 (z + x * y)) hO1
            rw [ic_set, ← HS.out, ← HRS.out] at s1
            have HS1 := Lib.hid s1
            have hbl2 : Below O w (W1.setCell ⟨O, i + k, none⟩ (.int .i64 (z + x * y))) := hbl1.setCell (Nat.le_refl _) _
            clear s1 ka kb kr ca cb cr hb1 hO1 hbl HS HRS
            go_wp2_with fail
            go_roundw
            case rel => exact ⟨k + 1, by omega, by go_num, HS1.out, hbl2⟩
            case measure => simp [intOf]; omega
          · have hdl : decide ((i : Int) + (k : Int) < 10) = false := by simp; omega
            obtain ⟨t, ht⟩ : ∃ t, i + k - 10 = t := ⟨_, rfl⟩
            have ht10 : t < 10 := by omega
            have htz : (i : Int) + (k : Int) - 10 = (t : Int) := by omega
            have HS : Hid (mulStep a b r i k = r.set t (r.getD t 0 + 5 * a.getD i 0 * b.getD k 0)) := Lib.hid (by rw [mulStep, if_neg hlow, ht])
            obtain ⟨r0, r1⟩ := getD_in HR.out t (by rw [HRl.out]; exact ht10)
            have cr := ic_cell HO.out t (by rw [HRl.out]; exact ht10)
            have p2 : 5 * a.getD i 0 * b.getD k 0 = 5 * (a.getD i 0 * b.getD k 0) := Int.mul_assoc _ _ _
            have p3 : 0 ≤ 5 * a.getD i 0 * b.getD k 0 := by omega
            have p4 : 5 * a.getD i 0 * b.getD k 0 ≤ 335462405 := by omega
            clear p2
            have a2 : 5 * a.getD i 0 ≤ 40955 := by omega
            have a3 : 0 ≤ 5 * a.getD i 0 := by omega
            generalize a.getD i 0 = x at *
            generalize b.getD k 0 = y at *
            generalize r.getD t 0 = z at *
            have z1 : z ≤ 40000000000 := by omega
            clear r1
            have Hx := Lib.hid (And.intro a0 a1); have Hy := Lib.hid (And.intro b0 b1)
            clear a0 a1 b0 b1
            go_wp2_with fail
            have ka := cell_regrown ca; have kb := cell_regrown cb; have kr := cell_regrown cr
            refine wp_region_reads_tail 24 (by kernel_rfl) (by kernel_rfl) ?_
            simp only [List.take_succ_cons, List.take_zero, List.drop_succ_cons, List.drop_zero]
            repeat (first | go_big_quiet_step (fail) | quiet_step (fail))
            refine wpQuiet_nil ?_
            intro W1 hb1
            have hO1 := blk_below hb1 (blk_lt HO.out) HO.out
            have hbl1 : Below O w W1 := hbl.trans (hb1.mono (Nat.le_of_lt (blk_lt HO.out)))
            have cz := ic_cell hO1 t (by rw [HRl.out]; exact ht10)
            have fz := frozen_of_row W1 O t _ _ hO1
            have s1 := heap_setCell_same W1 O t _ _ (.int .i64 (z + 5 * x * y)) hO1
            rw [ic_set, ← HS.out, ← HRS.out] at s1
            have HS1 := Lib.hid s1
            have hbl2 : Below O w (W1.setCell ⟨O, t, none⟩ (.int .i64 (z + 5 * x * y))) := hbl1.setCell (Nat.le_refl _) _
            clear s1 ka kb kr ca cb cr hb1 hO1 hbl HS HRS
            go_wp2_with fail
            go_roundw
            case rel => exact ⟨k + 1, by omega, by go_num, HS1.out, hbl2⟩
            case measure => simp [intOf]; omega
        · have hdk : decide ((k : Int) < 10) = false := by simp; omega
          obtain rfl : k = 10 := by omega
          rw [← HN.out] at HO
          go_wp2_with fail
          go_roundw
          case rel => exact ⟨i + 1, by omega, by go_num, HO.out, hbl⟩
          case measure => simp [intOf]; omega
    · have hdi : decide ((i : Int) < 10) = false := by simp; omega
      obtain rfl : i = 10 := by omega
      have hin : digitsIn 68719476736 (mulL a b 10) := fun x hx => by
        obtain ⟨h0, h1⟩ := mulL_in a b HA.out HB.out HAl.out HBl.out 10 (by omega) x hx
        exact ⟨h0, by omega⟩
      go_wp2_with fail
      refine (carried_any O (mulL a b 10) wr HO.out (mulL_length _ _ _) hin).mono ?_
      rintro e W9 ⟨rfl, hO9, hbut9⟩
      have hb9 : Below O w W9 := hbl.trans (hbut9.below (Nat.le_refl _) (Nat.le_of_lt (blk_lt HO.out)))
      have HO9 := Lib.hid hO9
      clear hO9 hbut9
      go_wp2_with fail
      go_ret
      exact ⟨O, rfl, by rw [HBB.out]; exact Nat.le_refl _, HO9.out, by rw [HBB.out]; exact hb9⟩
end

section
open Go.RowKit Go.Sort
set_option maxRecDepth 100000
set_option linter.unusedSimpArgs false
set_option linter.unusedVariables false

/-- The number that bytes are, the least first. -/
def leN : List UInt8 → Nat
  | [] => 0
  | b :: r => b.toNat + 256 * leN r
theorem leN_lt (l : List UInt8) : leN l < 256 ^ l.length := by
  induction l with
  | nil => simp [leN]
  | cons b r ih => have := UInt8.toNat_lt b; simp only [leN, List.length_cons, Nat.pow_succ]; omega
theorem leN_byte (l : List UInt8) (i : Nat) (h : i < l.length) : leN l / 256 ^ i % 256 = (l[i]).toNat := by
  induction l generalizing i with
  | nil => simp at h
  | cons b r ih =>
    have hb := UInt8.toNat_lt b
    cases i with
    | zero => first | (simp [leN]; done) | (simp [leN]; omega)
    | succ i =>
      have := ih i (by simpa using h)
      rw [leN, Nat.pow_succ, Nat.mul_comm (256 ^ i) 256, ← Nat.div_div_eq_div_mul, show (b.toNat + 256 * leN r) / 256 = leN r by omega, this]
      rfl
theorem leN_bit (l : List UInt8) (i k : Nat) (h : i < l.length) (hk : k < 8) : leN l / 2 ^ (8 * i + k) % 2 = (l[i]).toNat / 2 ^ k % 2 := by
  rw [← leN_byte l i h, Nat.pow_add, Nat.pow_mul, show (2 : Nat) ^ 8 = 256 from rfl, ← Nat.div_div_eq_div_mul]
  generalize leN l / 256 ^ i = m
  rcases (by omega : k = 0 ∨ k = 1 ∨ k = 2 ∨ k = 3 ∨ k = 4 ∨ k = 5 ∨ k = 6 ∨ k = 7) with rfl | rfl | rfl | rfl | rfl | rfl | rfl | rfl <;> simp <;> omega
/-- The digits of a number. -/
def digL (n : Nat) : List Int := (List.range 10).map fun i => ((n / 8192 ^ i % 8192 : Nat) : Int)
theorem digL_length (n : Nat) : (digL n).length = 10 := by simp [digL]
theorem digL_in (n : Nat) : digitsIn 8191 (digL n) := by
  intro x hx
  simp only [digL, List.mem_map] at hx
  obtain ⟨i, _, rfl⟩ := hx
  omega
theorem digL_get (n j : Nat) (h : j < 10) : (digL n).getD j 0 = ((n / 8192 ^ j % 8192 : Nat) : Int) := by simp [digL, h]
theorem digits_V (n : Nat) : ∀ k s, polyV ((List.range' s k).map fun i => ((n / 8192 ^ i % 8192 : Nat) : Int)) = ((n / 8192 ^ s % 8192 ^ k : Nat) : Int) := by
  intro k
  induction k with
  | zero => intro s; simp [polyV, Nat.mod_one]
  | succ k ih =>
    intro s
    rw [List.range'_succ, List.map_cons, polyV, ih (s + 1)]
    have e : n / 8192 ^ s % 8192 ^ (k + 1) = n / 8192 ^ s % 8192 + 8192 * (n / 8192 ^ (s + 1) % 8192 ^ k) := by
      rw [Nat.pow_succ 8192 s, ← Nat.div_div_eq_div_mul, Nat.pow_succ, Nat.mul_comm (8192 ^ k) 8192, Nat.mod_mul]
    rw [e]; omega
theorem digL_V (n : Nat) (h : n < 2 ^ 130) : polyV (digL n) = (n : Int) := by
  have := digits_V n 10 0
  rw [← List.range_eq_range'] at this
  rw [digL, this, Nat.pow_zero, Nat.div_one, Nat.mod_eq_of_lt (by rw [show (8192 : Nat) ^ 10 = 2 ^ 130 by decide]; exact h)]
theorem digL_zero : digL 0 = List.replicate 10 0 := by decide
/-- One more bit. -/
theorem digL_add (m n : Nat) (hm : m < 2 ^ n) (hn : n < 130) : digL (m + 2 ^ n) = (digL m).set (n / 13) ((digL m).getD (n / 13) 0 + 2 ^ (n % 13)) ∧ (digL m).getD (n / 13) 0 < 2 ^ (n % 13) := by
  have hq : n / 13 < 10 := by omega
  have e2 : (2 : Nat) ^ n = 2 ^ (n % 13) * 8192 ^ (n / 13) := by
    rw [show (8192 : Nat) = 2 ^ 13 from rfl, ← Nat.pow_mul, ← Nat.pow_add]; congr 1; omega
  have hr : n % 13 < 13 := Nat.mod_lt _ (by omega)
  have h2r : (2 : Nat) ^ (n % 13) * 2 ≤ 8192 := by
    rw [← Nat.pow_succ, show (8192 : Nat) = 2 ^ 13 from rfl]; exact Nat.pow_le_pow_right (by omega) (by omega)
  have hd : m / 8192 ^ (n / 13) < 2 ^ (n % 13) := by
    rw [Nat.div_lt_iff_lt_mul (Nat.pow_pos (by omega)), ← e2]; exact hm
  have hdm : m / 8192 ^ (n / 13) % 8192 = m / 8192 ^ (n / 13) := Nat.mod_eq_of_lt (by omega)
  refine ⟨?_, by rw [digL_get _ _ hq, hdm]; exact_mod_cast hd⟩
  apply List.ext_getElem?
  intro j
  by_cases hj : j < 10
  · rw [List.getElem?_set]
    have g1 : ∀ x, (digL x)[j]? = some ((x / 8192 ^ j % 8192 : Nat) : Int) := fun x => by simp [digL, hj]
    by_cases hjq : n / 13 = j
    · subst hjq
      rw [if_pos rfl, if_pos (by rw [digL_length]; exact hj), g1, digL_get _ _ hq, hdm, e2, Nat.add_mul_div_right _ _ (Nat.pow_pos (by omega)), Nat.mod_eq_of_lt (by omega)]
      simp
    · rw [if_neg hjq, g1, g1]
      congr 2
      rcases Nat.lt_or_ge j (n / 13) with hlt | hge
      · obtain ⟨d, hd'⟩ : ∃ d, n / 13 = j + 1 + d := ⟨n / 13 - (j + 1), by omega⟩
        rw [e2, hd', Nat.pow_add, Nat.pow_succ, ← Nat.mul_assoc, Nat.mul_comm (2 ^ (n % 13)) (8192 ^ j * 8192), Nat.mul_assoc, Nat.mul_assoc, Nat.add_mul_div_left _ _ (Nat.pow_pos (by omega)), Nat.add_mul_mod_self_left]
      · have hup : 2 ^ n * 2 ≤ 8192 ^ j := by
          have : (8192 : Nat) ^ (n / 13 + 1) ≤ 8192 ^ j := Nat.pow_le_pow_right (by omega) (by omega)
          have h3 : 2 ^ n * 2 ≤ 8192 ^ (n / 13 + 1) := by
            rw [e2, Nat.pow_succ]
            calc 2 ^ (n % 13) * 8192 ^ (n / 13) * 2 = 8192 ^ (n / 13) * (2 ^ (n % 13) * 2) := by rw [Nat.mul_comm (2 ^ (n % 13)), Nat.mul_assoc]
              _ ≤ 8192 ^ (n / 13) * 8192 := Nat.mul_le_mul_left _ h2r
          omega
        rw [Nat.div_eq_of_lt (by omega), Nat.div_eq_of_lt (by omega)]
  · rw [List.getElem?_eq_none (by rw [digL_length]; omega), List.getElem?_eq_none (by rw [List.length_set, digL_length]; omega)]
theorem mod_succ_bit (x n : Nat) : x % 2 ^ (n + 1) = x % 2 ^ n + 2 ^ n * (x / 2 ^ n % 2) := by
  rw [Nat.pow_succ, Nat.mod_mul]
/-- All digits the greatest. -/
theorem allmax (r : List Int) (h : digitsIn 8191 r) (hv : 8192 ^ r.length - 1 ≤ polyV r) : ∀ x ∈ r, x = 8191 := by
  induction r with
  | nil => intro x hx; simp at hx
  | cons y t ih =>
    have ht : digitsIn 8191 t := fun z hz => h z (by simp [hz])
    obtain ⟨y0, y1⟩ := h y (by simp)
    obtain ⟨v0, v1⟩ := polyV_bound t ht
    simp only [polyV, List.length_cons, Int.pow_succ] at hv
    intro x hx
    simp only [List.mem_cons] at hx
    rcases hx with rfl | hx
    · omega
    · exact ih ht (by omega) x hx
theorem max_V (r : List Int) (h : ∀ x ∈ r, x = 8191) : polyV r = 8192 ^ r.length - 1 := by
  induction r with
  | nil => simp [polyV]
  | cons y t ih =>
    have hy := h y (by simp)
    have := ih (fun z hz => h z (by simp [hz]))
    simp only [polyV, List.length_cons, Int.pow_succ, this, hy]
    omega
/-- Whether digits are p or more. -/
def greatB (v : List Int) : Nat → Bool
  | 0 => decide (8187 ≤ v.getD 0 0)
  | j + 1 => greatB v j && (v.getD (j + 1) 0 == 8191)
theorem greatB_iff (v : List Int) (j : Nat) : greatB v j = true ↔ 8187 ≤ v.getD 0 0 ∧ ∀ i, 1 ≤ i → i ≤ j → v.getD i 0 = 8191 := by
  induction j with
  | zero => simp [greatB]; intro _ i h1 h2; omega
  | succ j ih =>
    rw [greatB, Bool.and_eq_true, ih, beq_iff_eq]
    constructor
    · rintro ⟨⟨h0, h1⟩, h2⟩
      refine ⟨h0, fun i hi1 hi2 => ?_⟩
      by_cases hij : i = j + 1
      · rw [hij]; exact h2
      · exact h1 i hi1 (by omega)
    · rintro ⟨h0, h1⟩
      exact ⟨⟨h0, fun i a b => h1 i a (by omega)⟩, h1 (j + 1) (by omega) (by omega)⟩
/-- The least digits of a number modulo p. -/
def restL (v : List Int) : List Int := if greatB v 9 = true then (List.replicate 10 0).set 0 (v.getD 0 0 - 8187) else v
theorem restL_length (v : List Int) (h : v.length = 10) : (restL v).length = 10 := by unfold restL; split <;> simp [h]
theorem restL_V (v : List Int) (hl : v.length = 10) (hv : digitsIn 8191 v) : polyV (restL v) = polyV v % polyP ∧ digitsIn 8191 (restL v) := by
  obtain ⟨x, r, rfl⟩ : ∃ x r, v = x :: r := by cases v with | nil => simp at hl | cons x r => exact ⟨x, r, rfl⟩
  have hrl : r.length = 9 := by simpa using hl
  have hr : digitsIn 8191 r := fun z hz => hv z (by simp [hz])
  obtain ⟨x0, x1⟩ := hv x (by simp)
  obtain ⟨v0, v1⟩ := polyV_bound r hr
  have hP : polyP = 1361129467683753853853498429727072845819 := rfl
  have h9 : (8192 : Int) ^ 9 = 166153499473114484112975882535043072 := by decide
  rw [hrl, h9] at v1
  have hmem : (∀ i, 1 ≤ i → i ≤ 9 → (x :: r).getD i 0 = 8191) ↔ ∀ z ∈ r, z = 8191 := by
    constructor
    · intro h z hz
      obtain ⟨j, hj, rfl⟩ := List.getElem_of_mem hz
      have := h (j + 1) (by omega) (by omega)
      simpa [hj] using this
    · intro h i h1 h2
      obtain ⟨j, rfl⟩ : ∃ j, i = j + 1 := ⟨i - 1, by omega⟩
      have hj : j < r.length := by omega
      simp only [List.getD_cons_succ]
      rw [show r.getD j 0 = r[j] by simp [hj]]
      exact h _ (List.getElem_mem hj)
  unfold restL
  by_cases hg : greatB (x :: r) 9 = true
  · rw [if_pos hg]
    rw [greatB_iff, hmem] at hg
    obtain ⟨g0, g1⟩ := hg
    have hm := max_V r g1
    rw [hrl, h9] at hm
    simp only [List.getD_cons_zero] at g0 ⊢
    constructor
    · rw [polyV_set _ _ _ (by simp), polyV_zeros]
      simp only [polyV, hm, Int.pow_zero]
      have e : (List.replicate 10 (0 : Int)).getD 0 0 = 0 := rfl
      rw [e, hP]
      omega
    · exact digitsIn_set (m := 0) (fun z hz => by have := List.eq_of_mem_replicate hz; omega) (by omega) _ _ (by omega) (by omega)
  · rw [if_neg hg]
    refine ⟨?_, hv⟩
    rw [greatB_iff, hmem] at hg
    simp only [List.getD_cons_zero] at hg
    have hlt : polyV (x :: r) < polyP := by
      rcases Int.lt_or_le (polyV (x :: r)) polyP with h | h
      · exact h
      · exfalso
        rw [hP] at h
        simp only [polyV] at h
        have hmx : 8192 ^ r.length - 1 ≤ polyV r := by rw [hrl, h9]; omega
        exact hg ⟨by omega, allmax r hr hmx⟩
    have h0 : 0 ≤ polyV (x :: r) := (polyV_bound _ hv).1
    exact (Int.emod_eq_of_lt h0 hlt).symm
end

section
open Go.RowKit Go.Sort
set_option maxRecDepth 100000
set_option linter.unusedSimpArgs false
set_option linter.unusedVariables false

set_option maxHeartbeats 2000000 in
theorem rest_any (D : Nat) (v : List Int) (w : World) (hD : w.heap[D]? = some (.cells (ic v) 3)) (hl : v.length = 10) (hv : digitsIn 8191 v) :
    Calls Tryz.prog 82 #[.slice (some ⟨D, 0, none⟩) 10 10] w fun e w' => ∃ D', e = .returned (.slice (some ⟨D', 0, none⟩) 10 10) ∧ w'.heap[D']? = some (.cells (ic (restL v)) 3) ∧ Below w.heap.size w w' := by
  have HD := Lib.hid hD; have HLv := Lib.hid hl
  have c0 := ic_cell hD 0 (by omega)
  obtain ⟨x0, x1⟩ := getD_in hv 0 (by omega)
  have HG0 : Hid (greatB v 0 = decide (8187 ≤ v.getD 0 0)) := Lib.hid rfl
  have HR : Hid (restL v = if greatB v 9 = true then (List.replicate 10 0).set 0 (v.getD 0 0 - 8187) else v) := Lib.hid rfl
  clear hD hl hv
  generalize v.getD 0 0 = x at *
  go_enter Tryz.func82, Tryz.ntmps82
  go_wp2_with fail
  rw [← HG0.out]
  go_loopw [3, 4] (fun gv iv wr => ∃ j : Nat, j ≤ 9 ∧ iv = .int .i64 ((j : Int) + 1) ∧ gv = .bool (greatB v j) ∧ wr = w) (fun _ iv _ => 10 - (intOf iv).toNat)
  case atStart => exact ⟨0, by omega, rfl, rfl, by first | rfl | trivial⟩
  case round =>
    obtain ⟨j, hj, rfl, rfl, rfl⟩ := hrel
    by_cases hj9 : j < 9
    · have hdj : decide ((j : Int) + 1 < 10) = true := by simp; omega
      have cj := ic_cell HD.out (j + 1) (by rw [HLv.out]; omega)
      have HN : Hid (greatB v (j + 1) = (greatB v j && (v.getD (j + 1) 0 == 8191))) := Lib.hid rfl
      generalize v.getD (j + 1) 0 = y at *
      have p0 : (0 : Int) ≤ (j : Int) + 1 := by omega
      have p1 : (j : Int) + 1 < 10 := by omega
      cases hg : greatB v j with
      | true =>
        go_wp2_with fail
        go_roundw
        case rel => exact ⟨j + 1, by omega, by go_num, by rw [HN.out, hg]; simp, by first | rfl | trivial⟩
        case measure => simp [intOf]; omega
      | false =>
        go_wp2_with fail
        go_roundw
        case rel => exact ⟨j + 1, by omega, by go_num, by rw [HN.out, hg]; simp, by first | rfl | trivial⟩
        case measure => simp [intOf]; omega
    · have hdj : decide ((j : Int) + 1 < 10) = false := by simp; omega
      obtain rfl : j = 9 := by omega
      cases hg : greatB v 9 with
      | true =>
        have hmk := make10
        have HRt := Lib.hid (show restL v = (List.replicate 10 0).set 0 (x - 8187) from by rw [HR.out, if_pos hg])
        have r0 := blk_new wr (.cells zeros10 3)
        have cz := ic_cell (v := List.replicate 10 0) r0 0 (by simp)
        have fz := frozen_of_row _ wr.heap.size 0 _ _ r0
        have HR1 := Lib.hid (show (wr.alloc (.cells (zeros10.setIfInBounds 0 (.int .i64 (x - 8187))) 3)).heap[wr.heap.size]? = some (.cells (ic (restL v)) 3) from by rw [zeros10, ic_set, ← HRt.out]; exact blk_new wr _)
        have hB1 := below_new wr (.cells (zeros10.setIfInBounds 0 (.int .i64 (x - 8187))) 3)
        have cc := (below_new wr (.cells zeros10 3)).cell (p := ⟨D, 0, none⟩) (blk_lt HD.out) |>.trans c0
        clear HRt
        go_wp2_with fail
        go_ret
        exact ⟨wr.heap.size, rfl, HR1.out, hB1⟩
      | false =>
        have HRf := Lib.hid (show restL v = v from by rw [HR.out, hg]; simp)
        go_wp2_with fail
        go_ret
        exact ⟨D, rfl, by rw [HRf.out]; exact HD.out, Below.refl _ _⟩

theorem i64_or_nat (a b : Nat) (ha : a < 2 ^ 62) (hb : b < 2 ^ 62) : bits .or .i64 (a : Int) (b : Int) = ((a ||| b : Nat) : Int) := by
  have hx : a ||| b < 2 ^ 62 := Nat.or_lt_two_pow ha hb
  show IntKind.i64.wrap ((BitVec.ofInt 64 (a : Int) ||| BitVec.ofInt 64 (b : Int)).toNat : Int) = _
  have ea : (BitVec.ofInt 64 (a : Int)).toNat = a := by rw [BitVec.toNat_ofInt]; omega
  have eb : (BitVec.ofInt 64 (b : Int)).toNat = b := by rw [BitVec.toNat_ofInt]; omega
  rw [BitVec.toNat_or, ea, eb, IntKind.wrap_i64]
  omega
theorem or_bit (d : Int) (r : Nat) (h0 : 0 ≤ d) (h1 : d < 2 ^ r) (hr : r < 13) : bits .or .i64 d (2 ^ r) = d + 2 ^ r := by
  obtain ⟨n, rfl⟩ : ∃ n : Nat, d = (n : Int) := ⟨d.toNat, by omega⟩
  have h2 : (2 : Nat) ^ r ≤ 2 ^ 12 := Nat.pow_le_pow_right (by omega) (by omega)
  have hn : n < 2 ^ r := by exact_mod_cast h1
  have e : ((2 : Int) ^ r) = ((2 ^ r : Nat) : Int) := by simp
  have h3 := Nat.two_pow_add_eq_or_of_lt hn 1
  rw [e, i64_or_nat n (2 ^ r) (by omega) (by omega), Nat.or_comm]
  rw [Nat.mul_one] at h3
  rw [← h3]; omega
theorem and_one8 (y : Int) (h0 : 0 ≤ y) (h1 : y < 256) : bits .and .u8 y 1 = y % 2 := by go_bits2
set_option maxHeartbeats 2000000 in
theorem digits_any (s : ByteArray) (w : World) (hs : s.size ≤ 17) (hN : leN s.data.toList < 2 ^ 130) :
    Calls Tryz.prog 79 #[.string s] w fun e w' => ∃ D, e = .returned (.slice (some ⟨D, 0, none⟩) 10 10) ∧ w.heap.size ≤ D ∧ w'.heap[D]? = some (.cells (ic (digL (leN s.data.toList))) 3) ∧ Below w.heap.size w w' := by
  have hmk := make10
  have HL := Lib.hid (leN_lt s.data.toList)
  have HO := Lib.hid (show (w.alloc (.cells zeros10 3)).heap[w.heap.size]? = some (.cells (ic (digL (leN s.data.toList % 2 ^ (8 * 0)))) 3) from by rw [Nat.mul_zero, Nat.pow_zero, Nat.mod_one, digL_zero]; exact blk_new w _)
  have hB0 := below_new w (.cells zeros10 3)
  have HBit := Lib.hid (fun (i k : Nat) (hi : i < s.size) (hk : k < 8) => (leN_bit s.data.toList i k (by rw [← Lib.size_eq]; exact hi) hk).trans (show _ = s[i].toNat / 2 ^ k % 2 from rfl))
  have HNb := Lib.hid hN
  have HSz := Lib.hid (Lib.size_eq s)
  clear hN
  generalize hN : leN s.data.toList = N at *
  clear hN
  go_enter Tryz.func79, Tryz.ntmps79
  go_wp2_with fail
  clear hmk
  generalize (w.alloc (.cells zeros10 3)) = W0 at *
  generalize hBB : w.heap.size = O at *
  have HBB := Lib.hid hBB
  clear hBB
  go_loopw [4] (fun iv wr => ∃ i : Nat, i ≤ s.size ∧ iv = .int .i64 i ∧ wr.heap[O]? = some (.cells (ic (digL (N % 2 ^ (8 * i)))) 3) ∧ Below O w wr) (fun iv _ => s.size - (intOf iv).toNat)
  case atStart => exact ⟨0, by omega, rfl, HO.out, hB0⟩
  case round =>
    clear HO hB0
    obtain ⟨i, hi, rfl, ho, hb⟩ := hrel
    have HO := Lib.hid ho
    clear ho
    by_cases hlt : i < s.size
    · have hdi : (i : Int) < (s.size : Int) := by omega
      go_wp2_with fail
      go_loopw [5] (fun kv wr => ∃ k : Nat, k ≤ 8 ∧ kv = .int .i64 k ∧ wr.heap[O]? = some (.cells (ic (digL (N % 2 ^ (8 * i + k)))) 3) ∧ Below O w wr) (fun kv _ => 8 - (intOf kv).toNat)
      case atStart => exact ⟨0, by omega, rfl, HO.out, hb⟩
      case round =>
        clear HO hb
        obtain ⟨k, hk, rfl, ho, hb⟩ := hrel
        have HO := Lib.hid ho
        clear ho
        by_cases hk8 : k < 8
        · have hdk : decide ((k : Int) < 8) = true := by simp; omega
          have hbit := HBit.out i k hlt hk8
          have hsuc := mod_succ_bit N (8 * i + k)
          have hsb := UInt8.toNat_lt s[i]
          have hy : s[i].toNat / 2 ^ k < 256 := Nat.lt_of_le_of_lt (Nat.div_le_self _ _) hsb
          have hyz : (s[i].toNat : Int) / 2 ^ k = ((s[i].toNat / 2 ^ k : Nat) : Int) := by simp
          have ha := and_one8 ((s[i].toNat : Int) / 2 ^ k) (by rw [hyz]; exact Int.natCast_nonneg _) (by rw [hyz]; exact_mod_cast hy)
          rw [hbit] at hsuc
          rw [hyz] at ha
          by_cases hq : s[i].toNat / 2 ^ k % 2 = 1
          · have hd1 : (bits .and .u8 ((s[i].toNat : Int) / 2 ^ k) 1 == 1) = true := by
              rw [hyz, ha]; have : ((s[i].toNat / 2 ^ k : Nat) : Int) % 2 = 1 := by exact_mod_cast hq
              rw [this]; rfl
            rw [hq, Nat.mul_one] at hsuc
            have hn : 8 * i + k < 130 := by
              rcases Nat.lt_or_ge (8 * i + k) 130 with h | h
              · exact h
              · exfalso
                have h1 : 2 ^ 130 ≤ 2 ^ (8 * i + k) := Nat.pow_le_pow_right (by omega) h
                have h2 : N / 2 ^ (8 * i + k) = 0 := Nat.div_eq_of_lt (Nat.lt_of_lt_of_le HNb.out h1)
                rw [h2] at hbit; omega
            obtain ⟨a1, a2⟩ := digL_add (N % 2 ^ (8 * i + k)) (8 * i + k) (Nat.mod_lt _ (Nat.pow_pos (by omega))) hn
            rw [← hsuc] at a1
            obtain ⟨t, ht⟩ : ∃ t, (8 * i + k) / 13 = t := ⟨_, rfl⟩
            obtain ⟨r, hr⟩ : ∃ r, (8 * i + k) % 13 = r := ⟨_, rfl⟩
            have ht10 : t < 10 := by omega
            have hr13 : r < 13 := by omega
            have htz : (8 * (i : Int) + (k : Int)) / 13 = (t : Int) := by omega
            have hrz : (8 * (i : Int) + (k : Int)) % 13 = (r : Int) := by omega
            rw [ht, hr] at a1 a2
            obtain ⟨d0, d1⟩ := getD_in (digL_in (N % 2 ^ (8 * i + k))) t (by rw [digL_length]; exact ht10)
            have cd := ic_cell HO.out t (by rw [digL_length]; exact ht10)
            generalize (digL (N % 2 ^ (8 * i + k))).getD t 0 = d at *
            have hor := or_bit d r d0 a2 hr13
            have h2r : (2 : Int) ^ r ≤ 4096 := by
              have : (2 : Nat) ^ r ≤ 2 ^ 12 := Nat.pow_le_pow_right (by omega) (by omega)
              exact_mod_cast this
            have h2p : (0 : Int) < 2 ^ r := Int.pow_pos (by omega)
            have HA1 := Lib.hid a1
            have hik : (8 * (i : Int) + (k : Int)) < 130 := by omega
            clear hsuc hbit hq a1 ha hyz hy hsb a2
            go_wp2_with fail
            have hn0 : (0 : Int) ≤ 8 * (i : Int) + (k : Int) := by omega
            generalize hnn : 8 * (i : Int) + (k : Int) = nn at *
            have e39 : IntKind.i64.wrap (1 * 2 ^ r) = 2 ^ r := by rw [Int.one_mul]; exact IntWalk.i64_in _ (by omega)
            have kd := cell_regrown cd
            refine wp_region_reads_tail 13 (by kernel_rfl) (by kernel_rfl) ?_
            simp only [List.take_succ_cons, List.take_zero, List.drop_succ_cons, List.drop_zero]
            repeat (first | go_big_quiet_step (fail) | quiet_step (fail))
            refine wpQuiet_nil ?_
            intro W1 hb1
            have hO1 := blk_below hb1 (blk_lt HO.out) HO.out
            have hbl1 : Below O w W1 := hb.trans (hb1.mono (Nat.le_of_lt (blk_lt HO.out)))
            have cz := ic_cell hO1 t (by rw [digL_length]; exact ht10)
            have fz := frozen_of_row W1 O t _ _ hO1
            have s1 := heap_setCell_same W1 O t _ _ (.int .i64 (d + 2 ^ r)) hO1
            rw [ic_set, ← HA1.out] at s1
            have HS1 := Lib.hid s1
            have hbl2 : Below O w (W1.setCell ⟨O, t, none⟩ (.int .i64 (d + 2 ^ r))) := hbl1.setCell (Nat.le_refl _) _
            clear s1 kd cd hb1 hO1 hb
            go_wp2_with fail
            go_roundw
            case rel => exact ⟨k + 1, by omega, by go_num, HS1.out, hbl2⟩
            case measure => simp [intOf]; omega
          · have hq0 : s[i].toNat / 2 ^ k % 2 = 0 := by omega
            have hd1 : (bits .and .u8 ((s[i].toNat : Int) / 2 ^ k) 1 == 1) = false := by
              rw [hyz, ha]; have : ((s[i].toNat / 2 ^ k : Nat) : Int) % 2 = 0 := by exact_mod_cast hq0
              rw [this]; rfl
            rw [hq0, Nat.mul_zero, Nat.add_zero] at hsuc
            have HSu := Lib.hid (show N % 2 ^ (8 * i + (k + 1)) = N % 2 ^ (8 * i + k) from hsuc)
            clear hsuc hbit hq hq0 ha hyz hy hsb
            go_wp2_with fail
            go_roundw
            case rel => exact ⟨k + 1, by omega, by go_num, by rw [HSu.out]; exact HO.out, hb⟩
            case measure => simp [intOf]; omega
        · have hdk : decide ((k : Int) < 8) = false := by simp; omega
          obtain rfl : k = 8 := by omega
          rw [show 8 * i + 8 = 8 * (i + 1) by omega] at HO
          go_wp2_with fail
          go_roundw
          case rel => exact ⟨i + 1, by omega, by go_num, HO.out, hb⟩
          case measure => simp [intOf]; omega
    · have hdi : ¬ (i : Int) < (s.size : Int) := by omega
      obtain rfl : i = s.size := by omega
      have HE := Lib.hid (show N % 2 ^ (8 * s.size) = N from Nat.mod_eq_of_lt (by have := HL.out; rw [← HSz.out] at this; rwa [Nat.pow_mul]))
      rw [HE.out] at HO
      go_wp2_with fail
      go_ret
      exact ⟨O, rfl, by rw [HBB.out]; exact Nat.le_refl _, HO.out, by rw [HBB.out]; exact hb⟩
end

section
open Go.RowKit Go.Sort
set_option maxRecDepth 100000
set_option linter.unusedSimpArgs false
set_option linter.unusedVariables false

/-- A byte and a mask. -/
def andB (m : Int) (x : UInt8) : UInt8 := UInt8.ofNat (bits .and .u8 (x.toNat : Int) m).toNat
theorem andB_toNat (m : Int) (x : UInt8) : ((andB m x).toNat : Int) = bits .and .u8 (x.toNat : Int) m := by
  obtain ⟨h0, h1⟩ := bits8_range .and (x.toNat : Int) m
  simp only [andB, UInt8.toNat_ofNat']
  omega
/-- The first half of a key, without the bits that do not count. -/
def cl1 (l : List UInt8) : Nat → List UInt8
  | 0 => l
  | m + 1 => (cl1 l m).set (3 + 4 * m) (andB 15 ((cl1 l m).getD (3 + 4 * m) 0))
def cl2 (l : List UInt8) : Nat → List UInt8
  | 0 => l
  | m + 1 => (cl2 l m).set (4 + 4 * m) (andB 252 ((cl2 l m).getD (4 + 4 * m) 0))
def clampL (l : List UInt8) : List UInt8 := cl2 (cl1 l 4) 3
theorem cl1_length (l : List UInt8) (m : Nat) : (cl1 l m).length = l.length := by induction m with | zero => rfl | succ m ih => simp [cl1, ih]
theorem cl2_length (l : List UInt8) (m : Nat) : (cl2 l m).length = l.length := by induction m with | zero => rfl | succ m ih => simp [cl2, ih]
theorem clampL_length (l : List UInt8) : (clampL l).length = l.length := by rw [clampL, cl2_length, cl1_length]
/-- The number behind m pieces. -/
def pieceN (l : List UInt8) (m : Nat) : Nat := leN ((l.drop (16 * m)).take 16 ++ [1])
def polyG (r : Int) (l : List UInt8) : Nat → Int
  | 0 => 0
  | m + 1 => (polyG r l m + (pieceN l m : Int)) * r % polyP
theorem leN_append (a b : List UInt8) : leN (a ++ b) = leN a + 256 ^ a.length * leN b := by
  induction a with
  | nil => simp [leN]
  | cons x r ih => simp only [List.cons_append, leN, ih, List.length_cons, Nat.pow_succ]; rw [Nat.mul_add, ← Nat.mul_assoc, Nat.mul_comm 256 (256 ^ r.length)]; omega
theorem piece_lt (l : List UInt8) (h : l.length ≤ 16) : leN (l ++ [1]) < 2 ^ 130 := by
  have h1 := leN_lt l
  have h2 : 256 ^ l.length ≤ 256 ^ 16 := Nat.pow_le_pow_right (by omega) h
  rw [leN_append]
  have e : leN [1] = 1 := rfl
  rw [e, Nat.mul_one]
  have : (256 : Nat) ^ 16 = 2 ^ 128 := by decide
  omega
/-- So many bytes of a number, the least first. -/
def leOut (n : Nat) : Nat → List UInt8
  | 0 => []
  | i + 1 => leOut n i ++ [UInt8.ofNat (n / 256 ^ i % 256)]
theorem leOut_length (n i : Nat) : (leOut n i).length = i := by induction i with | zero => rfl | succ i ih => simp [leOut, ih]
/-- The tag. -/
def polyR (key : List UInt8) : Int := (leN (clampL (key.take 16)) : Int)
def polyTag (key data : List UInt8) : List UInt8 := leOut ((polyG (polyR key) data ((data.length + 15) / 16)).toNat + leN (key.drop 16)) 16
theorem polyP_pos : 0 < polyP := by decide
theorem polyG_range (r : Int) (l : List UInt8) (m : Nat) : 0 ≤ polyG r l m ∧ polyG r l m < polyP := by
  cases m with
  | zero => exact ⟨Int.le_refl _, polyP_pos⟩
  | succ m => exact ⟨Int.emod_nonneg _ (by decide), Int.emod_lt_of_pos _ polyP_pos⟩
/-- Sums of digits. -/
def sumL (a d : List Int) : Nat → List Int
  | 0 => a
  | i + 1 => (sumL a d i).set i ((sumL a d i).getD i 0 + d.getD i 0)
theorem sumL_length (a d : List Int) (i : Nat) : (sumL a d i).length = a.length := by induction i with | zero => rfl | succ i ih => simp [sumL, ih]
theorem sumL_get (a d : List Int) (i j : Nat) (h : i ≤ j) : (sumL a d i).getD j 0 = a.getD j 0 := by
  induction i with
  | zero => rfl
  | succ i ih =>
    rw [sumL, ← ih (by omega)]
    simp [List.getD_eq_getElem?_getD, List.getElem?_set, show ¬ i = j by omega]
theorem sumL_V (a d : List Int) (ha : a.length = 10) (hd : d.length = 10) : ∀ i, i ≤ 10 → polyV (sumL a d i) = polyV a + polyV (d.take i) := by
  intro i
  induction i with
  | zero => intro _; simp [sumL, polyV]
  | succ i ih =>
    intro hi
    rw [sumL, polyV_set _ _ _ (by rw [sumL_length]; omega), ih (by omega), take_V d i (by omega)]
    have : (sumL a d i).getD i 0 + d.getD i 0 - (sumL a d i).getD i 0 = d.getD i 0 := by omega
    rw [this]; omega
theorem sumL_in (a d : List Int) (ha : digitsIn 8191 a) (hd : digitsIn 8191 d) (hal : a.length = 10) (hdl : d.length = 10) : ∀ i, i ≤ 10 → digitsIn 16382 (sumL a d i) := by
  intro i
  induction i with
  | zero => intro _ x hx; obtain ⟨h0, h1⟩ := ha x hx; exact ⟨h0, by omega⟩
  | succ i ih =>
    intro hi
    obtain ⟨a0, a1⟩ := getD_in ha i (by omega)
    obtain ⟨d0, d1⟩ := getD_in hd i (by omega)
    rw [sumL, sumL_get a d i i (Nat.le_refl _)]
    exact digitsIn_set (ih (by omega)) (by omega) _ _ (by omega) (by omega)
/-- Digits are those of their number. -/
theorem digL_of (v : List Int) (hl : v.length = 10) (hv : digitsIn 8191 v) : v = digL (polyV v).toNat := by
  have key : ∀ (k s : Nat) (u : List Int), u.length = k → digitsIn 8191 u → ∀ n : Nat, (n / 8192 ^ s : Nat) = (polyV u).toNat → u = (List.range' s k).map fun i => ((n / 8192 ^ i % 8192 : Nat) : Int) := by
    intro k
    induction k with
    | zero => intro s u hu _ n _; rw [List.length_eq_zero_iff.1 hu]; rfl
    | succ k ih =>
      intro s u hu hd n hn
      cases u with
      | nil => simp at hu
      | cons x r =>
        have hr : digitsIn 8191 r := fun z hz => hd z (by simp [hz])
        obtain ⟨x0, x1⟩ := hd x (by simp)
        obtain ⟨v0, _⟩ := polyV_bound r hr
        simp only [polyV] at hn
        rw [List.range'_succ, List.map_cons]
        have e1 : x = ((n / 8192 ^ s % 8192 : Nat) : Int) := by rw [hn]; omega
        have e2 : n / 8192 ^ (s + 1) = (polyV r).toNat := by
          rw [Nat.pow_succ, ← Nat.div_div_eq_div_mul, hn]; omega
        rw [← e1, ← ih (s + 1) r (by simpa using hu) hr n e2]
  have := key 10 0 v hl hv (polyV v).toNat (by simp)
  rw [← List.range_eq_range'] at this
  exact this
/-- A bit of a digit is a bit of the number. -/
theorem digit_bit (n j : Nat) (h : j < 130) : n / 8192 ^ (j / 13) % 8192 / 2 ^ (j % 13) % 2 = n / 2 ^ j % 2 := by
  have e2 : (2 : Nat) ^ j = 8192 ^ (j / 13) * 2 ^ (j % 13) := by
    rw [show (8192 : Nat) = 2 ^ 13 from rfl, ← Nat.pow_mul, ← Nat.pow_add]; congr 1; omega
  rw [e2, ← Nat.div_div_eq_div_mul]
  generalize n / 8192 ^ (j / 13) = m
  have hr : j % 13 < 13 := Nat.mod_lt _ (by omega)
  generalize j % 13 = r at *
  rcases (by omega : r = 0 ∨ r = 1 ∨ r = 2 ∨ r = 3 ∨ r = 4 ∨ r = 5 ∨ r = 6 ∨ r = 7 ∨ r = 8 ∨ r = 9 ∨ r = 10 ∨ r = 11 ∨ r = 12) with rfl | rfl | rfl | rfl | rfl | rfl | rfl | rfl | rfl | rfl | rfl | rfl | rfl <;> simp <;> omega
/-- The sum of two numbers, byte by byte. -/
theorem add_byte (t s p : Nat) (hp : 0 < p) : (t % p + s % p) / p + t / p % 256 + s / p % 256 = (t % (p * 256) + s % (p * 256)) / p := by
  have h1 : t % (p * 256) = t % p + p * (t / p % 256) := Nat.mod_mul
  have h2 : s % (p * 256) = s % p + p * (s / p % 256) := Nat.mod_mul
  rw [h1, h2, show t % p + p * (t / p % 256) + (s % p + p * (s / p % 256)) = (t % p + s % p) + p * (t / p % 256 + s / p % 256) by rw [Nat.mul_add]; omega, Nat.add_mul_div_left _ _ hp]
  omega
theorem add_low (t s p : Nat) (hp : 0 < p) : (t % (p * 256) + s % (p * 256)) / p % 256 = (t + s) / p % 256 := by
  rw [← Nat.mod_mul_right_div_self, ← Nat.mod_mul_right_div_self, ← Nat.add_mod]
end

section
open Go.RowKit Go.Sort
set_option maxRecDepth 100000
set_option linter.unusedSimpArgs false
set_option linter.unusedVariables false

theorem piece_take (rem : ByteArray) (l : List UInt8) (h : rem.data.toList = l) (n : Nat) (hn : (n = 16 ∧ 16 ≤ rem.size) ∨ (n = rem.size ∧ rem.size ≤ 16)) : (rem.extract 0 n ++ (⟨#[1]⟩ : ByteArray)).data.toList = l.take 16 ++ [1] := by
  have e : (rem.extract 0 n ++ (⟨#[1]⟩ : ByteArray)).data.toList = (rem.extract 0 n).data.toList ++ [1] := by simp
  have hl : l.length = rem.size := by rw [← h, ← Lib.size_eq]
  rw [e, Lib.extract_data, h]
  congr 1
  rcases hn with ⟨rfl, _⟩ | ⟨rfl, h16⟩
  · simp
  · rw [List.take_of_length_le (show l.length ≤ 16 by omega)]
    simp [← hl]
theorem piece_whole (rem : ByteArray) (l : List UInt8) (h : rem.data.toList = l) (hn : rem.size ≤ 16) : (rem ++ (⟨#[1]⟩ : ByteArray)).data.toList = l.take 16 ++ [1] := by
  have hl : l.length = rem.size := by rw [← h, ← Lib.size_eq]
  rw [List.take_of_length_le (show l.length ≤ 16 by omega), ← h]; simp
theorem piece_drop (rem : ByteArray) (l : List UInt8) (h : rem.data.toList = l) (n : Nat) (hn : (n = 16 ∧ 16 ≤ rem.size) ∨ (n = rem.size ∧ rem.size ≤ 16)) : (rem.extract n rem.size).data.toList = l.drop 16 := by
  have hl : l.length = rem.size := by rw [← h, ← Lib.size_eq]
  rw [Lib.extract_data, h]
  rcases hn with ⟨rfl, _⟩ | ⟨rfl, h16⟩
  · rw [List.take_of_length_le (by rw [← hl]; simp)]
  · rw [List.drop_of_length_le (show l.length ≤ 16 by omega)]
    simp
theorem step_mod (va pn R g q : Int) (h : va % polyP = g) : (va + pn - polyP * q) * R % polyP = (g + pn) * R % polyP := by
  have e : (va + pn - polyP * q) % polyP = (g + pn) % polyP := by
    rw [Int.sub_emod, Int.mul_emod_right, Int.sub_zero, Int.emod_emod_of_dvd _ (Int.dvd_refl _), ← h, Int.emod_add_emod]
  rw [Int.mul_emod, e, ← Int.mul_emod]
end

section
open Go.RowKit Go.Sort
set_option maxRecDepth 100000
set_option linter.unusedSimpArgs false
set_option linter.unusedVariables false

theorem and_one64 (y : Int) : bits .and .i64 y 1 = y % 2 := by
  have h1 : (BitVec.ofInt 64 1).toNat = 2 ^ 1 - 1 := by decide
  have key : (BitVec.ofInt 64 y &&& BitVec.ofInt 64 1).toNat = (y % ((2 ^ 64 : Nat) : Int)).toNat % 2 ^ 1 := by
    rw [BitVec.toNat_and, BitVec.toNat_ofInt, h1, Nat.and_two_pow_sub_one_eq_mod]
  show IntKind.i64.wrap ((BitVec.ofInt 64 y &&& BitVec.ofInt 64 1).toNat : Nat) = y % 2
  rw [key, IntKind.wrap_i64]
  omega
theorem or_shift (x b k : Nat) (hx : x < 2 ^ k) (hb : b ≤ 1) (hk : k < 8) : bits .or .i64 (x : Int) ((b * 2 ^ k : Nat) : Int) = ((x + b * 2 ^ k : Nat) : Int) := by
  have h2 : (2 : Nat) ^ k ≤ 2 ^ 7 := Nat.pow_le_pow_right (by omega) (by omega)
  rcases (by omega : b = 0 ∨ b = 1) with rfl | rfl
  · rw [Nat.zero_mul, i64_or_nat x 0 (by omega) (by omega)]; simp
  · rw [Nat.one_mul, i64_or_nat x (2 ^ k) (by omega) (by omega), Nat.or_comm]
    have h3 := Nat.two_pow_add_eq_or_of_lt hx 1
    rw [Nat.mul_one] at h3
    rw [← h3, Nat.add_comm]
theorem x_step (t k : Nat) : t % 2 ^ (k + 1) = t % 2 ^ k + (t / 2 ^ k % 2) * 2 ^ k := by rw [mod_succ_bit, Nat.mul_comm]
theorem bit_of (t i k : Nat) : t / 2 ^ (8 * i + k) % 2 = t / 256 ^ i / 2 ^ k % 2 := by
  rw [Nat.pow_add, Nat.pow_mul, show (2 : Nat) ^ 8 = 256 from rfl, ← Nat.div_div_eq_div_mul]
/-- The bit of a digit that the walk asks for. -/
theorem digit_and (t i k : Nat) (hk : k < 8) (hi : i < 16) : bits .and .i64 (((digL t).getD ((8 * i + k) / 13) 0) / 2 ^ ((8 * i + k) % 13)) 1 = ((t / 256 ^ i / 2 ^ k % 2 : Nat) : Int) := by
  rw [and_one64, digL_get _ _ (by omega), ← bit_of, ← digit_bit t (8 * i + k) (by omega)]
  simp
/-- The carry of the sum, and what is written. -/
def carC (t s i : Nat) : Nat := (t % 256 ^ i + s % 256 ^ i) / 256 ^ i
theorem carC_le (t s i : Nat) : carC t s i ≤ 1 := by
  have hp : 0 < 256 ^ i := Nat.pow_pos (by omega)
  have h1 := Nat.mod_lt t hp; have h2 := Nat.mod_lt s hp
  have : carC t s i < 2 := by unfold carC; rw [Nat.div_lt_iff_lt_mul hp]; omega
  omega
theorem carC_step (t s i : Nat) : (carC t s i + t / 256 ^ i % 256 + s / 256 ^ i % 256) / 256 = carC t s (i + 1) ∧ (carC t s i + t / 256 ^ i % 256 + s / 256 ^ i % 256) % 256 = (t + s) / 256 ^ i % 256 := by
  have hp : 0 < 256 ^ i := Nat.pow_pos (by omega)
  have e := add_byte t s (256 ^ i) hp
  unfold carC
  rw [e]
  constructor
  · rw [Nat.div_div_eq_div_mul, ← Nat.pow_succ]
  · exact add_low t s (256 ^ i) hp
theorem key_byte (key : ByteArray) (i : Nat) (hk : key.size = 32) (hi : i < 16) : leN (key.data.toList.drop 16) / 256 ^ i % 256 = (key[16 + i]'(by omega)).toNat := by
  have hl : i < (key.data.toList.drop 16).length := by rw [List.length_drop, ← Lib.size_eq]; omega
  rw [leN_byte _ i hl]
  congr 1
  rw [List.getElem_drop]
  rfl
end

section
open Go.RowKit Go.Sort
set_option maxRecDepth 100000
set_option linter.unusedSimpArgs false
set_option linter.unusedVariables false

/-- Sixteen bytes lie in block b. -/
structure BInv (W : World) (b : Nat) (l : List UInt8) : Prop where
  len : l.length = 16
  c : ∀ j, j < 16 → W.cell? ⟨b, j, none⟩ = some (.int .u8 (l.getD j 0).toNat)
  f : ∀ j, j < 16 → W.frozen? ⟨b, j, none⟩ = false
theorem BInv.lt {W : World} {b : Nat} {l : List UInt8} (i : BInv W b l) : b < W.heap.size := block_lt_of_cell (i.c 0 (by omega))
theorem BInv.set {W : World} {b : Nat} {l : List UInt8} (i : BInv W b l) (k : Nat) (hk : k < 16) (x : UInt8) : BInv (W.setCell ⟨b, k, none⟩ (.int .u8 x.toNat)) b (l.set k x) := by
  have hl := i.len
  refine ⟨by simpa using hl, fun j hj => ?_, fun j hj => by rw [World.frozen?_setCell]; exact i.f j hj⟩
  by_cases hjk : j = k
  · subst hjk
    have e : (l.set j x).getD j 0 = x := by simp [List.getD_eq_getElem?_getD, hl, hj]
    rw [e]
    exact World.cell?_setCell_same _ _ _ (i.c j hj)
  · have e : (l.set k x).getD j 0 = l.getD j 0 := by simp [List.getD_eq_getElem?_getD, List.getElem?_set, Ne.symm hjk]
    rw [e, ← i.c j hj]
    exact World.cell?_setCell_other _ _ _ _ (by first | (simp; done) | (simp; omega) | (intro e; cases e; exact hjk rfl))
theorem byteCells_get (l : List UInt8) (j : Nat) (h : j < l.length) : (Lib.byteCells l)[j]? = some (.int .u8 (l.getD j 0).toNat) := by simp [Lib.byteCells, h]

theorem index_key (s : ByteArray) (i : Int) (j : Nat) (hi : i = (j : Int)) (h : j < s.size) (w : World) : (Instr.index 9 (.string s) (.int .i64 i)).run Tryz.prog w = .ok (.int .u8 (s[j].toNat : Int)) w := by
  subst hi
  rw [run_index_string (P := Tryz.prog) w 9 s .i64 (j : Int) Tryz.underlying9]
  simp [h]
def strLn (v : Value) : Nat := match v with | .string s => s.size | _ => 0
set_option maxHeartbeats 6000000 in
theorem refTag_any (key data : ByteArray) (w : World) (hk : key.size = 32) (hd : data.size ≤ 1048576) :
    Calls Tryz.prog 52 #[.string key, .string data] w fun e w' => e = .returned (.tuple #[.string ⟨(polyTag key.data.toList data.data.toList).toArray⟩, .int .i64 0]) ∧ Below w.heap.size w w' := by
  obtain ⟨i8, hi8, hy0, hy1, hy2⟩ := info_parts info_u8
  have hd1 : ((key.size : Int) != 32) = false := by simp [hk]
  have h16 : (16 : Int) ≤ (key.size : Int) := by omega
  have hkl : (key.extract 0 16).data.toList = key.data.toList.take 16 := by rw [Lib.extract_data]; simp
  have hks : (key.extract 0 16).size = 16 := by rw [Lib.size_eq, hkl, List.length_take, ← Lib.size_eq]; omega
  obtain ⟨ao0, cap0, hcv, hown0, hb0⟩ := run_convert_string_bytes_own (key.extract 0 16) w
  rw [hks] at hcv hown0
  obtain ⟨G, cG, hvG, hoG, hGlt⟩ := hown0.some (by rw [Lib.byteCells_length, ← Lib.size_eq]; omega)
  have hlG : (Lib.byteCells (key.extract 0 16).data.toList).length = 16 := by rw [Lib.byteCells_length, ← Lib.size_eq]; exact hks
  rw [hlG] at hvG
  cases hvG
  have hGB := hoG.base
  have hI0 : BInv (Lib.bytesWorld w 5 (key.extract 0 16)) G (cl1 (key.data.toList.take 16) 0) := by
    refine ⟨?_, fun j hj => hoG.cells j _ ?_, fun j hj => (hoG.room j ?_).2⟩
    · rw [cl1, ← hkl, ← Lib.size_eq]; exact hks
    · rw [cl1, ← hkl]; exact byteCells_get _ j (by rw [← Lib.size_eq]; omega)
    · have := hoG.le; rw [hlG] at this; omega
  have HI0 := Lib.hid hI0
  have HK := Lib.hid hk
  have hsB0 := hb0.size
  clear hk hkl hoG hown0 hlG hI0 hGlt
  go_enter Tryz.func52, Tryz.ntmps52
  go_wp2_with fail
  clear hcv
  generalize Lib.bytesWorld w 5 (key.extract 0 16) = W0 at *
  generalize hBB : w.heap.size = B at *
  have HBB := Lib.hid hBB
  clear hBB
  generalize hkl : key.data.toList.take 16 = kl at *
  have HKL := Lib.hid hkl
  clear hkl
  go_loopw [7] (fun iv wr => ∃ (m a : Nat), m ≤ 4 ∧ Hid (a = 3 + 4 * m) ∧ iv = .int .i64 (a : Int) ∧ BInv wr G (cl1 kl m) ∧ Below B w wr ∧ B ≤ wr.heap.size) (fun iv _ => 20 - (intOf iv).toNat)
  case atStart => exact ⟨0, 3, by omega, Lib.hid rfl, rfl, HI0.out, hb0, hsB0⟩
  case round =>
    clear HI0 hb0 hsB0
    obtain ⟨m, a, hm, HA, rfl, hI, hb, hsz⟩ := hrel
    have HI := Lib.hid hI
    clear hI
    by_cases hm4 : m < 4
    · have ha16 : a < 16 := by have := HA.out; omega
      have hda : decide ((a : Int) < 16) = true := by simp; omega
      have HN : Hid (cl1 kl (m + 1) = (cl1 kl m).set a (andB 15 ((cl1 kl m).getD a 0))) := Lib.hid (by rw [HA.out]; rfl)
      have cx := HI.out.c a ha16
      have fx := HI.out.f a ha16
      have HX := Lib.hid (andB_toNat 15 ((cl1 kl m).getD a 0))
      have hI2 := HI.out.set a ha16 (andB 15 ((cl1 kl m).getD a 0))
      rw [← HN.out, HX.out] at hI2
      have HI2 := Lib.hid hI2
      generalize (cl1 kl m).getD a 0 = x at *
      have hb2 : Below B w (wr.setCell ⟨G, a, none⟩ (.int .u8 (bits .and .u8 (x.toNat : Int) 15))) := hb.setCell hGB _
      have hsz2 : B ≤ (wr.setCell ⟨G, a, none⟩ (.int .u8 (bits .and .u8 (x.toNat : Int) 15))).heap.size := by simpa [World.setCell] using hsz
      clear hI2 HN HX
      go_wp2_with fail
      go_roundw
      case rel => exact ⟨m + 1, a + 4, by omega, Lib.hid (by have := HA.out; omega), by go_num, HI2.out, hb2, hsz2⟩
      case measure => simp [intOf]; omega
    · obtain rfl : m = 4 := by omega
      obtain rfl : a = 19 := by have := HA.out; omega
      rw [show ((19 : Nat) : Int) = (19 : Int) from rfl]
      generalize hkl : cl1 kl 4 = k1 at *
      have HKL1 := Lib.hid hkl
      clear hkl
      go_wp2_with fail
      go_loopw [8] (fun iv wr => ∃ (m a : Nat), m ≤ 3 ∧ Hid (a = 4 + 4 * m) ∧ iv = .int .i64 (a : Int) ∧ BInv wr G (cl2 k1 m) ∧ Below B w wr ∧ B ≤ wr.heap.size) (fun iv _ => 20 - (intOf iv).toNat)
      case atStart => exact ⟨0, 4, by omega, Lib.hid rfl, rfl, HI.out, hb, hsz⟩
      case round =>
        clear HI hb hsz HA hm hm4
        obtain ⟨m, a, hm, HA, rfl, hI, hb, hsz⟩ := hrel
        have HI := Lib.hid hI
        clear hI
        by_cases hm3 : m < 3
        · have ha16 : a < 16 := by have := HA.out; omega
          have hda : decide ((a : Int) < 16) = true := by simp; omega
          have HN : Hid (cl2 k1 (m + 1) = (cl2 k1 m).set a (andB 252 ((cl2 k1 m).getD a 0))) := Lib.hid (by rw [HA.out]; rfl)
          have cx := HI.out.c a ha16
          have fx := HI.out.f a ha16
          have HX := Lib.hid (andB_toNat 252 ((cl2 k1 m).getD a 0))
          have hI2 := HI.out.set a ha16 (andB 252 ((cl2 k1 m).getD a 0))
          rw [← HN.out, HX.out] at hI2
          have HI2 := Lib.hid hI2
          generalize (cl2 k1 m).getD a 0 = x at *
          have hb2 : Below B w (wr.setCell ⟨G, a, none⟩ (.int .u8 (bits .and .u8 (x.toNat : Int) 252))) := hb.setCell hGB _
          have hsz2 : B ≤ (wr.setCell ⟨G, a, none⟩ (.int .u8 (bits .and .u8 (x.toNat : Int) 252))).heap.size := by simpa [World.setCell] using hsz
          clear hI2 HN HX
          go_wp2_with fail
          go_roundw
          case rel => exact ⟨m + 1, a + 4, by omega, Lib.hid (by have := HA.out; omega), by go_num, HI2.out, hb2, hsz2⟩
          case measure => simp [intOf]; omega
        · obtain rfl : m = 3 := by omega
          obtain rfl : a = 16 := by have := HA.out; omega
          rw [show ((16 : Nat) : Int) = (16 : Int) from rfl]
          have HCl := Lib.hid (show clampL kl = cl2 k1 3 from by rw [clampL, HKL1.out])
          have hl16 : (cl2 k1 3).length = 16 := HI.out.len
          have hcv := run_string_row wr G cap0 (cl2 k1 3) (fun j x hx => by
            have hj : j < 16 := by rw [← hl16]; exact (List.getElem?_eq_some_iff.1 hx).1
            rw [HI.out.c j hj, List.getD_eq_getElem?_getD, hx]; rfl)
          rw [hl16] at hcv
          have HR := Lib.hid (show polyR key.data.toList = (leN (cl2 k1 3) : Int) from by rw [polyR, HKL.out, HCl.out])
          have hlt := leN_lt (cl2 k1 3)
          rw [hl16] at hlt
          generalize cl2 k1 3 = rl at *
          clear HI HCl HKL1 HA hm hm3
          go_wp2_with fail
          clear hcv
          have hr130 : leN rl < 2 ^ 130 := Nat.lt_trans hlt (by decide)
          refine (digits_any ⟨rl.toArray⟩ wr (by rw [Lib.size_eq]; simp [hl16]) (by simpa using hr130)).mono ?_
          rintro e W2 ⟨Dr, rfl, hDrB, hDr, hb2⟩
          simp only [List.toList_toArray] at hDr
          have hB2 : Below B w W2 := hb.trans (hb2.mono hsz)
          have hs2 := Nat.le_trans hsz hb2.size
          have HDr := Lib.hid hDr
          have hBDr : B ≤ Dr := Nat.le_trans hsz hDrB
          clear hb hb2 hDr hDrB hsz
          have hmk := make10
          have HD0 := Lib.hid (show (W2.alloc (.cells zeros10 3)).heap[W2.heap.size]? = some (.cells (ic (List.replicate 10 0)) 3) from blk_new W2 _)
          have HDr3 := Lib.hid (blk_old (o := .cells zeros10 3) HDr.out)
          have hDrlt := blk_lt HDr.out
          have hB3 : Below B w (W2.alloc (.cells zeros10 3)) := hB2.alloc hs2 _
          have hs3 : B ≤ (W2.alloc (.cells zeros10 3)).heap.size := by simp; omega
          have HRd := Lib.hid (digL_in (leN rl)); have HRl := Lib.hid (digL_length (leN rl)); have HRv := Lib.hid (digL_V (leN rl) hr130)
          clear HDr
          go_wp2_with fail
          clear hmk hB2 hlt hr130
          generalize (W2.alloc (.cells zeros10 3)) = W3 at *
          generalize W2.heap.size = D0 at *
          generalize digL (leN rl) = rd at *
          generalize hRn : (leN rl : Int) = R at *
          clear hRn
          go_loopw [1, 10] (fun sv av wr => ∃ (m D : Nat) (va : List Int) (rem : ByteArray), 16 * m ≤ data.size + 15 ∧ sv = .string rem ∧ av = .slice (some ⟨D, 0, none⟩) 10 10 ∧ rem.data.toList = data.data.toList.drop (16 * m) ∧ wr.heap[D]? = some (.cells (ic va) 3) ∧ va.length = 10 ∧ digitsIn 8191 va ∧ polyV va % polyP = polyG R data.data.toList m ∧ wr.heap[Dr]? = some (.cells (ic rd) 3) ∧ D ≠ Dr ∧ B ≤ D ∧ Below B w wr ∧ B ≤ wr.heap.size) (fun sv _ _ => strLn sv)
          case atStart => exact ⟨0, D0, List.replicate 10 0, data, by omega, rfl, rfl, by simp, HD0.out, by simp, fun x hx => by have := List.eq_of_mem_replicate hx; omega, by rw [polyV_zeros]; rfl, HDr3.out, by omega, hs2, hB3, hs3⟩
          case round =>
            clear HD0 HDr3 hB3 hs3 hDrlt hs2
            obtain ⟨m, D, va, rem, hm, rfl, rfl, hrem, hD, hvl, hvd, hvg, hDr, hDD, hBD, hb, hsz⟩ := hrel
            have HD := Lib.hid hD; have HDr := Lib.hid hDr; have HVl := Lib.hid hvl; have HVd := Lib.hid hvd; have HVg := Lib.hid hvg; have HRem := Lib.hid hrem
            have HRS := Lib.hid (show rem.size = data.size - 16 * m from by rw [Lib.size_eq, hrem, List.length_drop, ← Lib.size_eq])
            have hrle : rem.size ≤ 1048576 := by rw [HRS.out]; omega
            clear hD hDr hvl hvd hvg hrem
            by_cases hpos : 0 < rem.size
            · have hdp : decide ((0 : Int) < (rem.size : Int)) = true := by simp; omega
              by_cases hbig : 16 ≤ rem.size
              · have hb1 : (16 : Int) ≤ (rem.size : Int) := by omega
                have HPc := Lib.hid (piece_take rem _ HRem.out 16 (by omega))
                have hps : (rem.extract 0 16 ++ (⟨#[1]⟩ : ByteArray)).size ≤ 17 := by
                  rw [Lib.size_eq, HPc.out, List.length_append, List.length_take, List.length_cons, List.length_nil]; omega
                have hp130 : leN (rem.extract 0 16 ++ (⟨#[1]⟩ : ByteArray)).data.toList < 2 ^ 130 := by
                  rw [HPc.out]; exact piece_lt _ (by rw [List.length_take]; omega)
                have HDg := Lib.hid (fun W => digits_any (rem.extract 0 16 ++ (⟨#[1]⟩ : ByteArray)) W hps hp130)
                rw [HPc.out] at HDg
                have HPn : Hid (leN ((data.data.toList.drop (16 * m)).take 16 ++ [1]) = pieceN data.data.toList m) := Lib.hid rfl
                rw [HPn.out] at HDg
                rw [HPc.out, HPn.out] at hp130
                have HDV := Lib.hid (digL_V _ hp130); have HDi := Lib.hid (digL_in (pieceN data.data.toList m)); have HDl := Lib.hid (digL_length (pieceN data.data.toList m))
                have hnx := piece_drop rem _ HRem.out 16 (by omega)
                rw [List.drop_drop, show 16 * m + 16 = 16 * (m + 1) by omega] at hnx
                have HNx := Lib.hid hnx
                clear hnx
                have HNXS := Lib.hid (show (rem.extract 16 rem.size).size < rem.size from by rw [ByteArray.size_extract]; omega)
                have HGs : Hid (polyG R data.data.toList (m + 1) = (polyG R data.data.toList m + (pieceN data.data.toList m : Int)) * R % polyP) := Lib.hid rfl
                clear hps hp130 HPc HPn
                generalize digL (pieceN data.data.toList m) = dd at *
                generalize (pieceN data.data.toList m : Int) = pn at *
                go_wp2_with fail
                refine (HDg.out wr).mono ?_
                rintro e W4 ⟨De, rfl, hDeB, hDe, hb4⟩
                have hD4 := blk_below hb4 (blk_lt HD.out) HD.out
                have hDr4 := blk_below hb4 (blk_lt HDr.out) HDr.out
                have hDDe : D ≠ De := by have := blk_lt HD.out; omega
                have hB4 : Below B w W4 := hb.trans (hb4.mono hsz)
                have hs4 := Nat.le_trans hsz hb4.size
                have HD4 := Lib.hid hD4; have HDr4 := Lib.hid hDr4; have HDe := Lib.hid hDe
                clear HDg hb4 hb hsz HD HDr hD4 hDr4 hDe hDeB
                go_wp2_with fail
                go_loopw [13] (fun iv wr => ∃ i : Nat, i ≤ 10 ∧ iv = .int .i64 i ∧ wr.heap[D]? = some (.cells (ic (sumL va dd i)) 3) ∧ But D W4 wr) (fun iv _ => 10 - (intOf iv).toNat)
                case atStart => exact ⟨0, by omega, rfl, HD4.out, But.refl _ _⟩
                case round =>
                  clear HD4
                  obtain ⟨i, hi, rfl, hd5, hbut⟩ := hrel
                  have HD5 := Lib.hid hd5
                  clear hd5
                  by_cases hi10 : i < 10
                  · have hdi : decide ((i : Int) < 10) = true := by simp; omega
                    have HSn : Hid (sumL va dd (i + 1) = (sumL va dd i).set i ((sumL va dd i).getD i 0 + dd.getD i 0)) := Lib.hid rfl
                    have HSl := Lib.hid (show (sumL va dd i).length = 10 from by rw [sumL_length, HVl.out])
                    obtain ⟨x0, x1⟩ := getD_in (sumL_in va dd HVd.out HDi.out HVl.out HDl.out i (by omega)) i (by rw [HSl.out]; exact hi10)
                    obtain ⟨y0, y1⟩ := getD_in HDi.out i (by rw [HDl.out]; exact hi10)
                    have hDe5 := (hbut.block De (blk_lt HDe.out) (Ne.symm hDDe)).trans HDe.out
                    have cx := ic_cell HD5.out i (by rw [HSl.out]; exact hi10)
                    have cy := ic_cell hDe5 i (by rw [HDl.out]; exact hi10)
                    generalize (sumL va dd i).getD i 0 = x at *
                    generalize dd.getD i 0 = y at *
                    clear hDe5
                    go_wp2_with fail
                    have kx := cell_regrown cx; have ky := cell_regrown cy
                    refine wp_region_reads_tail 12 (by kernel_rfl) (by kernel_rfl) ?_
                    simp only [List.take_succ_cons, List.take_zero, List.drop_succ_cons, List.drop_zero]
                    repeat (first | go_big_quiet_step (fail) | quiet_step (fail))
                    refine wpQuiet_nil ?_
                    intro W5 hb5
                    have hD6 := blk_below hb5 (blk_lt HD5.out) HD5.out
                    have cz := ic_cell hD6 i (by rw [HSl.out]; exact hi10)
                    have fz := frozen_of_row W5 D i _ _ hD6
                    have s1 := heap_setCell_same W5 D i _ _ (.int .i64 (x + y)) hD6
                    rw [ic_set, ← HSn.out] at s1
                    have HS1 := Lib.hid s1
                    have hbut2 := (hbut.trans (But.of_below hb5)).trans (But.setCell D W5 ⟨D, i, none⟩ (.int .i64 (x + y)) rfl)
                    clear s1 kx ky cx cy hb5 hD6 hbut HSn
                    go_wp2_with fail
                    go_roundw
                    case rel => exact ⟨i + 1, by omega, by go_num, HS1.out, hbut2⟩
                    case measure => simp [intOf]; omega
                  · have hdi : decide ((i : Int) < 10) = false := by simp; omega
                    obtain rfl : i = 10 := by omega
                    rw [show ((10 : Nat) : Int) = (10 : Int) from rfl]
                    have HSl := Lib.hid (show (sumL va dd 10).length = 10 from by rw [sumL_length, HVl.out])
                    have hsin : digitsIn 68719476736 (sumL va dd 10) := fun z hz => by
                      obtain ⟨h0, h1⟩ := sumL_in va dd HVd.out HDi.out HVl.out HDl.out 10 (by omega) z hz
                      exact ⟨h0, by omega⟩
                    have HSV := Lib.hid (sumL_V va dd HVl.out HDl.out 10 (by omega))
                    have HCd := Lib.hid (carry3_digits _ HSl.out hsin)
                    have HCl := Lib.hid (show (carry3 (sumL va dd 10)).length = 10 from by rw [carry3_length, HSl.out])
                    obtain ⟨q, hq⟩ := carry3_V (sumL va dd 10) HSl.out
                    have HCV := Lib.hid hq
                    clear hq
                    go_wp2_with fail
                    refine (carried_any D (sumL va dd 10) wr HD5.out HSl.out hsin).mono ?_
                    rintro e W6 ⟨rfl, hD6, hbut6⟩
                    have hbutA := hbut.trans hbut6
                    have hDr6 := (hbutA.block Dr (blk_lt HDr4.out) (Ne.symm hDD)).trans HDr4.out
                    have hB6 : Below B w W6 := hB4.trans (hbutA.below hBD hs4)
                    have hs6 := Nat.le_trans hs4 hbutA.size
                    have HD6 := Lib.hid hD6; have HDr6 := Lib.hid hDr6
                    clear hD6 hDr6 hbut6 hbut hbutA HD5 HDr4 HDe hB4 hs4 hsin
                    generalize carry3 (sumL va dd 10) = cs at *
                    go_wp2_with fail
                    refine (ptimes_any D Dr cs rd W6 HD6.out HDr6.out HCl.out HRl.out HCd.out HRd.out).mono ?_
                    rintro e W7 ⟨O, rfl, hOB, hO, hb7⟩
                    obtain ⟨md, ml, mv⟩ := mul_digits cs rd HCd.out HRd.out HCl.out HRl.out
                    have HMG := Lib.hid (show polyV (carry3 (mulL cs rd 10)) % polyP = polyG R data.data.toList (m + 1) from by
                      rw [mv, HGs.out, HCV.out, HSV.out, List.take_of_length_le (show dd.length ≤ 10 by rw [HDl.out]; exact Nat.le_refl _), HDV.out, HRv.out]
                      exact step_mod _ _ _ _ _ HVg.out)
                    have hDr7 := blk_below hb7 (blk_lt HDr6.out) HDr6.out
                    have hODr : O ≠ Dr := by have := blk_lt HDr6.out; omega
                    have hB7 : Below B w W7 := hB6.trans (hb7.mono hs6)
                    have hs7 := Nat.le_trans hs6 hb7.size
                    have hBO : B ≤ O := Nat.le_trans hs6 hOB
                    have HO := Lib.hid hO; have HDr7 := Lib.hid hDr7; have HMd := Lib.hid md; have HMl := Lib.hid ml
                    clear hO hDr7 hb7 hOB hB6 hs6 HD6 HDr6 md ml mv
                    generalize carry3 (mulL cs rd 10) = vn at *
                    go_wp2_with fail
                    go_roundw
                    case rel => exact ⟨m + 1, O, vn, _, by have := HRS.out; omega, rfl, rfl, HNx.out, HO.out, HMl.out, HMd.out, HMG.out, HDr7.out, hODr, hBO, hB7, hs7⟩
                    case measure => exact HNXS.out
              · have hb1 : (rem.size : Int) < 16 := by omega
                have hb1' : ¬ (16 : Int) ≤ (rem.size : Int) := by omega
                have HPc := Lib.hid (piece_whole rem _ HRem.out (by omega))
                have hps : (rem ++ (⟨#[1]⟩ : ByteArray)).size ≤ 17 := by
                  rw [Lib.size_eq, HPc.out, List.length_append, List.length_take, List.length_cons, List.length_nil]; omega
                have hp130 : leN (rem ++ (⟨#[1]⟩ : ByteArray)).data.toList < 2 ^ 130 := by
                  rw [HPc.out]; exact piece_lt _ (by rw [List.length_take]; omega)
                have HDg := Lib.hid (fun W => digits_any (rem ++ (⟨#[1]⟩ : ByteArray)) W hps hp130)
                rw [HPc.out] at HDg
                have HPn : Hid (leN ((data.data.toList.drop (16 * m)).take 16 ++ [1]) = pieceN data.data.toList m) := Lib.hid rfl
                rw [HPn.out] at HDg
                rw [HPc.out, HPn.out] at hp130
                have HDV := Lib.hid (digL_V _ hp130); have HDi := Lib.hid (digL_in (pieceN data.data.toList m)); have HDl := Lib.hid (digL_length (pieceN data.data.toList m))
                have HNx := Lib.hid (show ByteArray.empty.data.toList = data.data.toList.drop (16 * (m + 1)) from by
                  rw [List.drop_of_length_le (show data.data.toList.length ≤ 16 * (m + 1) by rw [← Lib.size_eq]; have := HRS.out; omega)]; rfl)
                have HNXS := Lib.hid (show ByteArray.empty.size < rem.size from hpos)
                have HGs : Hid (polyG R data.data.toList (m + 1) = (polyG R data.data.toList m + (pieceN data.data.toList m : Int)) * R % polyP) := Lib.hid rfl
                clear hps hp130 HPc HPn
                generalize digL (pieceN data.data.toList m) = dd at *
                generalize (pieceN data.data.toList m : Int) = pn at *
                go_wp2_with fail
                refine (HDg.out wr).mono ?_
                rintro e W4 ⟨De, rfl, hDeB, hDe, hb4⟩
                have hD4 := blk_below hb4 (blk_lt HD.out) HD.out
                have hDr4 := blk_below hb4 (blk_lt HDr.out) HDr.out
                have hDDe : D ≠ De := by have := blk_lt HD.out; omega
                have hB4 : Below B w W4 := hb.trans (hb4.mono hsz)
                have hs4 := Nat.le_trans hsz hb4.size
                have HD4 := Lib.hid hD4; have HDr4 := Lib.hid hDr4; have HDe := Lib.hid hDe
                clear HDg hb4 hb hsz HD HDr hD4 hDr4 hDe hDeB
                go_wp2_with fail
                go_loopw [13] (fun iv wr => ∃ i : Nat, i ≤ 10 ∧ iv = .int .i64 i ∧ wr.heap[D]? = some (.cells (ic (sumL va dd i)) 3) ∧ But D W4 wr) (fun iv _ => 10 - (intOf iv).toNat)
                case atStart => exact ⟨0, by omega, rfl, HD4.out, But.refl _ _⟩
                case round =>
                  clear HD4
                  obtain ⟨i, hi, rfl, hd5, hbut⟩ := hrel
                  have HD5 := Lib.hid hd5
                  clear hd5
                  by_cases hi10 : i < 10
                  · have hdi : decide ((i : Int) < 10) = true := by simp; omega
                    have HSn : Hid (sumL va dd (i + 1) = (sumL va dd i).set i ((sumL va dd i).getD i 0 + dd.getD i 0)) := Lib.hid rfl
                    have HSl := Lib.hid (show (sumL va dd i).length = 10 from by rw [sumL_length, HVl.out])
                    obtain ⟨x0, x1⟩ := getD_in (sumL_in va dd HVd.out HDi.out HVl.out HDl.out i (by omega)) i (by rw [HSl.out]; exact hi10)
                    obtain ⟨y0, y1⟩ := getD_in HDi.out i (by rw [HDl.out]; exact hi10)
                    have hDe5 := (hbut.block De (blk_lt HDe.out) (Ne.symm hDDe)).trans HDe.out
                    have cx := ic_cell HD5.out i (by rw [HSl.out]; exact hi10)
                    have cy := ic_cell hDe5 i (by rw [HDl.out]; exact hi10)
                    generalize (sumL va dd i).getD i 0 = x at *
                    generalize dd.getD i 0 = y at *
                    clear hDe5
                    go_wp2_with fail
                    have kx := cell_regrown cx; have ky := cell_regrown cy
                    refine wp_region_reads_tail 12 (by kernel_rfl) (by kernel_rfl) ?_
                    simp only [List.take_succ_cons, List.take_zero, List.drop_succ_cons, List.drop_zero]
                    repeat (first | go_big_quiet_step (fail) | quiet_step (fail))
                    refine wpQuiet_nil ?_
                    intro W5 hb5
                    have hD6 := blk_below hb5 (blk_lt HD5.out) HD5.out
                    have cz := ic_cell hD6 i (by rw [HSl.out]; exact hi10)
                    have fz := frozen_of_row W5 D i _ _ hD6
                    have s1 := heap_setCell_same W5 D i _ _ (.int .i64 (x + y)) hD6
                    rw [ic_set, ← HSn.out] at s1
                    have HS1 := Lib.hid s1
                    have hbut2 := (hbut.trans (But.of_below hb5)).trans (But.setCell D W5 ⟨D, i, none⟩ (.int .i64 (x + y)) rfl)
                    clear s1 kx ky cx cy hb5 hD6 hbut HSn
                    go_wp2_with fail
                    go_roundw
                    case rel => exact ⟨i + 1, by omega, by go_num, HS1.out, hbut2⟩
                    case measure => simp [intOf]; omega
                  · have hdi : decide ((i : Int) < 10) = false := by simp; omega
                    obtain rfl : i = 10 := by omega
                    rw [show ((10 : Nat) : Int) = (10 : Int) from rfl]
                    have HSl := Lib.hid (show (sumL va dd 10).length = 10 from by rw [sumL_length, HVl.out])
                    have hsin : digitsIn 68719476736 (sumL va dd 10) := fun z hz => by
                      obtain ⟨h0, h1⟩ := sumL_in va dd HVd.out HDi.out HVl.out HDl.out 10 (by omega) z hz
                      exact ⟨h0, by omega⟩
                    have HSV := Lib.hid (sumL_V va dd HVl.out HDl.out 10 (by omega))
                    have HCd := Lib.hid (carry3_digits _ HSl.out hsin)
                    have HCl := Lib.hid (show (carry3 (sumL va dd 10)).length = 10 from by rw [carry3_length, HSl.out])
                    obtain ⟨q, hq⟩ := carry3_V (sumL va dd 10) HSl.out
                    have HCV := Lib.hid hq
                    clear hq
                    go_wp2_with fail
                    refine (carried_any D (sumL va dd 10) wr HD5.out HSl.out hsin).mono ?_
                    rintro e W6 ⟨rfl, hD6, hbut6⟩
                    have hbutA := hbut.trans hbut6
                    have hDr6 := (hbutA.block Dr (blk_lt HDr4.out) (Ne.symm hDD)).trans HDr4.out
                    have hB6 : Below B w W6 := hB4.trans (hbutA.below hBD hs4)
                    have hs6 := Nat.le_trans hs4 hbutA.size
                    have HD6 := Lib.hid hD6; have HDr6 := Lib.hid hDr6
                    clear hD6 hDr6 hbut6 hbut hbutA HD5 HDr4 HDe hB4 hs4 hsin
                    generalize carry3 (sumL va dd 10) = cs at *
                    go_wp2_with fail
                    refine (ptimes_any D Dr cs rd W6 HD6.out HDr6.out HCl.out HRl.out HCd.out HRd.out).mono ?_
                    rintro e W7 ⟨O, rfl, hOB, hO, hb7⟩
                    obtain ⟨md, ml, mv⟩ := mul_digits cs rd HCd.out HRd.out HCl.out HRl.out
                    have HMG := Lib.hid (show polyV (carry3 (mulL cs rd 10)) % polyP = polyG R data.data.toList (m + 1) from by
                      rw [mv, HGs.out, HCV.out, HSV.out, List.take_of_length_le (show dd.length ≤ 10 by rw [HDl.out]; exact Nat.le_refl _), HDV.out, HRv.out]
                      exact step_mod _ _ _ _ _ HVg.out)
                    have hDr7 := blk_below hb7 (blk_lt HDr6.out) HDr6.out
                    have hODr : O ≠ Dr := by have := blk_lt HDr6.out; omega
                    have hB7 : Below B w W7 := hB6.trans (hb7.mono hs6)
                    have hs7 := Nat.le_trans hs6 hb7.size
                    have hBO : B ≤ O := Nat.le_trans hs6 hOB
                    have HO := Lib.hid hO; have HDr7 := Lib.hid hDr7; have HMd := Lib.hid md; have HMl := Lib.hid ml
                    clear hO hDr7 hb7 hOB hB6 hs6 HD6 HDr6 md ml mv
                    generalize carry3 (mulL cs rd 10) = vn at *
                    go_wp2_with fail
                    go_roundw
                    case rel => exact ⟨m + 1, O, vn, _, by have := HRS.out; omega, rfl, rfl, HNx.out, HO.out, HMl.out, HMd.out, HMG.out, HDr7.out, hODr, hBO, hB7, hs7⟩
                    case measure => exact HNXS.out
            · have hr0 : rem.size = 0 := by omega
              have hdp : decide ((0 : Int) < (rem.size : Int)) = false := decide_eq_false (by omega)
              have hmn : (data.size + 15) / 16 = m := by have := HRS.out; omega
              have hin : digitsIn 68719476736 va := fun z hz => by obtain ⟨h0, h1⟩ := HVd.out z hz; exact ⟨h0, by omega⟩
              have HCd := Lib.hid (carry3_digits va HVl.out hin)
              have HCl := Lib.hid (show (carry3 va).length = 10 from by rw [carry3_length, HVl.out])
              obtain ⟨q, hq⟩ := carry3_V va HVl.out
              have HCV := Lib.hid hq
              clear hq
              go_wp2_with fail
              refine (carried_any D va wr HD.out HVl.out hin).mono ?_
              rintro e W6 ⟨rfl, hD6, hbut6⟩
              have hB6 : Below B w W6 := hb.trans (hbut6.below hBD hsz)
              have hs6 := Nat.le_trans hsz hbut6.size
              have HD6 := Lib.hid hD6
              clear hD6 hbut6 hb hsz HD HDr hin
              generalize hcs : carry3 va = cs at *
              clear hcs
              go_wp2_with fail
              refine (rest_any D cs W6 HD6.out HCl.out HCd.out).mono ?_
              rintro e W7 ⟨D7, rfl, hD7, hb7⟩
              obtain ⟨hrv, hrd⟩ := restL_V cs HCl.out HCd.out
              have hrl := restL_length cs HCl.out
              have hT : polyV (restL cs) = polyG R data.data.toList m := by
                rw [hrv, HCV.out, Int.sub_emod, Int.mul_emod_right, Int.sub_zero, Int.emod_emod_of_dvd _ (Int.dvd_refl _)]; exact HVg.out
              have hdl := digL_of (restL cs) hrl hrd
              rw [hT] at hdl
              rw [hdl] at hD7
              obtain ⟨T, hTn⟩ : ∃ T, (polyG R data.data.toList m).toNat = T := ⟨_, rfl⟩
              rw [hTn] at hD7
              obtain ⟨S, hS⟩ : ∃ S, leN (key.data.toList.drop 16) = S := ⟨_, rfl⟩
              have HPT := Lib.hid (show polyTag key.data.toList data.data.toList = leOut (T + S) 16 from by
                rw [polyTag, HR.out, ← Lib.size_eq, hmn, hTn, hS])
              have HKb := Lib.hid (fun i (hi : i < 16) => key_byte key i HK.out hi)
              rw [hS] at HKb
              have hB7 : Below B w W7 := hB6.trans (hb7.mono hs6)
              have hs7 := Nat.le_trans hs6 hb7.size
              have HD7 := Lib.hid hD7
              have hk32 : (key.size : Int) = 32 := by have := HK.out; omega
              clear hD7 hb7 hB6 hs6 HD6 hrv hrd hrl hT hdl hTn hS
              generalize hE : W7.heap.size = E at *
              have HE := Lib.hid hE
              have hDE : D7 < E := by rw [← hE]; exact blk_lt HD7.out
              clear hE
              go_wp2_with fail
              go_loopw [14, 15, 16] (fun ov cv iv wr => ∃ (i : Nat) (ao : Option Addr) (cp : Nat), i ≤ 16 ∧ iv = .int .i64 i ∧ ov = .slice ao i cp ∧ cv = .int .i64 (carC T S i : Int) ∧ Own wr E (.slice ao i cp) (Lib.byteCells (leOut (T + S) i)) ∧ Below E W7 wr ∧ E ≤ wr.heap.size) (fun _ _ iv _ => 16 - (intOf iv).toNat)
              case atStart => exact ⟨0, none, 0, by omega, rfl, rfl, by simp [carC, Nat.mod_one], Own.nil _ _, Below.refl _ _, by rw [HE.out]; exact Nat.le_refl _⟩
              case round =>
                obtain ⟨i, ao, cp, hi, rfl, rfl, rfl, hown, hbE, hszE⟩ := hrel
                have HO := Lib.hid hown
                have HL := Lib.hid (show (Lib.byteCells (leOut (T + S) i)).length = i from by rw [Lib.byteCells_length, leOut_length])
                clear hown
                by_cases hi16 : i < 16
                · have hdi : decide ((i : Int) < 16) = true := by simp; omega
                  have hDw := blk_below hbE hDE HD7.out
                  have HDw := Lib.hid hDw
                  clear hDw
                  go_wp2_with fail
                  go_loopw [17, 18] (fun xv kv wr2 => ∃ k : Nat, k ≤ 8 ∧ kv = .int .i64 k ∧ xv = .int .i64 ((T / 256 ^ i % 2 ^ k : Nat) : Int) ∧ wr2 = wr) (fun _ kv _ => 8 - (intOf kv).toNat)
                  case atStart => exact ⟨0, by omega, rfl, by simp [Nat.mod_one], by first | rfl | trivial⟩
                  case round =>
                    obtain ⟨k, hk, rfl, rfl, rfl⟩ := hrel
                    by_cases hk8 : k < 8
                    · have hdk : decide ((k : Int) < 8) = true := by simp; omega
                      have hda := digit_and T i k hk8 hi16
                      obtain ⟨t, ht⟩ : ∃ t, (8 * i + k) / 13 = t := ⟨_, rfl⟩
                      obtain ⟨r, hr⟩ : ∃ r, (8 * i + k) % 13 = r := ⟨_, rfl⟩
                      have ht10 : t < 10 := by omega
                      have hr13 : r < 13 := by omega
                      have htz : (8 * (i : Int) + (k : Int)) / 13 = (t : Int) := by omega
                      have hrz : (8 * (i : Int) + (k : Int)) % 13 = (r : Int) := by omega
                      rw [ht, hr] at hda
                      have cd := ic_cell HDw.out t (by rw [digL_length]; exact ht10)
                      obtain ⟨d0, d1⟩ := getD_in (digL_in T) t (by rw [digL_length]; exact ht10)
                      have hxs := x_step (T / 256 ^ i) k
                      have hxl : T / 256 ^ i % 2 ^ k < 2 ^ k := Nat.mod_lt _ (Nat.pow_pos (by omega))
                      have hbl : T / 256 ^ i / 2 ^ k % 2 ≤ 1 := by omega
                      have hor := or_shift (T / 256 ^ i % 2 ^ k) (T / 256 ^ i / 2 ^ k % 2) k hxl hbl hk8
                      rw [← hxs] at hor
                      generalize (digL T).getD t 0 = d at *
                      generalize T / 256 ^ i / 2 ^ k % 2 = bt at *
                      generalize T / 256 ^ i % 2 ^ k = x at *
                      have h2k : (2 : Nat) ^ k ≤ 2 ^ 7 := Nat.pow_le_pow_right (by omega) (by omega)
                      have hsz : bt * 2 ^ k ≤ 128 := Nat.le_trans (Nat.mul_le_mul hbl h2k) (by omega)
                      have hsh : (bt : Int) * 2 ^ k = ((bt * 2 ^ k : Nat) : Int) := by simp
                      have hsw : IntKind.i64.wrap ((bt : Int) * 2 ^ k) = ((bt * 2 ^ k : Nat) : Int) := by rw [hsh]; exact IntWalk.i64_in _ (by omega)
                      generalize bt * 2 ^ k = sh at *
                      have HXs := Lib.hid hxs
                      have hn0 : (0 : Int) ≤ 8 * (i : Int) + (k : Int) := by omega
                      have hn1 : 8 * (i : Int) + (k : Int) < 128 := by omega
                      clear hxs ht hr hsh
                      go_wp2_with fail
                      go_roundw
                      case rel => exact ⟨k + 1, by omega, by go_num, by simp, by first | rfl | trivial⟩
                      case measure => simp [intOf]; omega
                    · have hdk : decide ((k : Int) < 8) = false := by simp; omega
                      obtain rfl : k = 8 := by omega
                      rw [show ((8 : Nat) : Int) = (8 : Int) from rfl]
                      obtain ⟨c1, c2⟩ := carC_step T S i
                      have hkb := HKb.out i hi16
                      have hcl := carC_le T S i
                      have hxl : T / 256 ^ i % 2 ^ 8 = T / 256 ^ i % 256 := rfl
                      rw [hkb] at c1 c2
                      have i1 := index_key key (16 + (i : Int)) (16 + i) (by omega) (by have := HK.out; omega)
                      have hkz := UInt8.toNat_lt (key[16 + i]'(by have := HK.out; omega))
                      have hx8 : T / 256 ^ i % 256 < 256 := Nat.mod_lt _ (by omega)
                      rw [hxl]
                      have HOn : Hid (leOut (T + S) (i + 1) = leOut (T + S) i ++ [UInt8.ofNat ((T + S) / 256 ^ i % 256)]) := Lib.hid rfl
                      have HBy := Lib.hid (show Lib.byteCells [UInt8.ofNat ((T + S) / 256 ^ i % 256)] = [.int .u8 (((T + S) / 256 ^ i % 256 : Nat) : Int)] from by
                        have : (UInt8.ofNat ((T + S) / 256 ^ i % 256)).toNat = (T + S) / 256 ^ i % 256 := by simp
                        simp [Lib.byteCells, this])
                      generalize (T + S) / 256 ^ i % 256 = ob at *
                      generalize T / 256 ^ i % 256 = x at *
                      generalize carC T S i = cc at *
                      generalize hcn : carC T S (i + 1) = cn at *
                      have HCn := Lib.hid hcn
                      generalize (key[16 + i]'(by have := HK.out; omega)).toNat = kz at *
                      have hob : ((cc : Int) + (x : Int) + (kz : Int)) % 256 = (ob : Int) := by omega
                      have hcz : ((cc : Int) + (x : Int) + (kz : Int)) / 256 = (cn : Int) := by omega
                      have hob8 : ob < 256 := by omega
                      clear c1 c2 hkb hxl hcn
                      go_wp2_with (at_builtin; refine wpList_append_sl rfl (.tmp 125) (.tmp 129) 46 rfl E 5 i8 (.int .u8 0) 1 Tryz.underlying46 hi8 hy0 hy1 hy2 rfl ao i cp _ rfl (HO.out.alloc _) HL.out ⟨_, 0, none⟩ 1 1 [.int .u8 (ob : Int)] rfl rfl (cell_one_new _ _ _) ?zb2 ?zb3 ?zb4 ?zb5 ?_)
                      case zb2 => intro u hu; simp at hu; subst hu; rfl
                      case zb3 => omega
                      case zb4 => omega
                      case zb5 => simp; omega
                      intro ao9 cp9 W9 hown9 hgrow9
                      have hb9 : Below E W7 W9 := below_append (hbE.alloc hszE _) (by simp; omega) (HO.out.alloc _) hgrow9
                      have hs9 : E ≤ W9.heap.size := by have := hgrow9.size; simp at this; omega
                      have hown8 : Own W9 E (.slice ao9 (i + 1) cp9) (Lib.byteCells (leOut (T + S) (i + 1))) := by
                        rw [HOn.out, Lib.byteCells_append, HBy.out]; exact hown9
                      clear hown9 hgrow9 HO hbE hszE i1
                      go_wp2_with fail
                      go_roundw
                      case rel => exact ⟨i + 1, ao9, cp9, by omega, by go_num, rfl, by rw [HCn.out, ← hcz], hown8, hb9, hs9⟩
                      case measure => simp [intOf]; omega
                · have hdi : decide ((i : Int) < 16) = false := by simp; omega
                  obtain rfl : i = 16 := by omega
                  obtain ⟨Ob, cpO, hvv, hoO, _⟩ := HO.out.some (by rw [HL.out]; omega)
                  rw [HL.out] at hvv
                  cases hvv
                  have hcv := run_string_row wr Ob cp (leOut (T + S) 16) (fun j x hx => hoO.cells j _ (by simp [Lib.byteCells, hx]))
                  rw [leOut_length] at hcv
                  have hBw : Below B w wr := hB7.trans (hbE.mono hs7)
                  clear hoO HO HL
                  go_wp2_with fail
                  go_ret2
                  exact ⟨by rw [HPT.out]; rfl, by rw [HBB.out]; exact hBw⟩
theorem refTagKey_any (key data : ByteArray) (w : World) (hk : key.size ≠ 32) :
    Calls Tryz.prog 52 #[.string key, .string data] w fun e w' => e = .returned (.tuple #[.string ⟨#[]⟩, .int .i64 21]) ∧ Below w.heap.size w w' := by
  have hd1 : ((key.size : Int) != 32) = true := by simp; omega
  go_enter Tryz.func52, Tryz.ntmps52
  go_wp2_with fail
  go_ret2
  exact ⟨rfl, Below.refl _ _⟩
/-- The chapter's example. -/
theorem poly_example : ((polyTag [0x85, 0xd6, 0xbe, 0x78, 0x57, 0x55, 0x6d, 0x33, 0x7f, 0x44, 0x52, 0xfe, 0x42, 0xd5, 0x06, 0xa8, 0x01, 0x03, 0x80, 0x8a, 0xfb, 0x0d, 0xb2, 0xfd, 0x4a, 0xbf, 0xf6, 0xaf, 0x41, 0x49, 0xf5, 0x1b] [67, 114, 121, 112, 116, 111, 103, 114, 97, 112, 104, 105, 99, 32, 70, 111, 114, 117, 109, 32, 82, 101, 115, 101, 97, 114, 99, 104, 32, 71, 114, 111, 117, 112]).take 4 == [0xa8, 0x06, 0x1d, 0xc1]) = true := by decide +kernel
end
end Go.Proofs.YtffnafikegakcaaGreatDoor
