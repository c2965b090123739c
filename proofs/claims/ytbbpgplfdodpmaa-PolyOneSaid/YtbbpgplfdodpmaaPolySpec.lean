/- Numbers as ten digits of 13 bits, modulo 2 to the 130 less 5. -/
import Derived.Test.YtbbpgplfdodpmaaOwn
namespace Go.Proofs.Ytbbpgplfdodpmaa
open Go.RowKit Go.Sort
set_option maxRecDepth 100000
set_option linter.unusedSimpArgs false
set_option linter.unusedVariables false

/-- The number that digits are. -/
def polyV : List Int → Int
  | [] => 0
  | x :: r => x + 8192 * polyV r
def polyP : Int := 1361129467683753853853498429727072845819
theorem polyP_eq : (8192 : Int) ^ 10 = polyP + 5 := by decide
theorem polyV_append (a b : List Int) : polyV (a ++ b) = polyV a + 8192 ^ a.length * polyV b := by
  induction a with
  | nil => simp [polyV]
  | cons x r ih => simp only [List.cons_append, polyV, ih, List.length_cons, Int.pow_succ]; rw [Int.mul_add, ← Int.mul_assoc, Int.mul_comm 8192 (8192 ^ r.length)]; omega
theorem polyV_set (v : List Int) (j : Nat) (x : Int) (h : j < v.length) : polyV (v.set j x) = polyV v + (x - v.getD j 0) * 8192 ^ j := by
  induction v generalizing j with
  | nil => simp at h
  | cons y r ih =>
    cases j with
    | zero => simp [polyV]; omega
    | succ j =>
      have h' : j < r.length := by simpa using h
      simp only [List.set_cons_succ, polyV, ih j h', List.getD_cons_succ, Int.pow_succ]
      rw [Int.mul_add, Int.mul_comm 8192 ((x - r.getD j 0) * 8192 ^ j), Int.mul_assoc]; omega
theorem polyV_zeros (n : Nat) : polyV (List.replicate n 0) = 0 := by
  induction n with
  | zero => rfl
  | succ n ih => simp [List.replicate_succ, polyV, ih]
/-- Digits within a bound. -/
def digitsIn (m : Int) (v : List Int) : Prop := ∀ x ∈ v, 0 ≤ x ∧ x ≤ m
theorem polyV_bound (v : List Int) (h : digitsIn 8191 v) : 0 ≤ polyV v ∧ polyV v < 8192 ^ v.length := by
  induction v with
  | nil => simp [polyV]
  | cons x r ih =>
    obtain ⟨h1, h2⟩ := ih (fun y hy => h y (by simp [hy]))
    obtain ⟨h3, h4⟩ := h x (by simp)
    simp only [polyV, List.length_cons, Int.pow_succ]
    omega
/-- The carry goes through the digits. -/
def carryGo : List Int → Int → List Int × Int
  | [], c => ([], c)
  | x :: r, c => ((x + c) % 8192 :: (carryGo r ((x + c) / 8192)).1, (carryGo r ((x + c) / 8192)).2)
theorem carryGo_length (v : List Int) (c : Int) : (carryGo v c).1.length = v.length := by
  induction v generalizing c with
  | nil => rfl
  | cons x r ih => simp [carryGo, ih]
theorem carryGo_V (v : List Int) (c : Int) : polyV (carryGo v c).1 + 8192 ^ v.length * (carryGo v c).2 = polyV v + c := by
  induction v generalizing c with
  | nil => simp [carryGo, polyV]
  | cons x r ih =>
    have h := ih ((x + c) / 8192)
    simp only [carryGo, polyV, List.length_cons, Int.pow_succ]
    have e : (8192 : Int) ^ r.length * 8192 * (carryGo r ((x + c) / 8192)).2 = 8192 * (8192 ^ r.length * (carryGo r ((x + c) / 8192)).2) := by rw [Int.mul_comm (8192 ^ r.length) 8192, Int.mul_assoc]
    rw [e]
    omega
theorem carryGo_digits (v : List Int) (c : Int) : digitsIn 8191 (carryGo v c).1 := by
  induction v generalizing c with
  | nil => intro x hx; simp [carryGo] at hx
  | cons x r ih =>
    intro y hy
    simp only [carryGo, List.mem_cons] at hy
    rcases hy with rfl | hy
    · omega
    · exact ih _ y hy
theorem carryGo_snoc (l : List Int) (x c : Int) : carryGo (l ++ [x]) c = ((carryGo l c).1 ++ [(x + (carryGo l c).2) % 8192], (x + (carryGo l c).2) / 8192) := by
  induction l generalizing c with
  | nil => simp [carryGo]
  | cons y r ih => simp [carryGo, ih]
theorem carryGo_bound (v : List Int) (m C c : Int) (hm : m + C < 8192 * (C + 1)) (hv : digitsIn m v) (h0 : 0 ≤ c) (h1 : c ≤ C) : 0 ≤ (carryGo v c).2 ∧ (carryGo v c).2 ≤ C := by
  induction v generalizing c with
  | nil => exact ⟨h0, h1⟩
  | cons x r ih =>
    obtain ⟨h3, h4⟩ := hv x (by simp)
    simp only [carryGo]
    exact ih ((x + c) / 8192) (fun y hy => hv y (by simp [hy])) (by omega) (by omega)
/-- One round: the carry that is left counts five times. -/
def carry1 (v : List Int) : List Int := (carryGo v 0).1.set 0 ((carryGo v 0).1.getD 0 0 + 5 * (carryGo v 0).2)
theorem carry1_length (v : List Int) : (carry1 v).length = v.length := by simp [carry1, carryGo_length]
theorem carry1_V (v : List Int) (h : v.length = 10) : polyV (carry1 v) = polyV v - polyP * (carryGo v 0).2 := by
  have h1 := carryGo_V v 0
  have hl := carryGo_length v 0
  rw [carry1, polyV_set _ 0 _ (by omega)]
  rw [h, polyP_eq] at h1
  simp only [Int.pow_zero, Int.mul_one]
  rw [Int.add_mul] at h1
  omega
def carry3 (v : List Int) : List Int := carry1 (carry1 (carry1 v))
theorem carry3_length (v : List Int) : (carry3 v).length = v.length := by simp [carry3, carry1_length]
theorem carry3_V (v : List Int) (h : v.length = 10) : ∃ q, polyV (carry3 v) = polyV v - polyP * q := by
  refine ⟨(carryGo v 0).2 + (carryGo (carry1 v) 0).2 + (carryGo (carry1 (carry1 v)) 0).2, ?_⟩
  rw [carry3, carry1_V _ (by simp [carry1_length, h]), carry1_V _ (by simp [carry1_length, h]), carry1_V _ h, Int.mul_add, Int.mul_add]
  omega
theorem digitsIn_set {m M : Int} {v : List Int} (hv : digitsIn m v) (hM : m ≤ M) (j : Nat) (x : Int) (h0 : 0 ≤ x) (h1 : x ≤ M) : digitsIn M (v.set j x) := by
  intro y hy
  rcases List.mem_or_eq_of_mem_set hy with h | rfl
  · obtain ⟨a, b⟩ := hv y h; exact ⟨a, by omega⟩
  · exact ⟨h0, h1⟩
/-- A list of digits whose first one may be greater. -/
theorem carry_first (x m : Int) (r : List Int) (hx0 : 0 ≤ x) (hx : x ≤ m) (hr : digitsIn 8191 r) (C : Int) (hm : m / 8192 ≤ C) (hr0 : r ≠ []) (hC : (8191 + C) / 8192 ≤ 1) : 0 ≤ (carryGo (x :: r) 0).2 ∧ (carryGo (x :: r) 0).2 ≤ 1 := by
  cases r with
  | nil => exact absurd rfl hr0
  | cons y t =>
    obtain ⟨h3, h4⟩ := hr y (by simp)
    simp only [carryGo, Int.add_zero]
    exact carryGo_bound t 8191 1 _ (by omega) (fun z hz => hr z (by simp [hz])) (by omega) (by omega)
theorem carry1_first (x : Int) (r : List Int) : carry1 (x :: r) = (x % 8192 + 5 * (carryGo (x :: r) 0).2) :: (carryGo r (x / 8192)).1 := by simp [carry1, carryGo]
/-- Three rounds make digits of it. -/
theorem carry3_digits (v : List Int) (h : v.length = 10) (hv : digitsIn 68719476736 v) : digitsIn 8191 (carry3 v) := by
  obtain ⟨x, r, rfl⟩ : ∃ x r, v = x :: r := by cases v with | nil => simp at h | cons x r => exact ⟨x, r, rfl⟩
  have hrl : r.length = 9 := by simpa using h
  have b1 := carryGo_bound (x :: r) 68719476736 8400000 0 (by omega) hv (by omega) (by omega)
  have e1 := carry1_first x r
  have d1 := carryGo_digits r (x / 8192)
  have l1 := carryGo_length r (x / 8192)
  generalize (carryGo (x :: r) 0).2 = c1 at *
  generalize (carryGo r (x / 8192)).1 = r1 at *
  have hx0 : 0 ≤ x % 8192 + 5 * c1 := by omega
  have hx1 : x % 8192 + 5 * c1 ≤ 42008191 := by omega
  generalize x % 8192 + 5 * c1 = x1 at *
  have hr1 : r1 ≠ [] := by intro e; rw [e] at l1; simp at l1; omega
  have b2 := carry_first x1 42008191 r1 hx0 hx1 d1 5128 (by omega) hr1 (by omega)
  have e2 := carry1_first x1 r1
  have d2 := carryGo_digits r1 (x1 / 8192)
  have l2 := carryGo_length r1 (x1 / 8192)
  generalize (carryGo (x1 :: r1) 0).2 = c2 at *
  generalize (carryGo r1 (x1 / 8192)).1 = r2 at *
  have hy0 : 0 ≤ x1 % 8192 + 5 * c2 := by omega
  have hy1 : x1 % 8192 + 5 * c2 ≤ 8196 := by omega
  generalize x1 % 8192 + 5 * c2 = x2 at *
  have hr2 : r2 ≠ [] := by intro e; rw [e] at l2; simp at l2; omega
  have b3 := carry_first x2 8196 r2 hy0 hy1 d2 1 (by omega) hr2 (by omega)
  have e3 := carry1_first x2 r2
  have d3 := carryGo_digits r2 (x2 / 8192)
  have z3 : x2 / 8192 = 0 → (carryGo (x2 :: r2) 0).2 = 0 := fun hz => by
    have := carryGo_bound r2 8191 0 0 (by omega) d2 (by omega) (by omega)
    simp only [carryGo, Int.add_zero, hz]
    omega
  rw [carry3, e1, e2, e3]
  intro y hy
  simp only [List.mem_cons] at hy
  rcases hy with rfl | hy
  · by_cases hz : x2 / 8192 = 0
    · have := z3 hz; omega
    · omega
  · exact d3 y hy
end Go.Proofs.Ytbbpgplfdodpmaa
