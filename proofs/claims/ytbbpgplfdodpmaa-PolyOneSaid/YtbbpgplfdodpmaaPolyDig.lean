/- Numbers in digits: of bytes, and the least of a number modulo p: the arithmetic. -/
import Derived.Test.YtbbpgplfdodpmaaPolyTimes
namespace Go.Proofs.Ytbbpgplfdodpmaa
open Go.RowKit Go.Sort
set_option maxRecDepth 100000
set_option linter.unusedSimpArgs false
set_option linter.unusedVariables false

/-- The number that bytes are, the least first. -/
def leN : List UInt8 → Nat
  | [] => 0
  | b :: r => b.toNat + 256 * leN r
theorem leN_lt (l : List UInt8) : leN l < 256 ^ l.length := by
  induction l with
  | nil => simp [leN]
  | cons b r ih => have := UInt8.toNat_lt b; simp only [leN, List.length_cons, Nat.pow_succ]; omega
theorem leN_byte (l : List UInt8) (i : Nat) (h : i < l.length) : leN l / 256 ^ i % 256 = (l[i]).toNat := by
  induction l generalizing i with
  | nil => simp at h
  | cons b r ih =>
    have hb := UInt8.toNat_lt b
    cases i with
    | zero => first | (simp [leN]; done) | (simp [leN]; omega)
    | succ i =>
      have := ih i (by simpa using h)
      rw [leN, Nat.pow_succ, Nat.mul_comm (256 ^ i) 256, ← Nat.div_div_eq_div_mul, show (b.toNat + 256 * leN r) / 256 = leN r by omega, this]
      rfl
theorem leN_bit (l : List UInt8) (i k : Nat) (h : i < l.length) (hk : k < 8) : leN l / 2 ^ (8 * i + k) % 2 = (l[i]).toNat / 2 ^ k % 2 := by
  rw [← leN_byte l i h, Nat.pow_add, Nat.pow_mul, show (2 : Nat) ^ 8 = 256 from rfl, ← Nat.div_div_eq_div_mul]
  generalize leN l / 256 ^ i = m
  rcases (by omega : k = 0 ∨ k = 1 ∨ k = 2 ∨ k = 3 ∨ k = 4 ∨ k = 5 ∨ k = 6 ∨ k = 7) with rfl | rfl | rfl | rfl | rfl | rfl | rfl | rfl <;> simp <;> omega
/-- The digits of a number. -/
def digL (n : Nat) : List Int := (List.range 10).map fun i => ((n / 8192 ^ i % 8192 : Nat) : Int)
theorem digL_length (n : Nat) : (digL n).length = 10 := by simp [digL]
theorem digL_in (n : Nat) : digitsIn 8191 (digL n) := by
  intro x hx
  simp only [digL, List.mem_map] at hx
  obtain ⟨i, _, rfl⟩ := hx
  omega
theorem digL_get (n j : Nat) (h : j < 10) : (digL n).getD j 0 = ((n / 8192 ^ j % 8192 : Nat) : Int) := by simp [digL, h]
theorem digits_V (n : Nat) : ∀ k s, polyV ((List.range' s k).map fun i => ((n / 8192 ^ i % 8192 : Nat) : Int)) = ((n / 8192 ^ s % 8192 ^ k : Nat) : Int) := by
  intro k
  induction k with
  | zero => intro s; simp [polyV, Nat.mod_one]
  | succ k ih =>
    intro s
    rw [List.range'_succ, List.map_cons, polyV, ih (s + 1)]
    have e : n / 8192 ^ s % 8192 ^ (k + 1) = n / 8192 ^ s % 8192 + 8192 * (n / 8192 ^ (s + 1) % 8192 ^ k) := by
      rw [Nat.pow_succ 8192 s, ← Nat.div_div_eq_div_mul, Nat.pow_succ, Nat.mul_comm (8192 ^ k) 8192, Nat.mod_mul]
    rw [e]; omega
theorem digL_V (n : Nat) (h : n < 2 ^ 130) : polyV (digL n) = (n : Int) := by
  have := digits_V n 10 0
  rw [← List.range_eq_range'] at this
  rw [digL, this, Nat.pow_zero, Nat.div_one, Nat.mod_eq_of_lt (by rw [show (8192 : Nat) ^ 10 = 2 ^ 130 by decide]; exact h)]
theorem digL_zero : digL 0 = List.replicate 10 0 := by decide
/-- One more bit. -/
theorem digL_add (m n : Nat) (hm : m < 2 ^ n) (hn : n < 130) : digL (m + 2 ^ n) = (digL m).set (n / 13) ((digL m).getD (n / 13) 0 + 2 ^ (n % 13)) ∧ (digL m).getD (n / 13) 0 < 2 ^ (n % 13) := by
  have hq : n / 13 < 10 := by omega
  have e2 : (2 : Nat) ^ n = 2 ^ (n % 13) * 8192 ^ (n / 13) := by
    rw [show (8192 : Nat) = 2 ^ 13 from rfl, ← Nat.pow_mul, ← Nat.pow_add]; congr 1; omega
  have hr : n % 13 < 13 := Nat.mod_lt _ (by omega)
  have h2r : (2 : Nat) ^ (n % 13) * 2 ≤ 8192 := by
    rw [← Nat.pow_succ, show (8192 : Nat) = 2 ^ 13 from rfl]; exact Nat.pow_le_pow_right (by omega) (by omega)
  have hd : m / 8192 ^ (n / 13) < 2 ^ (n % 13) := by
    rw [Nat.div_lt_iff_lt_mul (Nat.pow_pos (by omega)), ← e2]; exact hm
  have hdm : m / 8192 ^ (n / 13) % 8192 = m / 8192 ^ (n / 13) := Nat.mod_eq_of_lt (by omega)
  refine ⟨?_, by rw [digL_get _ _ hq, hdm]; exact_mod_cast hd⟩
  apply List.ext_getElem?
  intro j
  by_cases hj : j < 10
  · rw [List.getElem?_set]
    have g1 : ∀ x, (digL x)[j]? = some ((x / 8192 ^ j % 8192 : Nat) : Int) := fun x => by simp [digL, hj]
    by_cases hjq : n / 13 = j
    · subst hjq
      rw [if_pos rfl, if_pos (by rw [digL_length]; exact hj), g1, digL_get _ _ hq, hdm, e2, Nat.add_mul_div_right _ _ (Nat.pow_pos (by omega)), Nat.mod_eq_of_lt (by omega)]
      simp
    · rw [if_neg hjq, g1, g1]
      congr 2
      rcases Nat.lt_or_ge j (n / 13) with hlt | hge
      · obtain ⟨d, hd'⟩ : ∃ d, n / 13 = j + 1 + d := ⟨n / 13 - (j + 1), by omega⟩
        rw [e2, hd', Nat.pow_add, Nat.pow_succ, ← Nat.mul_assoc, Nat.mul_comm (2 ^ (n % 13)) (8192 ^ j * 8192), Nat.mul_assoc, Nat.mul_assoc, Nat.add_mul_div_left _ _ (Nat.pow_pos (by omega)), Nat.add_mul_mod_self_left]
      · have hup : 2 ^ n * 2 ≤ 8192 ^ j := by
          have : (8192 : Nat) ^ (n / 13 + 1) ≤ 8192 ^ j := Nat.pow_le_pow_right (by omega) (by omega)
          have h3 : 2 ^ n * 2 ≤ 8192 ^ (n / 13 + 1) := by
            rw [e2, Nat.pow_succ]
            calc 2 ^ (n % 13) * 8192 ^ (n / 13) * 2 = 8192 ^ (n / 13) * (2 ^ (n % 13) * 2) := by rw [Nat.mul_comm (2 ^ (n % 13)), Nat.mul_assoc]
              _ ≤ 8192 ^ (n / 13) * 8192 := Nat.mul_le_mul_left _ h2r
          omega
        rw [Nat.div_eq_of_lt (by omega), Nat.div_eq_of_lt (by omega)]
  · rw [List.getElem?_eq_none (by rw [digL_length]; omega), List.getElem?_eq_none (by rw [List.length_set, digL_length]; omega)]
theorem mod_succ_bit (x n : Nat) : x % 2 ^ (n + 1) = x % 2 ^ n + 2 ^ n * (x / 2 ^ n % 2) := by
  rw [Nat.pow_succ, Nat.mod_mul]
/-- All digits the greatest. -/
theorem allmax (r : List Int) (h : digitsIn 8191 r) (hv : 8192 ^ r.length - 1 ≤ polyV r) : ∀ x ∈ r, x = 8191 := by
  induction r with
  | nil => intro x hx; simp at hx
  | cons y t ih =>
    have ht : digitsIn 8191 t := fun z hz => h z (by simp [hz])
    obtain ⟨y0, y1⟩ := h y (by simp)
    obtain ⟨v0, v1⟩ := polyV_bound t ht
    simp only [polyV, List.length_cons, Int.pow_succ] at hv
    intro x hx
    simp only [List.mem_cons] at hx
    rcases hx with rfl | hx
    · omega
    · exact ih ht (by omega) x hx
theorem max_V (r : List Int) (h : ∀ x ∈ r, x = 8191) : polyV r = 8192 ^ r.length - 1 := by
  induction r with
  | nil => simp [polyV]
  | cons y t ih =>
    have hy := h y (by simp)
    have := ih (fun z hz => h z (by simp [hz]))
    simp only [polyV, List.length_cons, Int.pow_succ, this, hy]
    omega
/-- Whether digits are p or more. -/
def greatB (v : List Int) : Nat → Bool
  | 0 => decide (8187 ≤ v.getD 0 0)
  | j + 1 => greatB v j && (v.getD (j + 1) 0 == 8191)
theorem greatB_iff (v : List Int) (j : Nat) : greatB v j = true ↔ 8187 ≤ v.getD 0 0 ∧ ∀ i, 1 ≤ i → i ≤ j → v.getD i 0 = 8191 := by
  induction j with
  | zero => simp [greatB]; intro _ i h1 h2; omega
  | succ j ih =>
    rw [greatB, Bool.and_eq_true, ih, beq_iff_eq]
    constructor
    · rintro ⟨⟨h0, h1⟩, h2⟩
      refine ⟨h0, fun i hi1 hi2 => ?_⟩
      by_cases hij : i = j + 1
      · rw [hij]; exact h2
      · exact h1 i hi1 (by omega)
    · rintro ⟨h0, h1⟩
      exact ⟨⟨h0, fun i a b => h1 i a (by omega)⟩, h1 (j + 1) (by omega) (by omega)⟩
/-- The least digits of a number modulo p. -/
def restL (v : List Int) : List Int := if greatB v 9 = true then (List.replicate 10 0).set 0 (v.getD 0 0 - 8187) else v
theorem restL_length (v : List Int) (h : v.length = 10) : (restL v).length = 10 := by unfold restL; split <;> simp [h]
theorem restL_V (v : List Int) (hl : v.length = 10) (hv : digitsIn 8191 v) : polyV (restL v) = polyV v % polyP ∧ digitsIn 8191 (restL v) := by
  obtain ⟨x, r, rfl⟩ : ∃ x r, v = x :: r := by cases v with | nil => simp at hl | cons x r => exact ⟨x, r, rfl⟩
  have hrl : r.length = 9 := by simpa using hl
  have hr : digitsIn 8191 r := fun z hz => hv z (by simp [hz])
  obtain ⟨x0, x1⟩ := hv x (by simp)
  obtain ⟨v0, v1⟩ := polyV_bound r hr
  have hP : polyP = 1361129467683753853853498429727072845819 := rfl
  have h9 : (8192 : Int) ^ 9 = 166153499473114484112975882535043072 := by decide
  rw [hrl, h9] at v1
  have hmem : (∀ i, 1 ≤ i → i ≤ 9 → (x :: r).getD i 0 = 8191) ↔ ∀ z ∈ r, z = 8191 := by
    constructor
    · intro h z hz
      obtain ⟨j, hj, rfl⟩ := List.getElem_of_mem hz
      have := h (j + 1) (by omega) (by omega)
      simpa [hj] using this
    · intro h i h1 h2
      obtain ⟨j, rfl⟩ : ∃ j, i = j + 1 := ⟨i - 1, by omega⟩
      have hj : j < r.length := by omega
      simp only [List.getD_cons_succ]
      rw [show r.getD j 0 = r[j] by simp [hj]]
      exact h _ (List.getElem_mem hj)
  unfold restL
  by_cases hg : greatB (x :: r) 9 = true
  · rw [if_pos hg]
    rw [greatB_iff, hmem] at hg
    obtain ⟨g0, g1⟩ := hg
    have hm := max_V r g1
    rw [hrl, h9] at hm
    simp only [List.getD_cons_zero] at g0 ⊢
    constructor
    · rw [polyV_set _ _ _ (by simp), polyV_zeros]
      simp only [polyV, hm, Int.pow_zero]
      have e : (List.replicate 10 (0 : Int)).getD 0 0 = 0 := rfl
      rw [e, hP]
      omega
    · exact digitsIn_set (m := 0) (fun z hz => by have := List.eq_of_mem_replicate hz; omega) (by omega) _ _ (by omega) (by omega)
  · rw [if_neg hg]
    refine ⟨?_, hv⟩
    rw [greatB_iff, hmem] at hg
    simp only [List.getD_cons_zero] at hg
    have hlt : polyV (x :: r) < polyP := by
      rcases Int.lt_or_le (polyV (x :: r)) polyP with h | h
      · exact h
      · exfalso
        rw [hP] at h
        simp only [polyV] at h
        have hmx : 8192 ^ r.length - 1 ≤ polyV r := by rw [hrl, h9]; omega
        exact hg ⟨by omega, allmax r hr hmx⟩
    have h0 : 0 ≤ polyV (x :: r) := (polyV_bound _ hv).1
    exact (Int.emod_eq_of_lt h0 hlt).symm
end Go.Proofs.Ytbbpgplfdodpmaa
