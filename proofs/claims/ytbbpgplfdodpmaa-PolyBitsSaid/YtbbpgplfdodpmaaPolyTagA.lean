/- What a tag is, over plain numbers: the arithmetic. -/
import Derived.Test.YtbbpgplfdodpmaaPolyRest
namespace Go.Proofs.Ytbbpgplfdodpmaa
open Go.RowKit Go.Sort
set_option maxRecDepth 100000
set_option linter.unusedSimpArgs false
set_option linter.unusedVariables false

/-- A byte and a mask. -/
def andB (m : Int) (x : UInt8) : UInt8 := UInt8.ofNat (bits .and .u8 (x.toNat : Int) m).toNat
theorem andB_toNat (m : Int) (x : UInt8) : ((andB m x).toNat : Int) = bits .and .u8 (x.toNat : Int) m := by
  obtain ⟨h0, h1⟩ := bits8_range .and (x.toNat : Int) m
  simp only [andB, UInt8.toNat_ofNat']
  omega
/-- The first half of a key, without the bits that do not count. -/
def cl1 (l : List UInt8) : Nat → List UInt8
  | 0 => l
  | m + 1 => (cl1 l m).set (3 + 4 * m) (andB 15 ((cl1 l m).getD (3 + 4 * m) 0))
def cl2 (l : List UInt8) : Nat → List UInt8
  | 0 => l
  | m + 1 => (cl2 l m).set (4 + 4 * m) (andB 252 ((cl2 l m).getD (4 + 4 * m) 0))
def clampL (l : List UInt8) : List UInt8 := cl2 (cl1 l 4) 3
theorem cl1_length (l : List UInt8) (m : Nat) : (cl1 l m).length = l.length := by induction m with | zero => rfl | succ m ih => simp [cl1, ih]
theorem cl2_length (l : List UInt8) (m : Nat) : (cl2 l m).length = l.length := by induction m with | zero => rfl | succ m ih => simp [cl2, ih]
theorem clampL_length (l : List UInt8) : (clampL l).length = l.length := by rw [clampL, cl2_length, cl1_length]
/-- The number behind m pieces. -/
def pieceN (l : List UInt8) (m : Nat) : Nat := leN ((l.drop (16 * m)).take 16 ++ [1])
def polyG (r : Int) (l : List UInt8) : Nat → Int
  | 0 => 0
  | m + 1 => (polyG r l m + (pieceN l m : Int)) * r % polyP
theorem leN_append (a b : List UInt8) : leN (a ++ b) = leN a + 256 ^ a.length * leN b := by
  induction a with
  | nil => simp [leN]
  | cons x r ih => simp only [List.cons_append, leN, ih, List.length_cons, Nat.pow_succ]; rw [Nat.mul_add, ← Nat.mul_assoc, Nat.mul_comm 256 (256 ^ r.length)]; omega
theorem piece_lt (l : List UInt8) (h : l.length ≤ 16) : leN (l ++ [1]) < 2 ^ 130 := by
  have h1 := leN_lt l
  have h2 : 256 ^ l.length ≤ 256 ^ 16 := Nat.pow_le_pow_right (by omega) h
  rw [leN_append]
  have e : leN [1] = 1 := rfl
  rw [e, Nat.mul_one]
  have : (256 : Nat) ^ 16 = 2 ^ 128 := by decide
  omega
/-- So many bytes of a number, the least first. -/
def leOut (n : Nat) : Nat → List UInt8
  | 0 => []
  | i + 1 => leOut n i ++ [UInt8.ofNat (n / 256 ^ i % 256)]
theorem leOut_length (n i : Nat) : (leOut n i).length = i := by induction i with | zero => rfl | succ i ih => simp [leOut, ih]
/-- The tag. -/
def polyR (key : List UInt8) : Int := (leN (clampL (key.take 16)) : Int)
def polyTag (key data : List UInt8) : List UInt8 := leOut ((polyG (polyR key) data ((data.length + 15) / 16)).toNat + leN (key.drop 16)) 16
theorem polyP_pos : 0 < polyP := by decide
theorem polyG_range (r : Int) (l : List UInt8) (m : Nat) : 0 ≤ polyG r l m ∧ polyG r l m < polyP := by
  cases m with
  | zero => exact ⟨Int.le_refl _, polyP_pos⟩
  | succ m => exact ⟨Int.emod_nonneg _ (by decide), Int.emod_lt_of_pos _ polyP_pos⟩
/-- Sums of digits. -/
def sumL (a d : List Int) : Nat → List Int
  | 0 => a
  | i + 1 => (sumL a d i).set i ((sumL a d i).getD i 0 + d.getD i 0)
theorem sumL_length (a d : List Int) (i : Nat) : (sumL a d i).length = a.length := by induction i with | zero => rfl | succ i ih => simp [sumL, ih]
theorem sumL_get (a d : List Int) (i j : Nat) (h : i ≤ j) : (sumL a d i).getD j 0 = a.getD j 0 := by
  induction i with
  | zero => rfl
  | succ i ih =>
    rw [sumL, ← ih (by omega)]
    simp [List.getD_eq_getElem?_getD, List.getElem?_set, show ¬ i = j by omega]
theorem sumL_V (a d : List Int) (ha : a.length = 10) (hd : d.length = 10) : ∀ i, i ≤ 10 → polyV (sumL a d i) = polyV a + polyV (d.take i) := by
  intro i
  induction i with
  | zero => intro _; simp [sumL, polyV]
  | succ i ih =>
    intro hi
    rw [sumL, polyV_set _ _ _ (by rw [sumL_length]; omega), ih (by omega), take_V d i (by omega)]
    have : (sumL a d i).getD i 0 + d.getD i 0 - (sumL a d i).getD i 0 = d.getD i 0 := by omega
    rw [this]; omega
theorem sumL_in (a d : List Int) (ha : digitsIn 8191 a) (hd : digitsIn 8191 d) (hal : a.length = 10) (hdl : d.length = 10) : ∀ i, i ≤ 10 → digitsIn 16382 (sumL a d i) := by
  intro i
  induction i with
  | zero => intro _ x hx; obtain ⟨h0, h1⟩ := ha x hx; exact ⟨h0, by omega⟩
  | succ i ih =>
    intro hi
    obtain ⟨a0, a1⟩ := getD_in ha i (by omega)
    obtain ⟨d0, d1⟩ := getD_in hd i (by omega)
    rw [sumL, sumL_get a d i i (Nat.le_refl _)]
    exact digitsIn_set (ih (by omega)) (by omega) _ _ (by omega) (by omega)
/-- Digits are those of their number. -/
theorem digL_of (v : List Int) (hl : v.length = 10) (hv : digitsIn 8191 v) : v = digL (polyV v).toNat := by
  have key : ∀ (k s : Nat) (u : List Int), u.length = k → digitsIn 8191 u → ∀ n : Nat, (n / 8192 ^ s : Nat) = (polyV u).toNat → u = (List.range' s k).map fun i => ((n / 8192 ^ i % 8192 : Nat) : Int) := by
    intro k
    induction k with
    | zero => intro s u hu _ n _; rw [List.length_eq_zero_iff.1 hu]; rfl
    | succ k ih =>
      intro s u hu hd n hn
      cases u with
      | nil => simp at hu
      | cons x r =>
        have hr : digitsIn 8191 r := fun z hz => hd z (by simp [hz])
        obtain ⟨x0, x1⟩ := hd x (by simp)
        obtain ⟨v0, _⟩ := polyV_bound r hr
        simp only [polyV] at hn
        rw [List.range'_succ, List.map_cons]
        have e1 : x = ((n / 8192 ^ s % 8192 : Nat) : Int) := by rw [hn]; omega
        have e2 : n / 8192 ^ (s + 1) = (polyV r).toNat := by
          rw [Nat.pow_succ, ← Nat.div_div_eq_div_mul, hn]; omega
        rw [← e1, ← ih (s + 1) r (by simpa using hu) hr n e2]
  have := key 10 0 v hl hv (polyV v).toNat (by simp)
  rw [← List.range_eq_range'] at this
  exact this
/-- A bit of a digit is a bit of the number. -/
theorem digit_bit (n j : Nat) (h : j < 130) : n / 8192 ^ (j / 13) % 8192 / 2 ^ (j % 13) % 2 = n / 2 ^ j % 2 := by
  have e2 : (2 : Nat) ^ j = 8192 ^ (j / 13) * 2 ^ (j % 13) := by
    rw [show (8192 : Nat) = 2 ^ 13 from rfl, ← Nat.pow_mul, ← Nat.pow_add]; congr 1; omega
  rw [e2, ← Nat.div_div_eq_div_mul]
  generalize n / 8192 ^ (j / 13) = m
  have hr : j % 13 < 13 := Nat.mod_lt _ (by omega)
  generalize j % 13 = r at *
  rcases (by omega : r = 0 ∨ r = 1 ∨ r = 2 ∨ r = 3 ∨ r = 4 ∨ r = 5 ∨ r = 6 ∨ r = 7 ∨ r = 8 ∨ r = 9 ∨ r = 10 ∨ r = 11 ∨ r = 12) with rfl | rfl | rfl | rfl | rfl | rfl | rfl | rfl | rfl | rfl | rfl | rfl | rfl <;> simp <;> omega
/-- The sum of two numbers, byte by byte. -/
theorem add_byte (t s p : Nat) (hp : 0 < p) : (t % p + s % p) / p + t / p % 256 + s / p % 256 = (t % (p * 256) + s % (p * 256)) / p := by
  have h1 : t % (p * 256) = t % p + p * (t / p % 256) := Nat.mod_mul
  have h2 : s % (p * 256) = s % p + p * (s / p % 256) := Nat.mod_mul
  rw [h1, h2, show t % p + p * (t / p % 256) + (s % p + p * (s / p % 256)) = (t % p + s % p) + p * (t / p % 256 + s / p % 256) by rw [Nat.mul_add]; omega, Nat.add_mul_div_left _ _ hp]
  omega
theorem add_low (t s p : Nat) (hp : 0 < p) : (t % (p * 256) + s % (p * 256)) / p % 256 = (t + s) / p % 256 := by
  rw [← Nat.mod_mul_right_div_self, ← Nat.mod_mul_right_div_self, ← Nat.add_mod]
end Go.Proofs.Ytbbpgplfdodpmaa
