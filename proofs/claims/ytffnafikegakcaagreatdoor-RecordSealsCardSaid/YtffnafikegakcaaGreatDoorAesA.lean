/- Eight bytes in one word: what a step on the word does to each of them. Arithmetic alone; The block cipher, byte by byte, as the document tells it; the reference's product and its table. Arithmetic alone; The reference's table, byte by byte: reckoned; Doubling adds: reckoned; Unlike blocks have unlike blocks under one key. Arithmetic alone. -/
import Derived.Test.YtffnafikegakcaaGreatDoorBase
import Derived.Laws.BitsAllLaws
namespace Go.Proofs.YtffnafikegakcaaGreatDoor
section
open Go.RowKit
set_option maxRecDepth 100000
set_option linter.unusedSimpArgs false
set_option linter.unusedVariables false

def lowm : Nat := 72340172838076673
/-- The byte of a word at a place. -/
def lane (i w : Nat) : Nat := (w >>> (8 * i)) % 2 ^ 8
theorem lane_bit (i w j : Nat) : (lane i w).testBit j = (decide (j < 8) && w.testBit (8 * i + j)) := by simp only [lane, Nat.testBit_mod_two_pow, Nat.testBit_shiftRight]
theorem lane_lt (i w : Nat) : lane i w < 256 := Nat.mod_lt _ (by decide)
theorem lane_ext {a b : Nat} (ha : a < 2 ^ 64) (hb : b < 2 ^ 64) (h : ∀ i, i < 8 → lane i a = lane i b) : a = b := by
  apply Nat.eq_of_testBit_eq
  intro n
  by_cases hn : n < 64
  · have := congrArg (fun z => z.testBit (n % 8)) (h (n / 8) (by omega))
    simp only [lane_bit] at this
    rw [show 8 * (n / 8) + n % 8 = n by omega] at this
    simpa [show n % 8 < 8 by omega] using this
  · rw [Nat.testBit_lt_two_pow (Nat.lt_of_lt_of_le ha (Nat.pow_le_pow_right (by decide) (by omega))), Nat.testBit_lt_two_pow (Nat.lt_of_lt_of_le hb (Nat.pow_le_pow_right (by decide) (by omega)))]
theorem lane_xor (i a b : Nat) : lane i (a ^^^ b) = lane i a ^^^ lane i b := by
  apply Nat.eq_of_testBit_eq
  intro j
  simp only [lane_bit, Nat.testBit_xor]
  cases decide (j < 8) <;> simp
theorem lane_or (i a b : Nat) : lane i (a ||| b) = lane i a ||| lane i b := by
  apply Nat.eq_of_testBit_eq
  intro j
  simp only [lane_bit, Nat.testBit_or]
  cases decide (j < 8) <;> simp
theorem lane_and (i a b : Nat) : lane i (a &&& b) = lane i a &&& lane i b := by
  apply Nat.eq_of_testBit_eq
  intro j
  simp only [lane_bit, Nat.testBit_and]
  cases decide (j < 8) <;> simp
theorem low_bit : ∀ i, i < 8 → ∀ j, j < 8 → lowm.testBit (8 * i + j) = decide (j = 0) := by decide +kernel
theorem one_bit (j : Nat) : Nat.testBit 1 j = decide (j = 0) := by
  cases j with
  | zero => rfl
  | succ j => simp [Nat.testBit_succ]
/-- One bit of each byte. -/
theorem lane_low (w k i : Nat) (hk : k < 8) (hi : i < 8) : lane i ((w >>> k) &&& lowm) = (lane i w >>> k) &&& 1 := by
  apply Nat.eq_of_testBit_eq
  intro j
  simp only [lane_bit, Nat.testBit_and, Nat.testBit_shiftRight, one_bit]
  by_cases hj : j < 8
  · rw [low_bit i hi j hj]
    by_cases h0 : j = 0
    · subst h0
      simp [hk, show k + 8 * i = 8 * i + k by omega]
    · simp [h0]
  · simp [hj, show ¬ j = 0 by omega]

/-- Bytes as one number, the first one lowest. -/
def pk : List Nat → Nat
  | [] => 0
  | b :: r => b + 256 * pk r
theorem lane_zero (w : Nat) : lane 0 w = w % 256 := by simp [lane]
theorem lane_succ (i w : Nat) : lane (i + 1) w = lane i (w / 256) := by
  simp only [lane]
  rw [show 8 * (i + 1) = 8 + 8 * i by omega, Nat.shiftRight_add, Nat.shiftRight_eq_div_pow w 8]
theorem pk_lane : ∀ (l : List Nat) (i : Nat), (∀ x ∈ l, x < 256) → lane i (pk l) = l.getD i 0
  | [], i, _ => by simp [pk, lane]
  | b :: r, 0, h => by
    have := h b (by simp)
    rw [lane_zero, pk, List.getD_cons_zero]; omega
  | b :: r, i + 1, h => by
    have hb := h b (by simp)
    rw [lane_succ, pk, show (b + 256 * pk r) / 256 = pk r by omega, pk_lane r i (fun x hx => h x (by simp [hx])), List.getD_cons_succ]
theorem pk_lt : ∀ (l : List Nat), (∀ x ∈ l, x < 256) → pk l < 256 ^ l.length
  | [], _ => by simp [pk]
  | b :: r, h => by
    have hb := h b (by simp)
    have := pk_lt r (fun x hx => h x (by simp [hx]))
    rw [pk, List.length_cons, Nat.pow_succ]; omega
theorem pk_mul (c : Nat) : ∀ l : List Nat, pk l * c = pk (l.map (· * c))
  | [] => by simp [pk]
  | b :: r => by rw [pk, List.map_cons, pk, ← pk_mul c r, Nat.add_mul, Nat.mul_assoc]
theorem pk_lanes (w : Nat) (hw : w < 2 ^ 64) : w = pk ((List.range 8).map fun i => lane i w) := by
  refine lane_ext hw ?_ fun i hi => ?_
  · have := pk_lt ((List.range 8).map fun i => lane i w) (by intro x hx; simp only [List.mem_map] at hx; obtain ⟨i, _, rfl⟩ := hx; exact lane_lt _ _)
    simpa using this
  · rw [pk_lane _ _ (by intro x hx; simp only [List.mem_map] at hx; obtain ⟨i, _, rfl⟩ := hx; exact lane_lt _ _)]
    simp [List.getD_eq_getElem?_getD, hi]
theorem low_lt (x : Nat) : x &&& lowm < 2 ^ 64 := Nat.and_lt_two_pow _ (by decide)
theorem and_one_le (x : Nat) : x &&& 1 ≤ 1 := Nat.and_le_right
/-- One bit of each byte, times a byte. -/
theorem low_mul (x c : Nat) : (x &&& lowm) * c = pk ((List.range 8).map fun i => (lane i x &&& 1) * c) := by
  conv => lhs; rw [pk_lanes _ (low_lt x), pk_mul, List.map_map]
  congr 1
  apply List.map_congr_left
  intro i hi
  have := lane_low x 0 i (by omega) (List.mem_range.1 hi)
  simp only [Nat.shiftRight_zero] at this
  simp only [Function.comp, this]
theorem low_mul_in (x c : Nat) (hc : c < 256) : ∀ y ∈ (List.range 8).map (fun i => (lane i x &&& 1) * c), y < 256 := by
  intro y hy
  simp only [List.mem_map] at hy
  obtain ⟨i, _, rfl⟩ := hy
  have := and_one_le (lane i x)
  have : (lane i x &&& 1) * c ≤ 1 * c := Nat.mul_le_mul_right _ this
  omega
theorem lane_low_mul (x c i : Nat) (hc : c < 256) (hi : i < 8) : lane i ((x &&& lowm) * c) = (lane i x &&& 1) * c := by
  rw [low_mul, pk_lane _ _ (low_mul_in x c hc)]
  simp [List.getD_eq_getElem?_getD, hi]
theorem low_mul_lt (x c : Nat) (hc : c < 256) : (x &&& lowm) * c < 18446744073709551616 := by
  rw [low_mul]
  have := pk_lt _ (low_mul_in x c hc)
  simpa using this
theorem lane_bit_mul (w k c i : Nat) (hk : k < 8) (hc : c < 256) (hi : i < 8) : lane i (((w >>> k) &&& lowm) * c) = ((lane i w >>> k) &&& 1) * c := by
  have h := lane_low w k i hk hi
  have h2 := lane_low (w >>> k) 0 i (by omega) hi
  rw [Nat.shiftRight_zero, Nat.shiftRight_zero] at h2
  rw [lane_low_mul _ c i hc hi, ← h2, h]

/-- The product of each byte and x. -/
def dblW (a : Nat) : Nat := (a &&& 9187201950435737471) * 2 % 18446744073709551616 ^^^ ((a >>> 7) &&& lowm) * 27
def dbl1 (a : Nat) : Nat := (a &&& 127) * 2 ^^^ ((a >>> 7) &&& 1) * 27
theorem seven_bit : ∀ i, i < 8 → ∀ j, j < 8 → Nat.testBit 9187201950435737471 (8 * i + j) = decide (j < 7) := by decide +kernel
theorem b127 (j : Nat) (hj : j < 8) : Nat.testBit 127 j = decide (j < 7) := by
  have : ∀ j, j < 8 → Nat.testBit 127 j = decide (j < 7) := by decide
  exact this j hj
theorem lane_twice (a i : Nat) (hi : i < 8) : lane i ((a &&& 9187201950435737471) * 2 % 18446744073709551616) = (lane i a &&& 127) * 2 := by
  apply Nat.eq_of_testBit_eq
  intro j
  have e1 : (a &&& 9187201950435737471) * 2 % 18446744073709551616 = ((a &&& 9187201950435737471) <<< 1) % 2 ^ 64 := by rw [Nat.shiftLeft_eq]
  have e2 : (lane i a &&& 127) * 2 = (lane i a &&& 127) <<< 1 := by rw [Nat.shiftLeft_eq]
  rw [e1, e2]
  simp only [lane_bit, Nat.testBit_mod_two_pow, Nat.testBit_shiftLeft, Nat.testBit_and]
  by_cases hj : j < 8
  · by_cases h0 : j = 0
    · subst h0
      by_cases hi0 : i = 0
      · subst hi0; simp
      · have := seven_bit (i - 1) (by omega) 7 (by omega)
        rw [show 8 * (i - 1) + 7 = 8 * i - 1 by omega] at this
        simp [this]
    · have h1 := seven_bit i hi (j - 1) (by omega)
      rw [show 8 * i + (j - 1) = 8 * i + j - 1 by omega] at h1
      rw [h1, b127 (j - 1) (by omega)]
      simp [hj, show 8 * i + j < 64 by omega, show 1 ≤ j by omega, show 1 ≤ 8 * i + j by omega, show j - 1 < 7 by omega, show 8 * i + (j - 1) = 8 * i + j - 1 by omega]
      omega
  · simp [hj]
    intro _ hh
    by_cases h9 : j = 8
    · subst h9; intro _; decide
    · omega
theorem lane_dbl (a i : Nat) (hi : i < 8) : lane i (dblW a) = dbl1 (lane i a) := by
  rw [dblW, lane_xor, lane_twice a i hi, lane_bit_mul a 7 27 i (by omega) (by omega) hi, dbl1]
theorem xor_lt64 {a b : Nat} (ha : a < 18446744073709551616) (hb : b < 18446744073709551616) : a ^^^ b < 18446744073709551616 := Nat.xor_lt_two_pow (n := 64) ha hb
theorem or_lt64 {a b : Nat} (ha : a < 18446744073709551616) (hb : b < 18446744073709551616) : a ||| b < 18446744073709551616 := Nat.or_lt_two_pow (n := 64) ha hb
theorem and_lt64 {a b : Nat} (hb : b < 18446744073709551616) : a &&& b < 18446744073709551616 := Nat.and_lt_two_pow (n := 64) _ hb
theorem and_lt64' {a b : Nat} (ha : a < 18446744073709551616) : a &&& b < 18446744073709551616 := by rw [Nat.and_comm]; exact and_lt64 ha
theorem dblW_lt (a : Nat) : dblW a < 18446744073709551616 := xor_lt64 (Nat.mod_lt _ (by decide)) (low_mul_lt _ _ (by decide))

/-- The product of each byte of a and that of b, so many bits of b taken; a doubled as often. -/
def mulS (a b : Nat) : Nat → Nat × Nat
  | 0 => (0, a)
  | k + 1 => ((mulS a b k).1 ^^^ ((mulS a b k).2 &&& ((b >>> k) &&& lowm) * 255), dblW (mulS a b k).2)
def mulS1 (a b : Nat) : Nat → Nat × Nat
  | 0 => (0, a)
  | k + 1 => ((mulS1 a b k).1 ^^^ ((mulS1 a b k).2 &&& ((b >>> k) &&& 1) * 255), dbl1 (mulS1 a b k).2)
theorem lane_mulS (a b i : Nat) (hi : i < 8) : ∀ k, k ≤ 8 → lane i (mulS a b k).1 = (mulS1 (lane i a) (lane i b) k).1 ∧ lane i (mulS a b k).2 = (mulS1 (lane i a) (lane i b) k).2
  | 0, _ => by simp [mulS, mulS1, lane]
  | k + 1, h => by
    obtain ⟨h1, h2⟩ := lane_mulS a b i hi k (by omega)
    simp only [mulS, mulS1, lane_xor, lane_and, lane_bit_mul b k 255 i (by omega) (by omega) hi, lane_dbl _ i hi, h1, h2, and_self]
theorem mulS_lt (a b : Nat) (ha : a < 18446744073709551616) : ∀ k, (mulS a b k).1 < 18446744073709551616 ∧ (mulS a b k).2 < 18446744073709551616
  | 0 => ⟨by simp [mulS], ha⟩
  | k + 1 => ⟨xor_lt64 (mulS_lt a b ha k).1 (and_lt64' (mulS_lt a b ha k).2), dblW_lt _⟩
def mulW (a b : Nat) : Nat := (mulS a b 8).1
def mul1 (a b : Nat) : Nat := (mulS1 a b 8).1
theorem lane_mul (a b i : Nat) (hi : i < 8) : lane i (mulW a b) = mul1 (lane i a) (lane i b) := (lane_mulS a b i hi 8 (Nat.le_refl _)).1
theorem mulW_lt (a b : Nat) (ha : a < 18446744073709551616) : mulW a b < 18446744073709551616 := (mulS_lt a b ha 8).1

/-- The squares of the powers of x. -/
def sqT : List Nat := [1, 4, 16, 64, 27, 108, 171, 154]
theorem sqT_lt (k : Nat) : sqT.getD k 0 < 256 := by
  by_cases h : k < 8
  · have : ∀ k, k < 8 → sqT.getD k 0 < 256 := by decide
    exact this k h
  · rw [List.getD_eq_getElem?_getD, List.getElem?_eq_none (by simp [sqT]; omega)]; simp
def sqS (a : Nat) : Nat → Nat
  | 0 => 0
  | k + 1 => sqS a k ^^^ ((a >>> k) &&& lowm) * sqT.getD k 0
def sqS1 (a : Nat) : Nat → Nat
  | 0 => 0
  | k + 1 => sqS1 a k ^^^ ((a >>> k) &&& 1) * sqT.getD k 0
theorem lane_sqS (a i : Nat) (hi : i < 8) : ∀ k, k ≤ 8 → lane i (sqS a k) = sqS1 (lane i a) k
  | 0, _ => by simp [sqS, sqS1, lane]
  | k + 1, h => by
    simp only [sqS, sqS1, lane_xor, lane_bit_mul a k _ i (by omega) (sqT_lt k) hi, lane_sqS a i hi k (by omega)]
theorem sqS_lt (a : Nat) : ∀ k, sqS a k < 18446744073709551616
  | 0 => by simp [sqS]
  | k + 1 => xor_lt64 (sqS_lt a k) (low_mul_lt _ _ (sqT_lt k))
def sqN (a : Nat) : Nat → Nat
  | 0 => a
  | n + 1 => sqS (sqN a n) 8
def sqN1 (a : Nat) : Nat → Nat
  | 0 => a
  | n + 1 => sqS1 (sqN1 a n) 8
theorem lane_sqN (a i : Nat) (hi : i < 8) : ∀ n, lane i (sqN a n) = sqN1 (lane i a) n
  | 0 => rfl
  | n + 1 => by rw [sqN, sqN1, lane_sqS _ i hi 8 (Nat.le_refl _), lane_sqN a i hi n]
theorem sqN_lt (a : Nat) (ha : a < 18446744073709551616) : ∀ n, sqN a n < 18446744073709551616
  | 0 => ha
  | n + 1 => sqS_lt _ _

/-- Each byte turned left. -/
def rotW (a n s t : Nat) : Nat := ((a &&& s) * 2 ^ n % 18446744073709551616) ||| ((a >>> (8 - n)) &&& t)
def rot1 (a n : Nat) : Nat := ((a * 2 ^ n) % 256) ||| (a >>> (8 - n))
theorem rotW_lt (a n s t : Nat) (ht : t < 18446744073709551616) : rotW a n s t < 18446744073709551616 := or_lt64 (Nat.mod_lt _ (by decide)) (and_lt64 ht)
theorem lane_rot (a n s t i : Nat) (hn : 0 < n) (hn8 : n < 8) (hs : ∀ i, i < 8 → ∀ j, j < 8 → s.testBit (8 * i + j) = decide (j < 8 - n)) (ht : ∀ i, i < 8 → ∀ j, j < 8 → t.testBit (8 * i + j) = decide (j < n)) (hi : i < 8) : lane i (rotW a n s t) = rot1 (lane i a) n := by
  apply Nat.eq_of_testBit_eq
  intro j
  have e1 : (a &&& s) * 2 ^ n % 18446744073709551616 = ((a &&& s) <<< n) % 2 ^ 64 := by rw [Nat.shiftLeft_eq]
  have e2 : lane i a * 2 ^ n % 256 = (lane i a <<< n) % 2 ^ 8 := by rw [Nat.shiftLeft_eq]
  rw [rotW, rot1, e1, e2, lane_or, Nat.testBit_or, Nat.testBit_or]
  simp only [lane_bit, Nat.testBit_mod_two_pow, Nat.testBit_shiftLeft, Nat.testBit_shiftRight, Nat.testBit_and]
  by_cases hj : j < 8
  · rw [ht i hi j hj]
    by_cases hjn : j < n
    · have h1 : (decide (8 * i + j ≥ n) && (a.testBit (8 * i + j - n) && s.testBit (8 * i + j - n))) = false := by
        by_cases hi0 : i = 0
        · subst hi0; simp; omega
        · have := hs (i - 1) (by omega) (8 + j - n) (by omega)
          rw [show 8 * (i - 1) + (8 + j - n) = 8 * i + j - n by omega] at this
          rw [this]; simp; omega
      rw [h1]
      have h2 : ¬ n ≤ j := by omega
      simp [hj, hjn, h2, show 8 - n + j < 8 by omega, show 8 - n + (8 * i + j) = 8 * i + (8 - n + j) by omega]
    · have h1 := hs i hi (j - n) (by omega)
      rw [show 8 * i + (j - n) = 8 * i + j - n by omega] at h1
      rw [h1]
      simp [hj, hjn, show n ≤ j by omega, show n ≤ 8 * i + j by omega, show 8 * i + j < 64 by omega, show j - n < 8 - n by omega, show j - n < 8 by omega, show 8 * i + (j - n) = 8 * i + j - n by omega]
      omega
  · simp [hj]
    omega
def stay (n : Nat) : Nat := lowm * (255 >>> n)
def gone (n : Nat) : Nat := 18446744073709551615 - stay n * 2 ^ n % 18446744073709551616
def rotN (a n : Nat) : Nat := rotW a n (stay n) (gone n)
theorem gone_lt (n : Nat) : gone n < 18446744073709551616 := by unfold gone; omega
theorem stay_bits : ∀ n, n < 5 → 0 < n → ∀ i, i < 8 → ∀ j, j < 8 → (stay n).testBit (8 * i + j) = decide (j < 8 - n) := by decide +kernel
theorem gone_bits : ∀ n, n < 5 → 0 < n → ∀ i, i < 8 → ∀ j, j < 8 → (gone n).testBit (8 * i + j) = decide (j < n) := by decide +kernel
theorem stay_lt : ∀ n, n < 5 → 0 < n → stay n < 18446744073709551616 := by decide +kernel
theorem lane_rotN (a n i : Nat) (hn : 0 < n) (hn5 : n < 5) (hi : i < 8) : lane i (rotN a n) = rot1 (lane i a) n :=
  lane_rot a n _ _ i hn (by omega) (stay_bits n hn5 hn) (gone_bits n hn5 hn) hi
theorem rotN_lt (a n : Nat) : rotN a n < 18446744073709551616 := rotW_lt _ _ _ _ (gone_lt n)

/-- The inverse of each byte, and Swap of it. -/
def invW (a : Nat) : Nat :=
  let two := sqN a 1
  let three := mulW two a
  let twelve := sqN three 2
  let fifteen := mulW twelve three
  mulW (mulW (sqN fifteen 4) twelve) two
def inv1 (a : Nat) : Nat :=
  let two := sqN1 a 1
  let three := mul1 two a
  let twelve := sqN1 three 2
  let fifteen := mul1 twelve three
  mul1 (mul1 (sqN1 fifteen 4) twelve) two
theorem lane_inv (a i : Nat) (hi : i < 8) : lane i (invW a) = inv1 (lane i a) := by simp only [invW, inv1, lane_mul _ _ i hi, lane_sqN _ i hi]
theorem invW_lt (a : Nat) (ha : a < 18446744073709551616) : invW a < 18446744073709551616 := by
  unfold invW
  exact mulW_lt _ _ (mulW_lt _ _ (sqN_lt _ (mulW_lt _ _ (sqN_lt _ (mulW_lt _ _ (sqN_lt _ ha _)) _)) _))
def swW (a : Nat) : Nat := invW a ^^^ rotN (invW a) 1 ^^^ rotN (invW a) 2 ^^^ rotN (invW a) 3 ^^^ rotN (invW a) 4 ^^^ 7161677110969590627
def sw1 (a : Nat) : Nat := inv1 a ^^^ rot1 (inv1 a) 1 ^^^ rot1 (inv1 a) 2 ^^^ rot1 (inv1 a) 3 ^^^ rot1 (inv1 a) 4 ^^^ 99
theorem lane99 : ∀ i, i < 8 → lane i 7161677110969590627 = 99 := by decide +kernel
theorem lane_sw (a i : Nat) (hi : i < 8) : lane i (swW a) = sw1 (lane i a) := by
  simp only [swW, sw1, lane_xor, lane_rotN _ 1 i (by omega) (by omega) hi, lane_rotN _ 2 i (by omega) (by omega) hi, lane_rotN _ 3 i (by omega) (by omega) hi, lane_rotN _ 4 i (by omega) (by omega) hi, lane_inv a i hi, lane99 i hi]
theorem swW_lt (a : Nat) (ha : a < 18446744073709551616) : swW a < 18446744073709551616 := by
  unfold swW
  exact xor_lt64 (xor_lt64 (xor_lt64 (xor_lt64 (xor_lt64 (invW_lt a ha) (rotN_lt _ _)) (rotN_lt _ _)) (rotN_lt _ _)) (rotN_lt _ _)) (by decide)

/-- The table of bytes. -/
def sbL : List Nat := [99, 124, 119, 123, 242, 107, 111, 197, 48, 1, 103, 43, 254, 215, 171, 118, 202, 130, 201, 125, 250, 89, 71, 240, 173, 212, 162, 175, 156, 164, 114, 192, 183, 253, 147, 38, 54, 63, 247, 204, 52, 165, 229, 241, 113, 216, 49, 21, 4, 199, 35, 195, 24, 150, 5, 154, 7, 18, 128, 226, 235, 39, 178, 117, 9, 131, 44, 26, 27, 110, 90, 160, 82, 59, 214, 179, 41, 227, 47, 132, 83, 209, 0, 237, 32, 252, 177, 91, 106, 203, 190, 57, 74, 76, 88, 207, 208, 239, 170, 251, 67, 77, 51, 133, 69, 249, 2, 127, 80, 60, 159, 168, 81, 163, 64, 143, 146, 157, 56, 245, 188, 182, 218, 33, 16, 255, 243, 210, 205, 12, 19, 236, 95, 151, 68, 23, 196, 167, 126, 61, 100, 93, 25, 115, 96, 129, 79, 220, 34, 42, 144, 136, 70, 238, 184, 20, 222, 94, 11, 219, 224, 50, 58, 10, 73, 6, 36, 92, 194, 211, 172, 98, 145, 149, 228, 121, 231, 200, 55, 109, 141, 213, 78, 169, 108, 86, 244, 234, 101, 122, 174, 8, 186, 120, 37, 46, 28, 166, 180, 198, 232, 221, 116, 31, 75, 189, 139, 138, 112, 62, 181, 102, 72, 3, 246, 14, 97, 53, 87, 185, 134, 193, 29, 158, 225, 248, 152, 17, 105, 217, 142, 148, 155, 30, 135, 233, 206, 85, 40, 223, 140, 161, 137, 13, 191, 230, 66, 104, 65, 153, 45, 15, 176, 84, 187, 22]
def sbT (n : Nat) : Nat := sbL.getD n 0
theorem sw1_all : (List.range 256).all (fun a => sw1 a == sbT a) = true := by decide +kernel
theorem sw1_sbT (a : Nat) (h : a < 256) : sw1 a = sbT a := by simpa using List.all_eq_true.1 sw1_all a (List.mem_range.2 h)
theorem lane_swT (a i : Nat) (hi : i < 8) : lane i (swW a) = sbT (lane i a) := by rw [lane_sw a i hi, sw1_sbT _ (lane_lt _ _)]
end

section
open Go.RowKit
set_option maxRecDepth 100000
set_option linter.unusedSimpArgs false
set_option linter.unusedVariables false

/-- The reference's product: so many bits of b taken; a doubled as often. -/
def dbR (a : Nat) : Nat := if 255 < a * 2 then a * 2 ^^^ 283 else a * 2
def tmS (a b : Nat) : Nat → Nat × Nat
  | 0 => (0, a)
  | k + 1 => (if (b / 2 ^ k) % 2 = 1 then (tmS a b k).1 ^^^ (tmS a b k).2 else (tmS a b k).1, dbR (tmS a b k).2)
def tm (a b : Nat) : Nat := (tmS a b 8).1
theorem dbR_all : (List.range 256).all (fun a => decide (dbR a < 256) && (dbl1 a == dbR a)) = true := by decide +kernel
theorem dbR_lt (a : Nat) (h : a < 256) : dbR a < 256 := by have := List.all_eq_true.1 dbR_all a (List.mem_range.2 h); simp at this; exact this.1
theorem dbl1_dbR (a : Nat) (h : a < 256) : dbl1 a = dbR a := by have := List.all_eq_true.1 dbR_all a (List.mem_range.2 h); simp at this; exact this.2
theorem dbl1_lt (a : Nat) (h : a < 256) : dbl1 a < 256 := by rw [dbl1_dbR a h]; exact dbR_lt a h
theorem xor_lt8 {a b : Nat} (ha : a < 256) (hb : b < 256) : a ^^^ b < 256 := Nat.xor_lt_two_pow (n := 8) ha hb
theorem tmS_lt (a b : Nat) (ha : a < 256) : ∀ k, (tmS a b k).1 < 256 ∧ (tmS a b k).2 < 256
  | 0 => ⟨by simp [tmS], ha⟩
  | k + 1 => by
    obtain ⟨h1, h2⟩ := tmS_lt a b ha k
    refine ⟨?_, dbR_lt _ h2⟩
    simp only [tmS]
    split
    · exact xor_lt8 h1 h2
    · exact h1
theorem tm_lt (a b : Nat) (ha : a < 256) : tm a b < 256 := (tmS_lt a b ha 8).1
theorem tm2_all : (List.range 256).all (fun a => (tm a 2 == dbl1 a) && (tm a 3 == (dbl1 a ^^^ a))) = true := by decide +kernel
theorem tm2 (a : Nat) (h : a < 256) : tm a 2 = dbl1 a := by have := List.all_eq_true.1 tm2_all a (List.mem_range.2 h); simp at this; exact this.1
theorem tm3 (a : Nat) (h : a < 256) : tm a 3 = dbl1 a ^^^ a := by have := List.all_eq_true.1 tm2_all a (List.mem_range.2 h); simp at this; exact this.2
/-- What is stirred from an inverse. -/
def stS (v : Nat) : Nat → Nat
  | 0 => 99
  | k + 1 => stS v k ^^^ ((v * 2 ^ k ||| v / 2 ^ (8 - k)) &&& 255)
def stN (v : Nat) : Nat := stS v 5
/-- The last byte so far whose product with b is 1. -/
def ivS (b : Nat) : Nat → Nat
  | 0 => 0
  | k + 1 => if tm (k + 1) b = 1 then k + 1 else ivS b k
/-- The powers of 3. -/
def p3 : Nat → Nat
  | 0 => 1
  | k + 1 => tm (p3 k) 3
def p3L (n : Nat) : List Nat := (List.range n).map p3
def sb (x : UInt8) : UInt8 := UInt8.ofNat (sbT x.toNat)
def dbl8 (x : UInt8) : UInt8 := UInt8.ofNat (dbl1 x.toNat)
theorem sbT_lt (n : Nat) : sbT n < 256 := by
  by_cases h : n < 256
  · have : (List.range 256).all (fun n => decide (sbT n < 256)) = true := by decide +kernel
    simpa using List.all_eq_true.1 this n (List.mem_range.2 h)
  · unfold sbT; rw [List.getD_eq_getElem?_getD, List.getElem?_eq_none (by simp [sbL]; omega)]; simp
theorem sb_toNat (x : UInt8) : (sb x).toNat = sbT x.toNat := by have := sbT_lt x.toNat; simp [sb]; omega
theorem dbl8_toNat (x : UInt8) : (dbl8 x).toNat = dbl1 x.toNat := by have := dbl1_lt x.toNat (UInt8.toNat_lt x); simp [dbl8]; omega
/-- The table while it is filled. -/
def tabS : Nat → List UInt8
  | 0 => (List.replicate 256 0).set 0 99
  | k + 1 => (tabS k).set (p3 k) (UInt8.ofNat (stN (p3 ((255 - k) % 255))))
def tabL : List UInt8 := (List.range 256).map fun n => UInt8.ofNat (sbT n)

/-- The steps of a round, on sixteen bytes. -/
def swS (s : List UInt8) : List UInt8 := s.map sb
def shS (s : List UInt8) : List UInt8 := (List.range 16).map fun i => s.getD ((i + 4 * (i % 4)) % 16) 0
def mxB (a b c d : UInt8) : UInt8 := dbl8 (a ^^^ b) ^^^ b ^^^ c ^^^ d
def mxS (s : List UInt8) : List UInt8 := (List.range 16).map fun i => mxB (s.getD (i / 4 * 4 + i % 4) 0) (s.getD (i / 4 * 4 + (i % 4 + 1) % 4) 0) (s.getD (i / 4 * 4 + (i % 4 + 2) % 4) 0) (s.getD (i / 4 * 4 + (i % 4 + 3) % 4) 0)
def plS (s k : List UInt8) : List UInt8 := (List.range 16).map fun i => s.getD i 0 ^^^ k.getD i 0
/-- A round's key: byte r of the word c of the next one. -/
def nb (k : List UInt8) (p : UInt8) (r : Nat) : Nat → UInt8
  | 0 => sb (k.getD (12 + (r + 1) % 4) 0) ^^^ (if r = 0 then p else 0) ^^^ k.getD r 0
  | c + 1 => nb k p r c ^^^ k.getD (4 * (c + 1) + r) 0
def nxL (k : List UInt8) (p : UInt8) : List UInt8 := (List.range 16).map fun i => nb k p (i % 4) (i / 4)
def pw : Nat → UInt8
  | 0 => 1
  | i + 1 => dbl8 (pw i)
def rk (key : List UInt8) : Nat → List UInt8
  | 0 => key
  | i + 1 => nxL (rk key i) (pw i)
/-- The state ahead of the last round's and its end. -/
def roS (key block : List UInt8) : Nat → List UInt8
  | 0 => plS block key
  | i + 1 => plS (mxS (shS (swS (roS key block i)))) (rk key (i + 1))
def enL (key block : List UInt8) : List UInt8 := plS (shS (swS (roS key block 9))) (rk key 10)
theorem swS_length (s : List UInt8) : (swS s).length = s.length := List.length_map _
theorem shS_length (s : List UInt8) : (shS s).length = 16 := by simp [shS]
theorem mxS_length (s : List UInt8) : (mxS s).length = 16 := by simp [mxS]
theorem plS_length (s k : List UInt8) : (plS s k).length = 16 := by simp [plS]
theorem nxL_length (k : List UInt8) (p : UInt8) : (nxL k p).length = 16 := by simp [nxL]
theorem rk_length (key : List UInt8) (h : key.length = 16) : ∀ i, (rk key i).length = 16
  | 0 => h
  | i + 1 => nxL_length _ _
theorem roS_length (key block : List UInt8) : ∀ i, (roS key block i).length = 16
  | 0 => plS_length _ _
  | i + 1 => plS_length _ _
theorem enL_length (key block : List UInt8) : (enL key block).length = 16 := plS_length _ _

theorem fips : ((enL [0, 1, 2, 3, 4, 5, 6, 7, 8, 9, 10, 11, 12, 13, 14, 15] [0, 17, 34, 51, 68, 85, 102, 119, 136, 153, 170, 187, 204, 221, 238, 255]).take 4 == [0x69, 0xc4, 0xe0, 0xd8]) = true := by decide +kernel
end

section
open Go.RowKit
set_option maxRecDepth 100000
theorem tab_full : tabS 255 = tabL := by decide +kernel
theorem p3_all : (List.range 255).all (fun k => decide (p3 k < 256)) = true := by decide +kernel
theorem iv_all : (List.range 256).all (fun b => stN (ivS b 255) == sbT b) = true := by decide +kernel
end

section
open Go.RowKit
set_option maxRecDepth 100000
theorem dbl_lin_all : (List.range 256).all (fun a => (List.range 256).all fun b => dbl1 (a ^^^ b) == (dbl1 a ^^^ dbl1 b)) = true := by decide +kernel
theorem dbl_lin (a b : Nat) (ha : a < 256) (hb : b < 256) : dbl1 (a ^^^ b) = dbl1 a ^^^ dbl1 b := by
  simpa using List.all_eq_true.1 (List.all_eq_true.1 dbl_lin_all a (List.mem_range.2 ha)) b (List.mem_range.2 hb)
end

section
open Go.RowKit
set_option maxRecDepth 100000
set_option linter.unusedSimpArgs false
set_option linter.unusedVariables false

theorem sb_back_all : (List.range 256).all (fun x => sbL.idxOf (sbT x) == x) = true := by decide +kernel
theorem sb_inj (x y : UInt8) (h : sb x = sb y) : x = y := by
  have h1 : sbT x.toNat = sbT y.toNat := by rw [← sb_toNat, ← sb_toNat, h]
  have e1 := List.all_eq_true.1 sb_back_all x.toNat (List.mem_range.2 (UInt8.toNat_lt x))
  have e2 := List.all_eq_true.1 sb_back_all y.toNat (List.mem_range.2 (UInt8.toNat_lt y))
  simp only [beq_iff_eq] at e1 e2
  rw [h1] at e1
  exact UInt8.toNat_inj.1 (e1.symm.trans e2)
theorem dbl8_xor (x y : UInt8) : dbl8 (x ^^^ y) = dbl8 x ^^^ dbl8 y := by
  apply UInt8.toNat_inj.1
  rw [dbl8_toNat, UInt8.toNat_xor, UInt8.toNat_xor, dbl8_toNat, dbl8_toNat, dbl_lin _ _ (UInt8.toNat_lt x) (UInt8.toNat_lt y)]
theorem xor_can (x y : UInt8) : x ^^^ (x ^^^ y) = y := by rw [← UInt8.xor_assoc, UInt8.xor_self, UInt8.zero_xor]
theorem xor_lc (x y z : UInt8) : x ^^^ (y ^^^ z) = y ^^^ (x ^^^ z) := by rw [← UInt8.xor_assoc, UInt8.xor_comm x y, UInt8.xor_assoc]
/-- Mixed twice. -/
theorem mix_twice (a b c d : UInt8) : mxB (mxB a b c d) (mxB b c d a) (mxB c d a b) (mxB d a b c) = dbl8 (dbl8 (a ^^^ c)) ^^^ a := by
  simp only [mxB, dbl8_xor]
  generalize dbl8 (dbl8 a) = a2
  generalize dbl8 (dbl8 b) = b2
  generalize dbl8 (dbl8 c) = c2
  generalize dbl8 a = a1
  generalize dbl8 b = b1
  generalize dbl8 c = c1
  generalize dbl8 d = d1
  simp only [UInt8.xor_assoc, UInt8.xor_comm, xor_lc, xor_can, UInt8.xor_self, UInt8.xor_zero, UInt8.zero_xor]
theorem mxS_at (s : List UInt8) (c r : Nat) (hc : c < 4) (hr : r < 4) : (mxS s).getD (4 * c + r) 0 = mxB (s.getD (4 * c + r) 0) (s.getD (4 * c + (r + 1) % 4) 0) (s.getD (4 * c + (r + 2) % 4) 0) (s.getD (4 * c + (r + 3) % 4) 0) := by
  rw [mxS, range_getD _ _ _ (by omega), show (4 * c + r) / 4 * 4 = 4 * c by omega, show (4 * c + r) % 4 = r by omega]
theorem mxS_two (s : List UInt8) (c r : Nat) (hc : c < 4) (hr : r < 4) : (mxS (mxS s)).getD (4 * c + r) 0 = dbl8 (dbl8 (s.getD (4 * c + r) 0 ^^^ s.getD (4 * c + (r + 2) % 4) 0)) ^^^ s.getD (4 * c + r) 0 := by
  rw [mxS_at _ c r hc hr, mxS_at _ c r hc hr, mxS_at _ c _ hc (Nat.mod_lt _ (by omega)), mxS_at _ c _ hc (Nat.mod_lt _ (by omega)), mxS_at _ c _ hc (Nat.mod_lt _ (by omega))]
  rcases (show r = 0 ∨ r = 1 ∨ r = 2 ∨ r = 3 by omega) with rfl | rfl | rfl | rfl <;> exact mix_twice _ _ _ _
theorem mxS_four (s : List UInt8) (h : s.length = 16) : mxS (mxS (mxS (mxS s))) = s := by
  refine bytes_ext (mxS_length _) h fun i hi => ?_
  obtain ⟨c, r, hc, hr, rfl⟩ : ∃ c r, c < 4 ∧ r < 4 ∧ i = 4 * c + r := ⟨i / 4, i % 4, by omega, by omega, by omega⟩
  rw [mxS_two _ c r hc hr, mxS_two _ c r hc hr, mxS_two _ c _ hc (Nat.mod_lt _ (by omega)), show ((r + 2) % 4 + 2) % 4 = r by omega]
  generalize s.getD (4 * c + r) 0 = x
  generalize s.getD (4 * c + (r + 2) % 4) 0 = y
  simp only [dbl8_xor]
  simp only [UInt8.xor_assoc, UInt8.xor_comm, xor_lc, xor_can, UInt8.xor_self, UInt8.xor_zero, UInt8.zero_xor]
theorem mxS_inj (s t : List UInt8) (hs : s.length = 16) (ht : t.length = 16) (h : mxS s = mxS t) : s = t := by
  rw [← mxS_four s hs, ← mxS_four t ht, h]
theorem shS_inj (s t : List UInt8) (hs : s.length = 16) (ht : t.length = 16) (h : shS s = shS t) : s = t := by
  refine bytes_ext hs ht fun j hj => ?_
  have := congrArg (fun l => l.getD ((j + 12 * (j % 4)) % 16) 0) h
  simp only [shS] at this
  rw [range_getD _ _ _ (Nat.mod_lt _ (by omega)), range_getD _ _ _ (Nat.mod_lt _ (by omega)), show ((j + 12 * (j % 4)) % 16 + 4 * ((j + 12 * (j % 4)) % 16 % 4)) % 16 = j by omega] at this
  exact this
theorem swS_inj (s t : List UInt8) (h : swS s = swS t) : s = t := by
  induction s generalizing t with
  | nil => cases t with
    | nil => rfl
    | cons y r => simp [swS] at h
  | cons x s ih => cases t with
    | nil => simp [swS] at h
    | cons y r =>
      simp only [swS, List.map_cons, List.cons.injEq] at h
      rw [sb_inj x y h.1, ih r h.2]
theorem plS_inj (s t k : List UInt8) (hs : s.length = 16) (ht : t.length = 16) (h : plS s k = plS t k) : s = t := by
  refine bytes_ext hs ht fun i hi => ?_
  have := congrArg (fun l => l.getD i 0) h
  simp only [plS] at this
  rw [range_getD _ _ _ hi, range_getD _ _ _ hi] at this
  have h2 := congrArg (fun x => k.getD i 0 ^^^ x) this
  rwa [UInt8.xor_comm (s.getD i 0), UInt8.xor_comm (t.getD i 0), xor_can, xor_can] at h2
theorem roS_inj (key a b : List UInt8) (ha : a.length = 16) (hb : b.length = 16) : ∀ i, roS key a i = roS key b i → a = b
  | 0, h => plS_inj a b key ha hb h
  | i + 1, h => by
    have h1 := plS_inj _ _ _ (mxS_length _) (mxS_length _) h
    have h2 := mxS_inj _ _ (shS_length _) (shS_length _) h1
    have h3 := shS_inj _ _ (by rw [swS_length, roS_length]) (by rw [swS_length, roS_length]) h2
    exact roS_inj key a b ha hb i (swS_inj _ _ h3)
theorem enL_inj (key a b : List UInt8) (ha : a.length = 16) (hb : b.length = 16) (h : enL key a = enL key b) : a = b := by
  have h1 := plS_inj _ _ _ (shS_length _) (shS_length _) h
  have h3 := shS_inj _ _ (by rw [swS_length, roS_length]) (by rw [swS_length, roS_length]) h1
  exact roS_inj key a b ha hb 9 (swS_inj _ _ h3)
end
end Go.Proofs.YtffnafikegakcaaGreatDoor
