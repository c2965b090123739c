/- Numbers as five limbs of 26 bits, modulo 2 to the 130 less 5: the arithmetic of the program; The program's small functions on numbers: spread, carried, plus; The program's product, and its last reduction; The program's encodings: the bytes of a number, and the number of bytes; The program's number of seventeen bytes; The program's summand, pieceNumber and factor; The program's sum over the pieces, and its tag; The program's Tag. -/
import Derived.Test.YtffnafikegakcaaGreatDoorPolyR
import Derived.Laws.Tables
import Derived.Laws.ResultCell
import Derived.Lib.BufferWrite
import Derived.Test.YtffnafikegakcaaGreatDoorBase
namespace Go.Proofs.YtffnafikegakcaaGreatDoor
section
open Go.RowKit Go.Sort
set_option maxRecDepth 100000
set_option linter.unusedSimpArgs false
set_option linter.unusedVariables false

/-- The number that limbs are. -/
def limV : List Int → Int
  | [] => 0
  | x :: r => x + 67108864 * limV r
theorem limV_set (v : List Int) (j : Nat) (x : Int) (h : j < v.length) : limV (v.set j x) = limV v + (x - v.getD j 0) * 67108864 ^ j := by
  induction v generalizing j with
  | nil => simp at h
  | cons y r ih =>
    cases j with
    | zero => simp [limV]; omega
    | succ j =>
      have h' : j < r.length := by simpa using h
      simp only [List.set_cons_succ, limV, ih j h', List.getD_cons_succ, Int.pow_succ]
      rw [Int.mul_add, Int.mul_comm 67108864 ((x - r.getD j 0) * 67108864 ^ j), Int.mul_assoc]; omega
theorem limV_append (a b : List Int) : limV (a ++ b) = limV a + 67108864 ^ a.length * limV b := by
  induction a with
  | nil => simp [limV]
  | cons x r ih => simp only [List.cons_append, limV, ih, List.length_cons, Int.pow_succ]; rw [Int.mul_add, ← Int.mul_assoc, Int.mul_comm 67108864 (67108864 ^ r.length)]; omega
theorem limV_zeros (n : Nat) : limV (List.replicate n 0) = 0 := by
  induction n with
  | zero => rfl
  | succ n ih => simp [List.replicate_succ, limV, ih]
theorem limV_take (v : List Int) (k : Nat) (h : k < v.length) : limV (v.take (k + 1)) = limV (v.take k) + v.getD k 0 * 67108864 ^ k := by
  rw [List.take_succ_eq_append_getElem h, limV_append, List.length_take, Nat.min_eq_left (Nat.le_of_lt h)]
  simp [limV, h, Int.mul_comm]
theorem limV_bound (v : List Int) (h : digitsIn 67108863 v) : 0 ≤ limV v ∧ limV v < 67108864 ^ v.length := by
  induction v with
  | nil => simp [limV]
  | cons x r ih =>
    obtain ⟨h1, h2⟩ := ih (fun y hy => h y (by simp [hy]))
    obtain ⟨h3, h4⟩ := h x (by simp)
    simp only [limV, List.length_cons, Int.pow_succ]
    omega
theorem limV_nonneg (v : List Int) (m : Int) (h : digitsIn m v) : 0 ≤ limV v := by
  induction v with
  | nil => simp [limV]
  | cons x r ih =>
    have h1 := ih (fun y hy => h y (by simp [hy]))
    obtain ⟨h3, h4⟩ := h x (by simp)
    simp only [limV]
    omega
theorem five_lims (v : List Int) (h : v.length = 5) : ∃ x0 x1 x2 x3 x4, v = [x0, x1, x2, x3, x4] := by
  match v, h with
  | [x0, x1, x2, x3, x4], _ => exact ⟨_, _, _, _, _, rfl⟩
theorem ten_lims (v : List Int) (h : v.length = 10) : ∃ x0 x1 x2 x3 x4 x5 x6 x7 x8 x9, v = [x0, x1, x2, x3, x4, x5, x6, x7, x8, x9] := by
  match v, h with
  | [x0, x1, x2, x3, x4, x5, x6, x7, x8, x9], _ => exact ⟨_, _, _, _, _, _, _, _, _, _, rfl⟩
/-- The limbs spread, one behind the other. -/
def spG (v : List Int) : Nat → List Int × Int
  | 0 => (v, 0)
  | k + 1 => ((spG v k).1.set k (((spG v k).1.getD k 0 + (spG v k).2) % 67108864), ((spG v k).1.getD k 0 + (spG v k).2) / 67108864)
theorem spG_length (v : List Int) (k : Nat) : (spG v k).1.length = v.length := by induction k with | zero => rfl | succ k ih => simp [spG, ih]
theorem spG_get (v : List Int) (k j : Nat) (h : k ≤ j) : (spG v k).1.getD j 0 = v.getD j 0 := by
  induction k with
  | zero => rfl
  | succ k ih =>
    rw [← ih (by omega)]
    simp [spG, List.getD_eq_getElem?_getD, List.getElem?_set, show ¬ k = j by omega]
theorem spG_carry (v : List Int) (hv : digitsIn 4611686018427387904 v) (k : Nat) (hk : k ≤ v.length) : 0 ≤ (spG v k).2 ∧ (spG v k).2 ≤ 68719480000 := by
  induction k with
  | zero => simp [spG]
  | succ k ih =>
    obtain ⟨h0, h1⟩ := ih (by omega)
    obtain ⟨a0, a1⟩ := getD_in hv k (by omega)
    simp only [spG]
    rw [spG_get v k k (Nat.le_refl _)]
    omega
theorem spG_V (v : List Int) (k : Nat) (hk : k ≤ v.length) : limV (spG v k).1 + 67108864 ^ k * (spG v k).2 = limV v := by
  induction k with
  | zero => simp [spG]
  | succ k ih =>
    rw [← ih (by omega)]
    simp only [spG]
    rw [limV_set _ _ _ (by rw [spG_length]; omega)]
    generalize (spG v k).1.getD k 0 = x
    generalize (spG v k).2 = c
    have e : x + c = 67108864 * ((x + c) / 67108864) + (x + c) % 67108864 := by omega
    generalize (x + c) / 67108864 = q at *
    generalize (x + c) % 67108864 = r at *
    have e2 : x = 67108864 * q + r - c := by omega
    subst e2
    rw [Int.pow_succ]
    generalize (67108864 : Int) ^ k = t
    rw [show r - (67108864 * q + r - c) = c - 67108864 * q by omega, Int.sub_mul, Int.mul_comm c t, Int.mul_assoc t 67108864 q, Int.mul_comm (67108864 * q) t]
    omega
theorem spG_in (v : List Int) (k : Nat) (hk : k ≤ v.length) : ∀ j, j < k → 0 ≤ (spG v k).1.getD j 0 ∧ (spG v k).1.getD j 0 ≤ 67108863 := by
  induction k with
  | zero => intro j h; omega
  | succ k ih =>
    intro j hj
    by_cases h : j = k
    · subst h
      have e : (spG v (j + 1)).1.getD j 0 = ((spG v j).1.getD j 0 + (spG v j).2) % 67108864 := by
        simp [spG, List.getD_eq_getElem?_getD, spG_length, show j < v.length by omega]
      rw [e]; omega
    · have e : (spG v (k + 1)).1.getD j 0 = (spG v k).1.getD j 0 := by
        simp [spG, List.getD_eq_getElem?_getD, List.getElem?_set, show ¬ k = j by omega]
      rw [e]; exact ih (by omega) j (by omega)
def spreadL (v : List Int) : List Int := (spG v 5).1
def spreadC (v : List Int) : Int := (spG v 5).2
theorem spreadL_length (v : List Int) : (spreadL v).length = v.length := spG_length v 5
theorem in_of_getD {m : Int} {v : List Int} (h : ∀ j, j < v.length → 0 ≤ v.getD j 0 ∧ v.getD j 0 ≤ m) : digitsIn m v := by
  intro x hx
  obtain ⟨j, hj, rfl⟩ := List.mem_iff_getElem.1 hx
  have := h j hj
  simpa [hj] using this
theorem spreadL_in (v : List Int) (hl : v.length = 5) : digitsIn 67108863 (spreadL v) := in_of_getD fun j hj => spG_in v 5 (by omega) j (by rw [spreadL_length] at hj; omega)
theorem spread_V (v : List Int) (hl : v.length = 5) : limV (spreadL v) = limV v % 1361129467683753853853498429727072845824 ∧ spreadC v = limV v / 1361129467683753853853498429727072845824 := by
  have h1 := spG_V v 5 (by omega)
  have h2 := limV_bound _ (spreadL_in v hl)
  rw [spreadL_length, hl] at h2
  rw [show (67108864 : Int) ^ 5 = 1361129467683753853853498429727072845824 by decide] at h1 h2
  unfold spreadL spreadC at *
  omega
/-- Spread, what leaves the top brought back. -/
def carrL (v : List Int) : List Int := (spreadL v).set 0 ((spreadL v).getD 0 0 + 5 * spreadC v)
theorem carrL_length (v : List Int) : (carrL v).length = v.length := by simp [carrL, spreadL_length]
theorem carrL_V (v : List Int) (hl : v.length = 5) : limV (carrL v) = limV v - polyP * (limV v / 1361129467683753853853498429727072845824) := by
  obtain ⟨h1, h2⟩ := spread_V v hl
  rw [carrL, limV_set _ _ _ (by rw [spreadL_length]; omega), h1, h2]
  simp only [Int.pow_zero, Int.mul_one, polyP]
  omega
theorem carrL_in (v : List Int) (hl : v.length = 5) (m : Int) (h0 : 0 ≤ limV v) (h1 : limV v / 1361129467683753853853498429727072845824 ≤ m) : 0 ≤ (carrL v).getD 0 0 ∧ (carrL v).getD 0 0 ≤ 67108863 + 5 * m ∧ digitsIn (67108863 + 5 * m) (carrL v) ∧ ∀ j, 1 ≤ j → j < 5 → 0 ≤ (carrL v).getD j 0 ∧ (carrL v).getD j 0 ≤ 67108863 := by
  obtain ⟨e1, e2⟩ := spread_V v hl
  have hsl : (spreadL v).length = 5 := by rw [spreadL_length, hl]
  have hq : 0 ≤ limV v / 1361129467683753853853498429727072845824 := by omega
  have hs := getD_in (spreadL_in v hl) 0 (by omega)
  have hx : 0 ≤ (spreadL v).getD 0 0 + 5 * spreadC v ∧ (spreadL v).getD 0 0 + 5 * spreadC v ≤ 67108863 + 5 * m := by rw [e2]; omega
  have g0 : (carrL v).getD 0 0 = (spreadL v).getD 0 0 + 5 * spreadC v := by simp [carrL, List.getD_eq_getElem?_getD, hsl]
  refine ⟨by rw [g0]; exact hx.1, by rw [g0]; exact hx.2, digitsIn_set (spreadL_in v hl) (by omega) 0 _ hx.1 hx.2, fun j h1 h5 => ?_⟩
  have gj : (carrL v).getD j 0 = (spreadL v).getD j 0 := by simp [carrL, List.getD_eq_getElem?_getD, List.getElem?_set, show ¬ 0 = j by omega]
  rw [gj]; exact getD_in (spreadL_in v hl) j (by omega)
/-- Sums, limb by limb. -/
theorem sumV (a d : List Int) (ha : a.length = 5) (hd : d.length = 5) : limV (sumL a d 5) = limV a + limV d := by
  obtain ⟨a0, a1, a2, a3, a4, rfl⟩ := five_lims a ha
  obtain ⟨d0, d1, d2, d3, d4, rfl⟩ := five_lims d hd
  simp [sumL, limV]
  omega
theorem sumIn (a d : List Int) (ha : a.length = 5) (hd : d.length = 5) (m n : Int) (hm : digitsIn m a) (hn : digitsIn n d) : digitsIn (m + n) (sumL a d 5) := by
  obtain ⟨a0, a1, a2, a3, a4, rfl⟩ := five_lims a ha
  obtain ⟨d0, d1, d2, d3, d4, rfl⟩ := five_lims d hd
  simp [digitsIn] at hm hn
  intro x hx
  simp [sumL] at hx
  rcases hx with rfl | rfl | rfl | rfl | rfl <;> omega
/-- The products of limbs. -/
def wStep (a b out : List Int) (i k : Nat) : List Int := out.set (i + k) (out.getD (i + k) 0 + a.getD i 0 * b.getD k 0)
def wRow (a b out : List Int) (i : Nat) : Nat → List Int
  | 0 => out
  | k + 1 => wStep a b (wRow a b out i k) i k
def wAll (a b : List Int) : Nat → List Int
  | 0 => List.replicate 10 0
  | i + 1 => wRow a b (wAll a b i) i 5
theorem wRow_length (a b out : List Int) (i k : Nat) : (wRow a b out i k).length = out.length := by induction k with | zero => rfl | succ k ih => simp [wRow, wStep, ih]
theorem wAll_length (a b : List Int) (i : Nat) : (wAll a b i).length = 10 := by induction i with | zero => simp [wAll] | succ i ih => rw [wAll, wRow_length, ih]
theorem wRow_V (a b out : List Int) (i : Nat) (ho : out.length = 10) (hb : b.length = 5) (hi : i < 5) : ∀ k, k ≤ 5 → limV (wRow a b out i k) = limV out + a.getD i 0 * 67108864 ^ i * limV (b.take k) := by
  intro k
  induction k with
  | zero => intro _; simp [wRow, limV]
  | succ k ih =>
    intro hk
    have h1 := ih (by omega)
    rw [wRow, wStep, limV_set _ _ _ (by rw [wRow_length, ho]; omega), h1, limV_take b k (by omega), Int.mul_add]
    generalize (wRow a b out i k).getD (i + k) 0 = x
    have : x + a.getD i 0 * b.getD k 0 - x = a.getD i 0 * b.getD k 0 := by omega
    rw [this, Int.pow_add]
    have e : a.getD i 0 * b.getD k 0 * (67108864 ^ i * 67108864 ^ k) = a.getD i 0 * 67108864 ^ i * (b.getD k 0 * 67108864 ^ k) := by
      rw [Int.mul_assoc, Int.mul_assoc, Int.mul_left_comm (b.getD k 0)]
    rw [e]; omega
theorem wAll_V (a b : List Int) (ha : a.length = 5) (hb : b.length = 5) : ∀ i, i ≤ 5 → limV (wAll a b i) = limV (a.take i) * limV b := by
  intro i
  induction i with
  | zero => intro _; rw [wAll, limV_zeros]; simp [limV]
  | succ i ih =>
    intro hi
    rw [wAll, wRow_V a b _ i (wAll_length _ _ _) hb (by omega) 5 (by omega), ih (by omega), List.take_of_length_le (show b.length ≤ 5 by omega), limV_take a i (by omega), Int.add_mul]
theorem wStep_in (a b out : List Int) (i k n : Nat) (ha : digitsIn 268435455 a) (hb : digitsIn 67108863 b) (hal : a.length = 5) (hbl : b.length = 5) (hi : i < 5) (hk : k < 5) (hol : out.length = 10) (ho : digitsIn (18014398509481984 * (n : Int)) out) : digitsIn (18014398509481984 * ((n + 1 : Nat) : Int)) (wStep a b out i k) := by
  obtain ⟨a0, a1⟩ := getD_in ha i (by omega)
  obtain ⟨b0, b1⟩ := getD_in hb k (by omega)
  have p0 : 0 ≤ a.getD i 0 * b.getD k 0 := Int.mul_nonneg a0 b0
  have p1 : a.getD i 0 * b.getD k 0 ≤ 268435455 * 67108863 := Int.mul_le_mul a1 b1 b0 (by omega)
  obtain ⟨o0, o1⟩ := getD_in ho (i + k) (by omega)
  exact digitsIn_set ho (by omega) _ _ (by omega) (by omega)
theorem wRow_in (a b out : List Int) (i n : Nat) (ha : digitsIn 268435455 a) (hb : digitsIn 67108863 b) (hal : a.length = 5) (hbl : b.length = 5) (hi : i < 5) (hol : out.length = 10) (ho : digitsIn (18014398509481984 * (n : Int)) out) : ∀ k, k ≤ 5 → digitsIn (18014398509481984 * ((n + k : Nat) : Int)) (wRow a b out i k) := by
  intro k
  induction k with
  | zero => intro _; exact ho
  | succ k ih => intro hk; exact wStep_in a b _ i k (n + k) ha hb hal hbl hi (by omega) (by rw [wRow_length, hol]) (ih (by omega))
theorem wAll_in (a b : List Int) (ha : digitsIn 268435455 a) (hb : digitsIn 67108863 b) (hal : a.length = 5) (hbl : b.length = 5) : ∀ i, i ≤ 5 → digitsIn (18014398509481984 * ((5 * i : Nat) : Int)) (wAll a b i) := by
  intro i
  induction i with
  | zero => intro _ x hx; rw [wAll] at hx; have := List.eq_of_mem_replicate hx; omega
  | succ i ih => intro hi; exact wRow_in a b _ i (5 * i) ha hb hal hbl (by omega) (wAll_length _ _ _) (ih (by omega)) 5 (by omega)
/-- The upper half, five times, on the lower one. -/
def foldG (a u : List Int) : Nat → List Int
  | 0 => a
  | k + 1 => (foldG a u k).set k (u.getD k 0 + 5 * u.getD (5 + k) 0)
theorem foldG_length (a u : List Int) (k : Nat) : (foldG a u k).length = a.length := by induction k with | zero => rfl | succ k ih => simp [foldG, ih]
theorem foldG_V (a u : List Int) (ha : a.length = 5) (hu : u.length = 10) : limV (foldG a u 5) = limV u - polyP * limV (u.drop 5) := by
  obtain ⟨a0, a1, a2, a3, a4, rfl⟩ := five_lims a ha
  obtain ⟨u0, u1, u2, u3, u4, u5, u6, u7, u8, u9, rfl⟩ := ten_lims u hu
  simp [foldG, limV, polyP]
  omega
theorem foldG_in (a u : List Int) (ha : a.length = 5) (hu : u.length = 10) (m : Int) (h : digitsIn m u) : digitsIn (6 * m) (foldG a u 5) := by
  obtain ⟨a0, a1, a2, a3, a4, rfl⟩ := five_lims a ha
  obtain ⟨u0, u1, u2, u3, u4, u5, u6, u7, u8, u9, rfl⟩ := ten_lims u hu
  simp [digitsIn] at h
  intro x hx
  simp [foldG] at hx
  rcases hx with rfl | rfl | rfl | rfl | rfl <;> omega
def timesL (a b : List Int) : List Int := carrL (carrL (foldG a (wAll a b 5) 5))
theorem timesL_length (a b : List Int) : (timesL a b).length = a.length := by simp [timesL, carrL_length, foldG_length]
/-- The bounds of five limbs on their number. -/
theorem limV_le (v : List Int) (m : Int) (hl : v.length = 5) (h : digitsIn m v) : limV v ≤ m * 20282409905883129831204239441921 := by
  obtain ⟨x0, x1, x2, x3, x4, rfl⟩ := five_lims v hl
  simp [digitsIn] at h
  simp only [limV]
  omega
theorem times_spec (a b : List Int) (hal : a.length = 5) (hbl : b.length = 5) (ha : digitsIn 268435455 a) (hb : digitsIn 67108863 b) :
    limV (timesL a b) % polyP = limV a * limV b % polyP ∧ digitsIn 67108868 (timesL a b) ∧ limV (timesL a b) < 1361129467683753853853498429727072845824 ∧ digitsIn 450359962737049600 (wAll a b 5) ∧ digitsIn 2702159776422297600 (foldG a (wAll a b 5) 5) ∧ digitsIn 201393703863 (carrL (foldG a (wAll a b 5) 5)) := by
  have hw := wAll_in a b ha hb hal hbl 5 (by omega)
  have hw' : digitsIn 450359962737049600 (wAll a b 5) := fun x hx => by obtain ⟨h0, h1⟩ := hw x hx; omega
  have hf := foldG_in a (wAll a b 5) hal (wAll_length _ _ _) _ hw
  have hfl : (foldG a (wAll a b 5) 5).length = 5 := by rw [foldG_length, hal]
  have hV := foldG_V a (wAll a b 5) hal (wAll_length _ _ _)
  rw [wAll_V a b hal hbl 5 (by omega), List.take_of_length_le (show a.length ≤ 5 by omega)] at hV
  have hin : digitsIn 2702159776422297600 (foldG a (wAll a b 5) 5) := fun x hx => by obtain ⟨h0, h1⟩ := hf x hx; omega
  rw [timesL]
  generalize foldG a (wAll a b 5) 5 = f at *
  generalize limV (List.drop 5 (wAll a b 5)) = q0 at *
  clear hf hw
  have f0 := limV_nonneg f _ hin
  have f1 := limV_le f _ hfl hin
  obtain ⟨g0, g1, c1, cj⟩ := carrL_in f hfl 40265319000 f0 (by omega)
  have e1 := carrL_V f hfl
  have hcl : (carrL f).length = 5 := by rw [carrL_length, hfl]
  generalize carrL f = v at *
  have v0 := limV_nonneg v _ c1
  have v1 : limV v < 1361129467683753853853498429727072845824 + 274877906944 := by
    have h1 := cj 1 (by omega) (by omega)
    have h2 := cj 2 (by omega) (by omega)
    have h3 := cj 3 (by omega) (by omega)
    have h4 := cj 4 (by omega) (by omega)
    obtain ⟨x0, x1, x2, x3, x4, rfl⟩ := five_lims v hcl
    simp at g0 g1 h1 h2 h3 h4
    simp only [limV]
    omega
  obtain ⟨_, _, c2, _⟩ := carrL_in v hcl 1 v0 (by omega)
  have e2 := carrL_V v hcl
  generalize limV f / 1361129467683753853853498429727072845824 = q1 at *
  refine ⟨?_, c2, ?_, hw', hin, c1⟩
  · generalize limV v / 1361129467683753853853498429727072845824 = q2 at *
    rw [e2, e1, hV]
    generalize limV a * limV b = x
    rw [show x - polyP * q0 - polyP * q1 - polyP * q2 = x - polyP * (q0 + q1 + q2) by rw [Int.mul_add, Int.mul_add]; omega]
    simp [Int.sub_emod, Int.mul_emod_right]
  · rw [e2]
    clear e1 hV
    unfold polyP
    omega
/-- The least number that is the same modulo p. -/
def reducedL (a : List Int) : List Int := spreadL (a.set 0 (a.getD 0 0 + 5 * spreadC (sumL a [5, 0, 0, 0, 0] 5)))
theorem reducedL_length (a : List Int) : (reducedL a).length = a.length := by simp [reducedL, spreadL_length]
theorem reduced_spec (a : List Int) (hl : a.length = 5) (h0 : 0 ≤ limV a) (h1 : limV a < 1361129467683753853853498429727072845824) : limV (reducedL a) = limV a % polyP := by
  have hs := sumV a [5, 0, 0, 0, 0] hl rfl
  have hc := (spread_V (sumL a [5, 0, 0, 0, 0] 5) (by rw [sumL_length, hl])).2
  rw [hs, show limV [5, 0, 0, 0, 0] = 5 by decide] at hc
  have hr := (spread_V (a.set 0 (a.getD 0 0 + 5 * spreadC (sumL a [5, 0, 0, 0, 0] 5))) (by simpa using hl)).1
  rw [reducedL, hr, limV_set _ _ _ (by omega), hc]
  unfold polyP
  simp only [Int.pow_zero, Int.mul_one]
  generalize a.getD 0 0 = x
  generalize limV a = V at *
  by_cases hp : V < 1361129467683753853853498429727072845819
  · rw [show (V + 5) / 1361129467683753853853498429727072845824 = 0 by omega]; omega
  · rw [show (V + 5) / 1361129467683753853853498429727072845824 = 1 by omega]; omega
/-- The limbs of a number. -/
def numL (n : Nat) : List Int := (List.range 5).map fun i => ((n / 67108864 ^ i % 67108864 : Nat) : Int)
theorem numL_length (n : Nat) : (numL n).length = 5 := by simp [numL]
theorem numL_get (n j : Nat) (h : j < 5) : (numL n).getD j 0 = ((n / 67108864 ^ j % 67108864 : Nat) : Int) := by simp [numL, h]
theorem numL_in (n : Nat) : digitsIn 67108863 (numL n) := by
  intro x hx
  simp only [numL, List.mem_map] at hx
  obtain ⟨i, _, rfl⟩ := hx
  omega
theorem numL_V (n : Nat) (h : n < 1361129467683753853853498429727072845824) : limV (numL n) = (n : Int) := by
  have e : numL n = [((n % 67108864 : Nat) : Int), ((n / 67108864 % 67108864 : Nat) : Int), ((n / 67108864 / 67108864 % 67108864 : Nat) : Int), ((n / 67108864 / 67108864 / 67108864 % 67108864 : Nat) : Int), ((n / 67108864 / 67108864 / 67108864 / 67108864 % 67108864 : Nat) : Int)] := by
    simp [numL, List.range_succ, Nat.div_div_eq_div_mul]
  rw [e]
  simp only [limV]
  omega
/-- The accumulator behind m pieces. -/
def accL (r : List Int) (l : List UInt8) : Nat → List Int
  | 0 => List.replicate 5 0
  | m + 1 => timesL (sumL (accL r l m) (numL (pieceN l m)) 5) r
theorem accL_length (r : List Int) (l : List UInt8) (m : Nat) : (accL r l m).length = 5 := by induction m with | zero => rfl | succ m ih => rw [accL, timesL_length, sumL_length, ih]
theorem pieceN_lt (l : List UInt8) (m : Nat) : pieceN l m < 1361129467683753853853498429727072845824 := by
  have := piece_lt ((l.drop (16 * m)).take 16) (by simp; omega)
  have e : (2 : Nat) ^ 130 = 1361129467683753853853498429727072845824 := by decide
  unfold pieceN; omega
theorem acc_spec (R : Nat) (hR : R < 1361129467683753853853498429727072845824) (l : List UInt8) (m : Nat) : limV (accL (numL R) l m) % polyP = polyG (R : Int) l m ∧ digitsIn 67108868 (accL (numL R) l m) ∧ limV (accL (numL R) l m) < 1361129467683753853853498429727072845824 := by
  induction m with
  | zero => refine ⟨by rw [accL, limV_zeros]; rfl, fun x hx => ?_, by rw [accL, limV_zeros]; omega⟩; rw [accL] at hx; have := List.eq_of_mem_replicate hx; omega
  | succ m ih =>
    obtain ⟨h1, h2, h3⟩ := ih
    have hs := sumV (accL (numL R) l m) (numL (pieceN l m)) (accL_length _ _ _) (numL_length _)
    have hi := sumIn _ _ (accL_length (numL R) l m) (numL_length (pieceN l m)) _ _ h2 (numL_in _)
    obtain ⟨t1, t2, t3, _⟩ := times_spec (sumL (accL (numL R) l m) (numL (pieceN l m)) 5) (numL R) (by rw [sumL_length, accL_length]) (numL_length _) (fun x hx => by obtain ⟨a, b⟩ := hi x hx; exact ⟨a, by omega⟩) (numL_in _)
    refine ⟨?_, t2, t3⟩
    rw [accL, t1, hs, numL_V _ (pieceN_lt l m), numL_V _ hR, polyG, ← h1]
    rw [Int.mul_emod (limV (accL (numL R) l m) % polyP + _), Int.emod_add_emod, ← Int.mul_emod]
theorem leOut_mod (n i : Nat) (h : i ≤ 16) : leOut (n % 1361129467683753853853498429727072845824) i = leOut n i := by
  induction i with
  | zero => rfl
  | succ i ih =>
    rw [leOut, leOut, ih (by omega)]
    congr 3
    have e : (1361129467683753853853498429727072845824 : Nat) = 256 ^ i * (256 * (4 * 256 ^ (15 - i))) := by
      rw [Nat.mul_left_comm 256 4, ← Nat.pow_succ', Nat.mul_left_comm, ← Nat.pow_add, show i + (15 - i).succ = 16 by omega]
    rw [e, Nat.mod_mul_right_div_self, Nat.mod_mul_right_mod]
/-- The bytes of limbs. -/
theorem low_byte (v : List Int) (hl : v.length = 5) (hv : digitsIn 67108863 v) (k : Nat) (hk : k < 16) :
    (8 * k / 26 + 1 < 5 → (v.getD (8 * k / 26) 0 / 2 ^ (8 * k % 26) + v.getD (8 * k / 26 + 1) 0 * 2 ^ (26 - 8 * k % 26)) % 256 = limV v / 256 ^ k % 256) ∧
    (5 ≤ 8 * k / 26 + 1 → v.getD (8 * k / 26) 0 / 2 ^ (8 * k % 26) % 256 = limV v / 256 ^ k % 256) := by
  obtain ⟨x0, x1, x2, x3, x4, rfl⟩ := five_lims v hl
  simp [digitsIn] at hv
  obtain ⟨⟨_, _⟩, ⟨_, _⟩, ⟨_, _⟩, ⟨_, _⟩, _, _⟩ := hv
  simp only [limV]
  rcases (by omega : k = 0 ∨ k = 1 ∨ k = 2 ∨ k = 3 ∨ k = 4 ∨ k = 5 ∨ k = 6 ∨ k = 7 ∨ k = 8 ∨ k = 9 ∨ k = 10 ∨ k = 11 ∨ k = 12 ∨ k = 13 ∨ k = 14 ∨ k = 15) with rfl | rfl | rfl | rfl | rfl | rfl | rfl | rfl | rfl | rfl | rfl | rfl | rfl | rfl | rfl | rfl <;> simp <;> omega
theorem ownTag_eq (key data : List UInt8) (hk : key.length = 32) :
    leOut (limV (sumL (reducedL (accL (numL (leN (clampL (key.take 16)))) data ((data.length + 15) / 16))) (numL (leN (key.drop 16))) 5)).toNat 16 = polyTag key data := by
  have e256 : (256 : Nat) ^ 16 < 1361129467683753853853498429727072845824 := by decide
  have hR : leN (clampL (key.take 16)) < 1361129467683753853853498429727072845824 := by
    have := leN_lt (clampL (key.take 16))
    rw [clampL_length, List.length_take, hk, show min 16 32 = 16 from rfl] at this
    omega
  have hS : leN (key.drop 16) < 1361129467683753853853498429727072845824 := by
    have := leN_lt (key.drop 16)
    rw [List.length_drop, hk] at this
    omega
  obtain ⟨a1, a2, a3⟩ := acc_spec _ hR data ((data.length + 15) / 16)
  have hal := accL_length (numL (leN (clampL (key.take 16)))) data ((data.length + 15) / 16)
  rw [sumV _ _ (by rw [reducedL_length, hal]) (numL_length _), reduced_spec _ hal (limV_nonneg _ _ a2) a3, a1, numL_V _ hS, polyTag, polyR]
  congr 1
  have := (polyG_range (leN (clampL (key.take 16)) : Int) data ((data.length + 15) / 16)).1
  omega
end

section
open Go.RowKit Go.Sort
set_option maxRecDepth 100000
set_option linter.unusedSimpArgs false
set_option linter.unusedVariables false

/-- The cells of a number. -/
def u64s (l : List Int) : List Value := l.map (Value.int .u64)
def lmc (l : List Int) : Array Value := (u64s l).toArray
def zeros5 : Array Value := lmc (List.replicate 5 0)
theorem infoN : (Tryz.prog.info? 155).map (fun i => (i.zero, i.size)) = some (some (.agg zeros5), 5) := by kernel_rfl
theorem lmc_size (l : List Int) : (lmc l).size = l.length := by simp [lmc, u64s]
theorem lmc_get (l : List Int) (j : Nat) (h : j < l.length) : (lmc l)[j]? = some (.int .u64 (l.getD j 0)) := by simp [lmc, u64s, h]
theorem lmc_set (l : List Int) (j : Nat) (x : Int) : (lmc l).setIfInBounds j (.int .u64 x) = lmc (l.set j x) := by simp [lmc, u64s, List.map_set]
theorem lmc_one (l : List Int) : (lmc l).all (·.oneCell') = true := by
  rw [Array.all_eq_true]
  intro i hi
  simp [lmc, u64s, Value.oneCell']
theorem lmc_cell {W : World} {B : Nat} {l : List Int} {T : TypeId} {fr : Nat × Nat} (h : W.heap[B]? = some (.cells (lmc l) T fr)) (j : Nat) (hj : j < l.length) : W.cell? ⟨B, j, none⟩ = some (.int .u64 (l.getD j 0)) := by rw [cell_of_row W _ _ _ _ _ h]; exact lmc_get l j hj
theorem lmc_heap_set {W : World} {B : Nat} {l : List Int} {T : TypeId} (h : W.heap[B]? = some (.cells (lmc l) T)) (j : Nat) (x : Int) : (W.setCell ⟨B, j, none⟩ (.int .u64 x)).heap[B]? = some (.cells (lmc (l.set j x)) T) := by rw [← lmc_set]; exact Go.heap_setCell_same _ _ _ _ _ _ h
theorem sizeN (l : List Int) (h : l.length = 5) : (Tryz.prog.info? 155).map (·.size) = some (lmc l).size := by rw [lmc_size, h]; exact (zero_of_info infoN).2
theorem zeros5_size (l : List Int) (h : l.length = 5) : zeros5.size = (lmc l).size := by rw [lmc_size, h]; exact lmc_size _
theorem and_26 (y : Int) : bits .and .u64 y 67108863 = y % 67108864 := by
  have h1 : (BitVec.ofInt 64 67108863).toNat = 2 ^ 26 - 1 := by decide
  have key : (BitVec.ofInt 64 y &&& BitVec.ofInt 64 67108863).toNat = (y % ((2 ^ 64 : Nat) : Int)).toNat % 2 ^ 26 := by
    rw [BitVec.toNat_and, BitVec.toNat_ofInt, h1, Nat.and_two_pow_sub_one_eq_mod]
  show IntKind.u64.wrap ((BitVec.ofInt 64 y &&& BitVec.ofInt 64 67108863).toNat : Nat) = y % 67108864
  rw [key, IntKind.wrap_u64]
  omega
theorem results_row_tmp {P : Program} {fn : Func} {p u : Tmp} {ty : TypeId} (h : fn.results = #[.cell p ty, .tmp u]) (tmps : Array Value) (w : World) (g : Nat) (t : TypeId) (cs : Array Value) (fr : Nat × Nat) (d : TypeDesc)
    (hp : tmps.getD p undef = .pointer (some ⟨g, 0, none⟩)) (hg : w.heap[g]? = some (.cells cs t fr))
    (hu : P.underlying ty = some d) (hd : (match d with | .struct _ | .array _ _ => true | _ => false) = true) (hi : (P.info? ty).map (·.size) = some cs.size) :
    (results fn tmps).run P w = .ok (.tuple #[.agg cs, tmps.getD u undef]) w := by
  rw [results_cell_tmp h, hp]
  simp [asAddr, run_loadVar_row w g t ty cs fr d hg hu hd hi, Result.andThen]

set_option maxHeartbeats 1000000 in
theorem spread_any (v : List Int) (w : World) (hl : v.length = 5) (hv : digitsIn 4611686018427387904 v) :
    Calls Tryz.prog 143 #[.agg (lmc v)] w fun e w' => e = .returned (.tuple #[.agg (lmc (spreadL v)), .int .u64 (spreadC v)]) ∧ Below w.heap.size w w' := by
  obtain ⟨hz, hi⟩ := zero_of_info infoN
  have HL := Lib.hid hl
  have HV := Lib.hid hv
  have HG0 := Lib.hid (blk_old (o := .cells zeros5 155) (blk_new w (.cells (lmc v) 155)))
  have HR0 := Lib.hid (blk_new2 w (.cells (lmc v) 155) (.cells zeros5 155))
  have hb0 := below_new2 w (.cells (lmc v) 155) (.cells zeros5 155)
  clear hi hl hv
  go_enter Tryz.func143, Tryz.ntmps143
  go_wp2_with fail
  clear hz
  generalize ((w.alloc _).alloc _) = W0 at *
  generalize hBB : w.heap.size = B at *
  have HBB := Lib.hid hBB
  clear hBB
  go_loopw [4, 6] (fun c i wr => ∃ k : Nat, k ≤ 5 ∧ i = .int .i64 (k : Int) ∧ c = .int .u64 (spG v k).2 ∧ wr.heap[B]? = some (.cells (lmc (spG v k).1) 155) ∧ wr.heap[B + 1]? = some (.cells zeros5 155) ∧ Below B w wr) (fun _ i _ => 5 - (intOf i).toNat)
  case atStart => exact ⟨0, by omega, rfl, rfl, HG0.out, HR0.out, hb0⟩
  case round =>
    clear HG0 HR0 hb0
    obtain ⟨k, hk, rfl, rfl, hg, hr, hb⟩ := hrel
    have HG := Lib.hid hg; have HR := Lib.hid hr
    clear hg hr
    by_cases hlt : k < 5
    · have hd : decide ((k : Int) < 5) = true := by simp; omega
      obtain ⟨c0, c1⟩ := spG_carry v HV.out k (by rw [HL.out]; omega)
      obtain ⟨x0, x1⟩ := getD_in HV.out k (by rw [HL.out]; omega)
      rw [← spG_get v k k (Nat.le_refl _)] at x0 x1
      have HS1 : Hid ((spG v (k + 1)).1 = (spG v k).1.set k (((spG v k).1.getD k 0 + (spG v k).2) % 67108864)) := Lib.hid rfl
      have HS2 : Hid ((spG v (k + 1)).2 = ((spG v k).1.getD k 0 + (spG v k).2) / 67108864) := Lib.hid rfl
      have hll : (spG v k).1.length = 5 := by rw [spG_length, HL.out]
      generalize (spG v k).1 = u at *
      generalize (spG v k).2 = c at *
      have cx := lmc_cell HG.out k (by omega)
      have fx := frozen_of_row wr B k _ _ HG.out
      have e1 : (u.set k (u.getD k 0 + c)).getD k 0 = u.getD k 0 + c := by simp [List.getD_eq_getElem?_getD, hll, hlt]
      have r1 := lmc_heap_set HG.out k (u.getD k 0 + c)
      have cy := lmc_cell r1 k (by rw [List.length_set]; omega)
      rw [e1] at cy
      have fy := frozen_of_row _ B k _ _ r1
      have r2 := lmc_heap_set r1 k ((u.getD k 0 + c) % 67108864)
      rw [List.set_set] at r2
      generalize u.getD k 0 = x at *
      rw [← HS1.out] at r2
      have hw : (x + c) % 18446744073709551616 = x + c := by omega
      have ha := and_26 (x + c)
      have HR1 := Lib.hid (show (wr.setCell ⟨B, k, none⟩ (.int .u64 (x + c))).heap[B + 1]? = some (.cells zeros5 155) from by rw [heap_setCell_other _ _ _ _ (by simp)]; exact HR.out)
      have HR2 := Lib.hid (show ((wr.setCell ⟨B, k, none⟩ (.int .u64 (x + c))).setCell ⟨B, k, none⟩ (.int .u64 ((x + c) % 67108864))).heap[B + 1]? = some (.cells zeros5 155) from by rw [heap_setCell_other _ _ _ _ (by simp)]; exact HR1.out)
      have HG2 := Lib.hid r2
      have hb2 : Below B w ((wr.setCell ⟨B, k, none⟩ (.int .u64 (x + c))).setCell ⟨B, k, none⟩ (.int .u64 ((x + c) % 67108864))) := (hb.setCell (by simp) _).setCell (by simp) _
      clear r1 r2 e1 hll hb HR HR1 HG
      go_wp2_with fail
      go_roundw
      case rel => exact ⟨k + 1, by omega, by go_num, by rw [HS2.out], HG2.out, HR2.out, hb2⟩
      case measure => simp [intOf]; omega
    · have hd : decide ((k : Int) < 5) = false := by simp; omega
      obtain rfl : k = 5 := by omega
      have HG2 : Hid (wr.heap[B]? = some (.cells (lmc (spreadL v)) 155)) := HG
      have hll : (spreadL v).length = 5 := by rw [spreadL_length, HL.out]
      have hC : (spG v 5).2 = spreadC v := rfl
      rw [hC]
      clear HG hC
      generalize hrow : spreadL v = row at *
      have HROW := Lib.hid hrow
      clear hrow
      have HI := Lib.hid (sizeN row hll)
      have HO := Lib.hid (zeros5_size row hll)
      have H1 := Lib.hid (lmc_one row)
      go_wp2_with (first
        | (with_reducible refine wpList_load_row rfl 155 _ rfl B rfl 155 _ (0, 0) _ HG2.out Tryz.underlying155 rfl HI.out ?_)
        | (with_reducible refine wpList_store_row rfl 155 _ _ rfl (B + 1) (lmc row) rfl rfl 155 _ HR.out HI.out HO.out H1.out ?_))
      exact bodyPost_ret (results_row_tmp (by rfl) _ _ (B + 1) 155 _ (0, 0) _ rfl (setRow_heap _ _ _ _ _ _ HR.out) Tryz.underlying155 rfl HI.out) rfl ⟨by rw [HROW.out]; rfl, by rw [HBB.out]; exact below_setRow hb (by omega) _⟩

set_option maxHeartbeats 1000000 in
theorem ownCarried_any (v : List Int) (w : World) (hl : v.length = 5) (hv : digitsIn 4611686018427387904 v) :
    Calls Tryz.prog 156 #[.agg (lmc v)] w fun e w' => e = .returned (.agg (lmc (carrL v))) ∧ Below w.heap.size w w' := by
  obtain ⟨hz, hi⟩ := zero_of_info infoN
  have HG0 := Lib.hid (blk_old (o := .cells zeros5 155) (blk_new w (.cells (lmc v) 155)))
  have HR0 := Lib.hid (blk_new2 w (.cells (lmc v) 155) (.cells zeros5 155))
  have hb0 := below_new2 w (.cells (lmc v) 155) (.cells zeros5 155)
  have HIv := Lib.hid (sizeN v hl)
  have HC := Lib.hid (fun W => spread_any v W hl hv)
  have hll : (spreadL v).length = 5 := by rw [spreadL_length, hl]
  have hcl : (carrL v).length = 5 := by rw [carrL_length, hl]
  have hx := getD_in (spreadL_in v hl) 0 (by omega)
  have hc := spG_carry v hv 5 (by omega)
  have HCA : Hid (carrL v = (spreadL v).set 0 ((spreadL v).getD 0 0 + 5 * spreadC v)) := Lib.hid rfl
  have hcc : (spG v 5).2 = spreadC v := rfl
  rw [hcc] at hc
  clear hi hl hv hcc
  go_enter Tryz.func156, Tryz.ntmps156
  go_wp2_with (with_reducible refine wpList_load_row rfl 155 _ rfl w.heap.size rfl 155 _ (0, 0) _ HG0.out Tryz.underlying155 rfl HIv.out ?_)
  clear hz
  generalize ((w.alloc _).alloc _) = W0 at *
  generalize hBB : w.heap.size = B at *
  have HBB := Lib.hid hBB
  clear hBB
  refine (HC.out W0).mono ?_
  rintro e W1 ⟨rfl, hb1⟩
  have hlt0 := blk_lt HR0.out
  have HG := Lib.hid (blk_below hb1 (by omega) HG0.out)
  have HR := Lib.hid (blk_below hb1 hlt0 HR0.out)
  have hb : Below B w W1 := hb0.trans (hb1.mono (by omega))
  clear HC HG0 HR0 hb0 hb1 hlt0
  generalize spreadL v = u at *
  generalize spreadC v = c at *
  have HI := Lib.hid (sizeN u hll)
  have HSz := Lib.hid (show (lmc v).size = (lmc u).size from by have := HIv.out; rw [HI.out] at this; simpa using this.symm)
  have H1 := Lib.hid (lmc_one u)
  have rg := setRow_heap W1 B (lmc v) (lmc u) _ _ HG.out
  have rr : (W1.setRow B (lmc u)).heap[B + 1]? = some (.cells zeros5 155) := by rw [setRow_other _ _ _ _ (by omega)]; exact HR.out
  have cx := lmc_cell rg 0 (by omega)
  have fx := frozen_of_row _ B 0 _ _ rg
  have r2 := lmc_heap_set rg 0 (u.getD 0 0 + 5 * c)
  rw [← HCA.out] at r2
  have rr2 : ((W1.setRow B (lmc u)).setCell ⟨B, 0, none⟩ (.int .u64 (u.getD 0 0 + 5 * c))).heap[B + 1]? = some (.cells zeros5 155) := by rw [heap_setCell_other _ _ _ _ (by simp)]; exact rr
  have hb2 : Below B w ((W1.setRow B (lmc u)).setCell ⟨B, 0, none⟩ (.int .u64 (u.getD 0 0 + 5 * c))) := (below_setRow hb (Nat.le_refl _) _).setCell (by simp) _
  have HRG := Lib.hid r2
  have HRR := Lib.hid rr2
  generalize u.getD 0 0 = x at *
  clear rg rr r2 rr2 hb HR
  generalize hrow : carrL v = row at *
  have HROW := Lib.hid hrow
  clear hrow
  have HI2 := Lib.hid (sizeN row hcl)
  have HO := Lib.hid (zeros5_size row hcl)
  have H2 := Lib.hid (lmc_one row)
  have hw : (x + 5 * c) % 18446744073709551616 = x + 5 * c := by omega
  have hw2 : (5 * c) % 18446744073709551616 = 5 * c := by omega
  go_wp2_with (first
    | (with_reducible refine wpList_store_row rfl 155 _ _ rfl B (lmc u) rfl rfl 155 _ HG.out HI.out HSz.out H1.out ?_)
    | (with_reducible refine wpList_load_row rfl 155 _ rfl B rfl 155 _ (0, 0) _ HRG.out Tryz.underlying155 rfl HI2.out ?_)
    | (with_reducible refine wpList_store_row rfl 155 _ _ rfl (B + 1) (lmc row) rfl rfl 155 _ HRR.out HI2.out HO.out H2.out ?_))
  exact bodyPost_ret (v := .agg (lmc row)) (results_cell_row (by rfl) _ _ (B + 1) 155 _ (0, 0) _ rfl (setRow_heap _ _ _ _ _ _ HRR.out) Tryz.underlying155 rfl HI2.out) rfl ⟨by first | (with_reducible rfl) | rw [HROW.out], by rw [HBB.out]; exact below_setRow hb2 (by omega) _⟩

set_option maxHeartbeats 1000000 in
theorem plus_any (v d : List Int) (w : World) (hl : v.length = 5) (hdl : d.length = 5) (hv : digitsIn 4611686018427387904 v) (hdv : digitsIn 4611686018427387904 d) :
    Calls Tryz.prog 123 #[.agg (lmc v), .agg (lmc d)] w fun e w' => e = .returned (.agg (lmc (sumL v d 5))) ∧ Below w.heap.size w w' := by
  obtain ⟨hz, hi⟩ := zero_of_info infoN
  have HL := Lib.hid hl; have HDL := Lib.hid hdl
  have HV := Lib.hid hv; have HDV := Lib.hid hdv
  have HG0 := Lib.hid (blk_old (o := .cells zeros5 155) (blk_old (o := .cells (lmc d) 155) (blk_new w (.cells (lmc v) 155))))
  have HD0 := Lib.hid (blk_old (o := .cells zeros5 155) (blk_new2 w (.cells (lmc v) 155) (.cells (lmc d) 155)))
  have HR0 := Lib.hid (blk_new3 w (.cells (lmc v) 155) (.cells (lmc d) 155) (.cells zeros5 155))
  have hb0 := below_new3 w (.cells (lmc v) 155) (.cells (lmc d) 155) (.cells zeros5 155)
  clear hi hl hdl hv hdv
  go_enter Tryz.func123, Tryz.ntmps123
  go_wp2_with fail
  clear hz
  generalize (((w.alloc _).alloc _).alloc _) = W0 at *
  generalize hBB : w.heap.size = B at *
  have HBB := Lib.hid hBB
  clear hBB
  go_loopw [6] (fun i wr => ∃ k : Nat, k ≤ 5 ∧ i = .int .i64 (k : Int) ∧ wr.heap[B]? = some (.cells (lmc (sumL v d k)) 155) ∧ wr.heap[B + 1]? = some (.cells (lmc d) 155) ∧ wr.heap[B + 1 + 1]? = some (.cells zeros5 155) ∧ Below B w wr) (fun i _ => 5 - (intOf i).toNat)
  case atStart => exact ⟨0, by omega, rfl, HG0.out, HD0.out, HR0.out, hb0⟩
  case round =>
    clear HG0 HD0 HR0 hb0
    obtain ⟨k, hk, rfl, hg, hdd, hr, hb⟩ := hrel
    have HG := Lib.hid hg; have HD := Lib.hid hdd; have HR := Lib.hid hr
    clear hg hr hdd
    by_cases hlt : k < 5
    · have hd : decide ((k : Int) < 5) = true := by simp; omega
      obtain ⟨x0, x1⟩ := getD_in HV.out k (by rw [HL.out]; omega)
      obtain ⟨y0, y1⟩ := getD_in HDV.out k (by rw [HDL.out]; omega)
      rw [← sumL_get v d k k (Nat.le_refl _)] at x0 x1
      have HS : Hid (sumL v d (k + 1) = (sumL v d k).set k ((sumL v d k).getD k 0 + d.getD k 0)) := Lib.hid rfl
      have hll : (sumL v d k).length = 5 := by rw [sumL_length, HL.out]
      have cx := lmc_cell HG.out k (by omega)
      have cy := lmc_cell HD.out k (by rw [HDL.out]; omega)
      generalize hxx : (sumL v d k).getD k 0 = x at *
      have HX := Lib.hid hxx
      generalize d.getD k 0 = y at *
      have hw : (x + y) % 18446744073709551616 = x + y := by omega
      clear hxx
      go_wp2_with fail
      have ka := cell_regrown cx; have kb := cell_regrown cy
      refine wp_region_reads_tail 8 (by kernel_rfl) (by kernel_rfl) ?_
      simp only [List.take_succ_cons, List.take_zero, List.drop_succ_cons, List.drop_zero]
      repeat (first | go_big_quiet_step (fail) | quiet_step (fail))
      refine wpQuiet_nil ?_
      intro W1 hb1
      have hlw := blk_lt HR.out
      have hG1 := blk_below hb1 (by omega) HG.out
      have hD1 := blk_below hb1 (by omega) HD.out
      have hR1 := blk_below hb1 hlw HR.out
      have fx := frozen_of_row W1 B k _ _ hG1
      have cz := lmc_cell hG1 k (by omega)
      rw [HX.out] at cz
      have r1 := lmc_heap_set hG1 k (x + y)
      rw [← HS.out] at r1
      have HG2 := Lib.hid r1
      have HD2 := Lib.hid (show (W1.setCell ⟨B, k, none⟩ (.int .u64 (x + y))).heap[B + 1]? = some (.cells (lmc d) 155) from by rw [heap_setCell_other _ _ _ _ (by simp)]; exact hD1)
      have HR2 := Lib.hid (show (W1.setCell ⟨B, k, none⟩ (.int .u64 (x + y))).heap[B + 1 + 1]? = some (.cells zeros5 155) from by rw [heap_setCell_other _ _ _ _ (by simp; omega)]; exact hR1)
      have hb2 : Below B w (W1.setCell ⟨B, k, none⟩ (.int .u64 (x + y))) := (hb.trans (hb1.mono (by omega))).setCell (by simp) _
      clear r1 hll hb HR HG HD HS ka kb cx cy hG1 hD1 hR1 hlw hb1 HX
      go_wp2_with fail
      go_roundw
      case rel => exact ⟨k + 1, by omega, by go_num, HG2.out, HD2.out, HR2.out, hb2⟩
      case measure => simp [intOf]; omega
    · have hd : decide ((k : Int) < 5) = false := by simp; omega
      obtain rfl : k = 5 := by omega
      have hll : (sumL v d 5).length = 5 := by rw [sumL_length, HL.out]
      generalize hrow : sumL v d 5 = row at *
      have HROW := Lib.hid hrow
      clear hrow
      have HI := Lib.hid (sizeN row hll)
      have HO := Lib.hid (zeros5_size row hll)
      have H1 := Lib.hid (lmc_one row)
      go_wp2_with (first
        | (with_reducible refine wpList_load_row rfl 155 _ rfl B rfl 155 _ (0, 0) _ HG.out Tryz.underlying155 rfl HI.out ?_)
        | (with_reducible refine wpList_store_row rfl 155 _ _ rfl (B + 1 + 1) (lmc row) rfl rfl 155 _ HR.out HI.out HO.out H1.out ?_))
      exact bodyPost_ret (v := .agg (lmc row)) (results_cell_row (by rfl) _ _ (B + 1 + 1) 155 _ (0, 0) _ rfl (setRow_heap _ _ _ _ _ _ HR.out) Tryz.underlying155 rfl HI.out) rfl ⟨by first | (with_reducible rfl) | rw [HROW.out], by rw [HBB.out]; exact below_setRow hb (by omega) _⟩
end

section
open Go.RowKit Go.Sort
set_option maxRecDepth 100000
set_option linter.unusedSimpArgs false
set_option linter.unusedVariables false

theorem blk_new4 (w : World) (P R A D : Obj) : ((((w.alloc P).alloc R).alloc A).alloc D).heap[w.heap.size + 1 + 1 + 1]? = some D := by
  have := blk_new (((w.alloc P).alloc R).alloc A) D
  simpa using this
theorem below_new4 (w : World) (P R A D : Obj) : Below w.heap.size w ((((w.alloc P).alloc R).alloc A).alloc D) := (below_new3 w P R A).alloc (by simp; omega) _
def wzeros10 : Array Value := lmc (List.replicate 10 0)
theorem winfo10 : (Tryz.prog.info? 193).map (fun i => (i.zero, i.size)) = some (some (.agg wzeros10), 10) := by kernel_rfl

set_option maxHeartbeats 2000000 in
theorem ownTimes_any (v d : List Int) (w : World) (hl : v.length = 5) (hdl : d.length = 5) (hv : digitsIn 268435455 v) (hdv : digitsIn 67108863 d) :
    Calls Tryz.prog 142 #[.agg (lmc v), .agg (lmc d)] w fun e w' => e = .returned (.agg (lmc (timesL v d))) ∧ Below w.heap.size w w' := by
  obtain ⟨hz, hi⟩ := zero_of_info infoN
  obtain ⟨hz10, hi10⟩ := zero_of_info winfo10
  obtain ⟨_, _, _, tw, tf, tc⟩ := times_spec v d hl hdl hv hdv
  have HW := Lib.hid tw; have HF := Lib.hid tf; have HC := Lib.hid tc
  have HWI := Lib.hid (wAll_in v d hv hdv hl hdl)
  have HRI := Lib.hid (fun i out n (hi : i < 5) (hol : out.length = 10) ho k hk => wRow_in v d out i n hv hdv hl hdl hi hol ho k hk)
  have HL := Lib.hid hl; have HDL := Lib.hid hdl
  have HV := Lib.hid hv; have HDV := Lib.hid hdv
  have HG0 := Lib.hid (blk_old (o := .cells wzeros10 193) (blk_old (o := .cells zeros5 155) (blk_old (o := .cells (lmc d) 155) (blk_new w (.cells (lmc v) 155)))))
  have HD0 := Lib.hid (blk_old (o := .cells wzeros10 193) (blk_old (o := .cells zeros5 155) (blk_new2 w (.cells (lmc v) 155) (.cells (lmc d) 155))))
  have HR0 := Lib.hid (blk_old (o := .cells wzeros10 193) (blk_new3 w (.cells (lmc v) 155) (.cells (lmc d) 155) (.cells zeros5 155)))
  have HW0 := Lib.hid (blk_new4 w (.cells (lmc v) 155) (.cells (lmc d) 155) (.cells zeros5 155) (.cells wzeros10 193))
  have hb0 := below_new4 w (.cells (lmc v) 155) (.cells (lmc d) 155) (.cells zeros5 155) (.cells wzeros10 193)
  clear hi hi10 hl hdl hv hdv tw tf tc
  go_enter Tryz.func142, Tryz.ntmps142
  go_wp2_with fail
  clear hz hz10
  generalize ((((w.alloc _).alloc _).alloc _).alloc _) = W0 at *
  generalize hBB : w.heap.size = B at *
  have HBB := Lib.hid hBB
  clear hBB
  go_loopw [9] (fun iv wr => ∃ i : Nat, i ≤ 5 ∧ iv = .int .i64 (i : Int) ∧ wr.heap[B]? = some (.cells (lmc v) 155) ∧ wr.heap[B + 1]? = some (.cells (lmc d) 155) ∧ wr.heap[B + 1 + 1]? = some (.cells zeros5 155) ∧ wr.heap[B + 1 + 1 + 1]? = some (.cells (lmc (wAll v d i)) 193) ∧ Below B w wr) (fun iv _ => 5 - (intOf iv).toNat)
  case atStart => exact ⟨0, by omega, rfl, HG0.out, HD0.out, HR0.out, HW0.out, hb0⟩
  case round =>
    clear HG0 HD0 HR0 HW0 hb0
    obtain ⟨i, hi, rfl, hg, hdd, hr, hww, hb⟩ := hrel
    have HG := Lib.hid hg; have HD := Lib.hid hdd; have HR := Lib.hid hr; have HO := Lib.hid hww
    clear hg hr hdd hww
    by_cases hlt : i < 5
    · have hd : decide ((i : Int) < 5) = true := by simp; omega
      have HNX : Hid (wAll v d (i + 1) = wRow v d (wAll v d i) i 5) := Lib.hid rfl
      have HAl := Lib.hid (wAll_length v d i)
      have HAi := Lib.hid (HWI.out i hi)
      generalize wAll v d i = u at *
      go_wp2_with fail
      go_loopw [12] (fun jv wr => ∃ j : Nat, j ≤ 5 ∧ jv = .int .i64 (j : Int) ∧ wr.heap[B]? = some (.cells (lmc v) 155) ∧ wr.heap[B + 1]? = some (.cells (lmc d) 155) ∧ wr.heap[B + 1 + 1]? = some (.cells zeros5 155) ∧ wr.heap[B + 1 + 1 + 1]? = some (.cells (lmc (wRow v d u i j)) 193) ∧ Below B w wr) (fun jv _ => 5 - (intOf jv).toNat)
      case atStart => exact ⟨0, by omega, rfl, HG.out, HD.out, HR.out, HO.out, hb⟩
      case round =>
        clear HG HD HR HO hb
        obtain ⟨j, hj, rfl, hg, hdd, hr, hww, hb⟩ := hrel
        have HG := Lib.hid hg; have HD := Lib.hid hdd; have HR := Lib.hid hr; have HO := Lib.hid hww
        clear hg hr hdd hww
        by_cases hjlt : j < 5
        · have hdj : decide ((j : Int) < 5) = true := by simp; omega
          have HS : Hid (wRow v d u i (j + 1) = (wRow v d u i j).set (i + j) ((wRow v d u i j).getD (i + j) 0 + v.getD i 0 * d.getD j 0)) := Lib.hid rfl
          have hrl : (wRow v d u i j).length = 10 := by rw [wRow_length, HAl.out]
          obtain ⟨x0, x1⟩ := getD_in HV.out i (by rw [HL.out]; omega)
          obtain ⟨y0, y1⟩ := getD_in HDV.out j (by rw [HDL.out]; omega)
          obtain ⟨z0, z1⟩ := getD_in (HRI.out i u (5 * i) hlt HAl.out HAi.out j hj) (i + j) (by omega)
          have cx := lmc_cell HG.out i (by rw [HL.out]; omega)
          have cy := lmc_cell HD.out j (by rw [HDL.out]; omega)
          have cz := lmc_cell HO.out (i + j) (by omega)
          generalize v.getD i 0 = x at *
          generalize d.getD j 0 = y at *
          generalize hzz : (wRow v d u i j).getD (i + j) 0 = z at *
          have HZ := Lib.hid hzz
          clear hzz
          have p0 : 0 ≤ x * y := Int.mul_nonneg x0 y0
          have p1 : x * y ≤ 268435455 * 67108863 := Int.mul_le_mul x1 y1 y0 (by omega)
          have hw1 : (x * y) % 18446744073709551616 = x * y := by omega
          have hw2 : (z + x * y) % 18446744073709551616 = z + x * y := by omega
          have hij : ((i : Int) + (j : Int)).toNat = i + j := by omega
          clear x0 x1 y0 y1 z0 z1
          go_wp2_with fail
          have ka := cell_regrown cx; have kb := cell_regrown cy; have kc := cell_regrown cz
          refine wp_region_reads_tail 14 (by kernel_rfl) (by kernel_rfl) ?_
          simp only [List.take_succ_cons, List.take_zero, List.drop_succ_cons, List.drop_zero]
          repeat (first | go_big_quiet_step (fail) | quiet_step (fail))
          refine wpQuiet_nil ?_
          intro W1 hb1
          have hlw := blk_lt HO.out
          have hG1 := blk_below hb1 (by omega) HG.out
          have hD1 := blk_below hb1 (by omega) HD.out
          have hR1 := blk_below hb1 (by omega) HR.out
          have hO1 := blk_below hb1 hlw HO.out
          have fx := frozen_of_row W1 (B + 1 + 1 + 1) (i + j) _ _ hO1
          have cu := lmc_cell hO1 (i + j) (by omega)
          rw [HZ.out] at cu
          have r1 := lmc_heap_set hO1 (i + j) (z + x * y)
          rw [← HS.out] at r1
          have HO2 := Lib.hid r1
          have HG2 := Lib.hid (show (W1.setCell ⟨B + 1 + 1 + 1, i + j, none⟩ (.int .u64 (z + x * y))).heap[B]? = some (.cells (lmc v) 155) from by rw [heap_setCell_other _ _ _ _ (by simp <;> omega)]; exact hG1)
          have HD2 := Lib.hid (show (W1.setCell ⟨B + 1 + 1 + 1, i + j, none⟩ (.int .u64 (z + x * y))).heap[B + 1]? = some (.cells (lmc d) 155) from by rw [heap_setCell_other _ _ _ _ (by simp <;> omega)]; exact hD1)
          have HR2 := Lib.hid (show (W1.setCell ⟨B + 1 + 1 + 1, i + j, none⟩ (.int .u64 (z + x * y))).heap[B + 1 + 1]? = some (.cells zeros5 155) from by rw [heap_setCell_other _ _ _ _ (by simp)]; exact hR1)
          have hb2 : Below B w (W1.setCell ⟨B + 1 + 1 + 1, i + j, none⟩ (.int .u64 (z + x * y))) := (hb.trans (hb1.mono (by omega))).setCell (by simp; omega) _
          clear r1 hrl hb HR HG HD HO HS HZ ka kb kc cx cy cz hG1 hD1 hR1 hO1 hlw hb1
          go_wp2_with fail
          go_roundw
          case rel => exact ⟨j + 1, by omega, by go_num, HG2.out, HD2.out, HR2.out, HO2.out, hb2⟩
          case measure => simp [intOf]; omega
        · have hdj : decide ((j : Int) < 5) = false := by simp; omega
          obtain rfl : j = 5 := by omega
          rw [← HNX.out] at HO
          go_wp2_with fail
          go_roundw
          case rel => exact ⟨i + 1, by omega, by go_num, HG.out, HD.out, HR.out, HO.out, hb⟩
          case measure => simp [intOf]; omega
    · have hd : decide ((i : Int) < 5) = false := by simp; omega
      obtain rfl : i = 5 := by omega
      rw [show ((5 : Nat) : Int) = (5 : Int) from rfl] at *
      have HAl := Lib.hid (wAll_length v d 5)
      have HTM : Hid (timesL v d = carrL (carrL (foldG v (wAll v d 5) 5))) := Lib.hid rfl
      clear HWI HRI
      generalize wAll v d 5 = u at *
      go_wp2_with fail
      go_loopw [31] (fun kv wr => ∃ k : Nat, k ≤ 5 ∧ kv = .int .i64 (k : Int) ∧ wr.heap[B]? = some (.cells (lmc (foldG v u k)) 155) ∧ wr.heap[B + 1 + 1]? = some (.cells zeros5 155) ∧ wr.heap[B + 1 + 1 + 1]? = some (.cells (lmc u) 193) ∧ Below B w wr) (fun kv _ => 5 - (intOf kv).toNat)
      case atStart => exact ⟨0, by omega, rfl, HG.out, HR.out, HO.out, hb⟩
      case round =>
        clear HG HD HR HO hb hd
        obtain ⟨k, hk, rfl, hg, hr, hww, hb⟩ := hrel
        have HG := Lib.hid hg; have HR := Lib.hid hr; have HO := Lib.hid hww
        clear hg hr hww
        by_cases hklt : k < 5
        · have hdk : decide ((k : Int) < 5) = true := by simp; omega
          have HS : Hid (foldG v u (k + 1) = (foldG v u k).set k (u.getD k 0 + 5 * u.getD (5 + k) 0)) := Lib.hid rfl
          have hfl : (foldG v u k).length = 5 := by rw [foldG_length, HL.out]
          obtain ⟨x0, x1⟩ := getD_in HW.out k (by rw [HAl.out]; omega)
          obtain ⟨y0, y1⟩ := getD_in HW.out (5 + k) (by rw [HAl.out]; omega)
          have cx := lmc_cell HO.out k (by rw [HAl.out]; omega)
          have cy := lmc_cell HO.out (5 + k) (by rw [HAl.out]; omega)
          generalize u.getD k 0 = x at *
          generalize u.getD (5 + k) 0 = y at *
          have hw1 : (5 * y) % 18446744073709551616 = 5 * y := by omega
          have hw2 : (x + 5 * y) % 18446744073709551616 = x + 5 * y := by omega
          have hij : (5 + (k : Int)).toNat = 5 + k := by omega
          clear x0 x1 y0 y1
          go_wp2_with fail
          have ka := cell_regrown cx; have kb := cell_regrown cy
          refine wp_region_reads_tail 11 (by kernel_rfl) (by kernel_rfl) ?_
          simp only [List.take_succ_cons, List.take_zero, List.drop_succ_cons, List.drop_zero]
          repeat (first | go_big_quiet_step (fail) | quiet_step (fail))
          refine wpQuiet_nil ?_
          intro W1 hb1
          have hlw := blk_lt HO.out
          have hG1 := blk_below hb1 (by omega) HG.out
          have hR1 := blk_below hb1 (by omega) HR.out
          have hO1 := blk_below hb1 hlw HO.out
          have fx := frozen_of_row W1 B k _ _ hG1
          have cu := lmc_cell hG1 k (by omega)
          generalize (foldG v u k).getD k 0 = old at *
          have r1 := lmc_heap_set hG1 k (x + 5 * y)
          rw [← HS.out] at r1
          have HG2 := Lib.hid r1
          have HR2 := Lib.hid (show (W1.setCell ⟨B, k, none⟩ (.int .u64 (x + 5 * y))).heap[B + 1 + 1]? = some (.cells zeros5 155) from by rw [heap_setCell_other _ _ _ _ (by simp; try omega)]; exact hR1)
          have HO2 := Lib.hid (show (W1.setCell ⟨B, k, none⟩ (.int .u64 (x + 5 * y))).heap[B + 1 + 1 + 1]? = some (.cells (lmc u) 193) from by rw [heap_setCell_other _ _ _ _ (by simp <;> omega)]; exact hO1)
          have hb2 : Below B w (W1.setCell ⟨B, k, none⟩ (.int .u64 (x + 5 * y))) := (hb.trans (hb1.mono (by omega))).setCell (by simp) _
          clear r1 hfl hb HR HG HO HS ka kb cx cy hG1 hR1 hO1 hlw hb1
          go_wp2_with fail
          go_roundw
          case rel => exact ⟨k + 1, by omega, by go_num, HG2.out, HR2.out, HO2.out, hb2⟩
          case measure => simp [intOf]; omega
        · have hdk : decide ((k : Int) < 5) = false := by simp; omega
          obtain rfl : k = 5 := by omega
          have hfl : (foldG v u 5).length = 5 := by rw [foldG_length, HL.out]
          have HFI := Lib.hid (show digitsIn 4611686018427387904 (foldG v u 5) from fun x hx => by obtain ⟨a, b⟩ := HF.out x hx; exact ⟨a, by omega⟩)
          have HCI := Lib.hid (show digitsIn 4611686018427387904 (carrL (foldG v u 5)) from fun x hx => by obtain ⟨a, b⟩ := HC.out x hx; exact ⟨a, by omega⟩)
          clear HF HC HW
          generalize foldG v u 5 = f at *
          have HI := Lib.hid (sizeN f hfl)
          have HFL := Lib.hid hfl
          clear hfl
          go_wp2_with (with_reducible refine wpList_load_row rfl 155 _ rfl B rfl 155 _ (0, 0) _ HG.out Tryz.underlying155 rfl HI.out ?_)
          refine (ownCarried_any f wr HFL.out HFI.out).mono ?_
          rintro e W1 ⟨rfl, hb1⟩
          have hcl : (carrL f).length = 5 := by rw [carrL_length, HFL.out]
          generalize carrL f = g at *
          have HCL := Lib.hid hcl
          clear hcl
          have hlw := blk_lt HO.out
          have HR1 := Lib.hid (blk_below hb1 (by omega) HR.out)
          have hbb : Below B w W1 := hb.trans (hb1.mono (by omega))
          clear HR HG HO hb hlw hb1
          go_wp2_with fail
          refine (ownCarried_any g W1 HCL.out HCI.out).mono ?_
          rintro e W2 ⟨rfl, hb2⟩
          have hcl : (carrL g).length = 5 := by rw [carrL_length, HCL.out]
          rw [← HTM.out] at hcl
          rw [← HTM.out]
          have hlw := blk_lt HR1.out
          have HR2 := Lib.hid (blk_below hb2 (by omega) HR1.out)
          have hb3 : Below B w W2 := hbb.trans (hb2.mono (by omega))
          generalize hrow : timesL v d = row at *
          have HROW := Lib.hid hrow
          have HI2 := Lib.hid (sizeN row hcl)
          have HO2 := Lib.hid (zeros5_size row hcl)
          have H2 := Lib.hid (lmc_one row)
          clear hrow hcl hlw hbb hb2 HR1
          go_wp2_with (with_reducible refine wpList_store_row rfl 155 _ _ rfl (B + 1 + 1) (lmc row) rfl rfl 155 _ HR2.out HI2.out HO2.out H2.out ?_)
          exact bodyPost_ret (v := .agg (lmc row)) (results_cell_row (by rfl) _ _ (B + 1 + 1) 155 _ (0, 0) _ rfl (setRow_heap _ _ _ _ _ _ HR2.out) Tryz.underlying155 rfl HI2.out) rfl ⟨by first | (with_reducible rfl) | rw [HROW.out], by rw [HBB.out]; exact below_setRow hb3 (by omega) _⟩

set_option maxHeartbeats 1000000 in
theorem reduced_any (v : List Int) (w : World) (hl : v.length = 5) (hv : digitsIn 4611686018427387 v) (hV : limV v < 1361129467683753853853498429727072845824) :
    Calls Tryz.prog 122 #[.agg (lmc v)] w fun e w' => e = .returned (.agg (lmc (reducedL v))) ∧ Below w.heap.size w w' := by
  obtain ⟨hz, hi⟩ := zero_of_info infoN
  have HG0 := Lib.hid (blk_old (o := .cells zeros5 155) (blk_new w (.cells (lmc v) 155)))
  have HR0 := Lib.hid (blk_new2 w (.cells (lmc v) 155) (.cells zeros5 155))
  have hb0 := below_new2 w (.cells (lmc v) 155) (.cells zeros5 155)
  have HIv := Lib.hid (sizeN v hl)
  have hv62 : digitsIn 4611686018427387904 v := fun x hx => by obtain ⟨a, b⟩ := hv x hx; exact ⟨a, by omega⟩
  have h5in : digitsIn 5 [5, 0, 0, 0, 0] := fun x hx => by simp at hx; omega
  have hsin := sumIn v [5, 0, 0, 0, 0] hl rfl _ _ hv h5in
  have HP := Lib.hid (fun W => plus_any v [5, 0, 0, 0, 0] W hl rfl hv62 (fun x hx => by obtain ⟨a, b⟩ := h5in x hx; exact ⟨a, by omega⟩))
  have hsl : (sumL v [5, 0, 0, 0, 0] 5).length = 5 := by rw [sumL_length, hl]
  have HS := Lib.hid (fun W => spread_any (sumL v [5, 0, 0, 0, 0] 5) W hsl (fun x hx => by obtain ⟨a, b⟩ := hsin x hx; exact ⟨a, by omega⟩))
  have hspl : (spreadL (sumL v [5, 0, 0, 0, 0] 5)).length = 5 := by rw [spreadL_length, hsl]
  have hV0 := limV_nonneg v _ hv
  have hc : 0 ≤ spreadC (sumL v [5, 0, 0, 0, 0] 5) ∧ spreadC (sumL v [5, 0, 0, 0, 0] 5) ≤ 1 := by
    rw [(spread_V _ hsl).2, sumV v _ hl rfl, show limV [5, 0, 0, 0, 0] = 5 by decide]; omega
  have HRD : Hid (reducedL v = spreadL (v.set 0 (v.getD 0 0 + 5 * spreadC (sumL v [5, 0, 0, 0, 0] 5)))) := Lib.hid rfl
  have hrl : (reducedL v).length = 5 := by rw [reducedL_length, hl]
  obtain ⟨x0, x1⟩ := getD_in hv 0 (by omega)
  have HS2 := Lib.hid (fun W => spread_any (v.set 0 (v.getD 0 0 + 5 * spreadC (sumL v [5, 0, 0, 0, 0] 5))) W (by simpa using hl) (digitsIn_set hv (by omega) 0 _ (by omega) (by omega)))
  have HVL := Lib.hid hl
  have hlm5 : lmc [5, 0, 0, 0, 0] = #[.int .u64 5, .int .u64 0, .int .u64 0, .int .u64 0, .int .u64 0] := rfl
  have HZ := Lib.hid hz
  clear hi hl hv hv62 h5in hsin hsl hV hV0
  go_enter Tryz.func122, Tryz.ntmps122
  go_wp2_with (with_reducible refine wpList_load_row rfl 155 _ rfl w.heap.size rfl 155 _ (0, 0) _ HG0.out Tryz.underlying155 rfl HIv.out ?_)
  rw [show zeros5.setIfInBounds 0 (Value.int .u64 5) = lmc [5, 0, 0, 0, 0] by rw [zeros5, lmc_set]; rfl]
  generalize ((w.alloc _).alloc _) = W0 at *
  generalize hBB : w.heap.size = B at *
  have HBB := Lib.hid hBB
  clear hBB
  refine (HP.out W0).mono ?_
  rintro e W1 ⟨rfl, hb1⟩
  have hlt0 := blk_lt HR0.out
  have HG := Lib.hid (blk_below hb1 (by omega) HG0.out)
  have HR := Lib.hid (blk_below hb1 hlt0 HR0.out)
  have hb : Below B w W1 := hb0.trans (hb1.mono (by omega))
  generalize sumL v [5, 0, 0, 0, 0] 5 = s at *
  clear HP HG0 HR0 hb0 hb1 hlt0
  go_wp2_with fail
  refine (HS.out W1).mono ?_
  rintro e W2 ⟨rfl, hb2⟩
  have hlt1 := blk_lt HR.out
  have HG1 := Lib.hid (blk_below hb2 (by omega) HG.out)
  have HR1 := Lib.hid (blk_below hb2 hlt1 HR.out)
  have hbb : Below B w W2 := hb.trans (hb2.mono (by omega))
  clear HS HG HR hb hb2 hlt1
  generalize spreadL s = u at *
  generalize spreadC s = c at *
  have HIu := Lib.hid (sizeN u hspl)
  have HZu := Lib.hid (zeros5_size u hspl)
  have H1u := Lib.hid (lmc_one u)
  have hlt2 := blk_lt HR1.out
  have HN := Lib.hid (blk_new W2 (.cells zeros5 155))
  have HG2 := Lib.hid (show ((W2.alloc (.cells zeros5 155)).setRow W2.heap.size (lmc u)).heap[B]? = some (.cells (lmc v) 155) from by rw [setRow_other _ _ _ _ (by omega)]; exact blk_old HG1.out)
  have HR2 := Lib.hid (show ((W2.alloc (.cells zeros5 155)).setRow W2.heap.size (lmc u)).heap[B + 1]? = some (.cells zeros5 155) from by rw [setRow_other _ _ _ _ (by omega)]; exact blk_old HR1.out)
  have hb3 : Below B w ((W2.alloc (.cells zeros5 155)).setRow W2.heap.size (lmc u)) := below_setRow (hbb.alloc (by omega) _) (by omega) _
  have cx := lmc_cell HG2.out 0 (by rw [HVL.out]; omega)
  have fx := frozen_of_row _ B 0 _ _ HG2.out
  have HG3 := Lib.hid (lmc_heap_set HG2.out 0 (v.getD 0 0 + 5 * c))
  have HR3 := Lib.hid (show ((((W2.alloc (.cells zeros5 155)).setRow W2.heap.size (lmc u))).setCell ⟨B, 0, none⟩ (.int .u64 (v.getD 0 0 + 5 * c))).heap[B + 1]? = some (.cells zeros5 155) from by rw [heap_setCell_other _ _ _ _ (by simp)]; exact HR2.out)
  have hb4 : Below B w ((((W2.alloc (.cells zeros5 155)).setRow W2.heap.size (lmc u))).setCell ⟨B, 0, none⟩ (.int .u64 (v.getD 0 0 + 5 * c))) := hb3.setCell (by simp) _
  have hvl : (v.set 0 (v.getD 0 0 + 5 * c)).length = 5 := by simpa using HVL.out
  have HI3 := Lib.hid (sizeN _ hvl)
  generalize hx : v.getD 0 0 = x at *
  clear hx
  generalize v.set 0 (x + 5 * c) = y at *
  have hw : (x + 5 * c) % 18446744073709551616 = x + 5 * c := by omega
  have hw2 : (5 * c) % 18446744073709551616 = 5 * c := by omega
  clear hb3 hbb HR2 HR1 HG1
  go_wp2_with (first
    | (with_reducible refine wpList_store_row rfl 155 _ _ rfl W2.heap.size (lmc u) rfl rfl 155 _ HN.out HIu.out HZu.out H1u.out ?_)
    | (with_reducible refine wpList_load_row rfl 155 _ rfl B rfl 155 _ (0, 0) _ HG3.out Tryz.underlying155 rfl HI3.out ?_))
  clear cx fx hz hw hw2
  generalize (World.setCell _ _ _) = W3 at *
  refine (HS2.out W3).mono ?_
  rintro e W4 ⟨rfl, hb5⟩
  have hlt3 := blk_lt HR3.out
  have HG4 := Lib.hid (blk_below hb5 (by omega) HG3.out)
  have HR4 := Lib.hid (blk_below hb5 hlt3 HR3.out)
  have hb6 : Below B w W4 := hb4.trans (hb5.mono (by omega))
  rw [← HRD.out]
  generalize spreadC y = c2 at *
  generalize hrow : reducedL v = row at *
  have HROW := Lib.hid hrow
  have HI4 := Lib.hid (sizeN row hrl)
  have HO4 := Lib.hid (zeros5_size row hrl)
  have HY4 := Lib.hid (show (lmc y).size = (lmc row).size from by rw [lmc_size, lmc_size, hvl, hrl])
  have H4 := Lib.hid (lmc_one row)
  have HG5 := Lib.hid (setRow_heap W4 B _ (lmc row) _ _ HG4.out)
  have HR5 := Lib.hid (show (W4.setRow B (lmc row)).heap[B + 1]? = some (.cells zeros5 155) from by rw [setRow_other _ _ _ _ (by omega)]; exact HR4.out)
  have hb7 : Below B w (W4.setRow B (lmc row)) := below_setRow hb6 (Nat.le_refl _) _
  clear hrow hlt3 hb4 hb5 hb6 HG3 HR3 HR4 HRD hrl hvl
  go_wp2_with (first
    | (with_reducible refine wpList_store_row rfl 155 _ _ rfl B (lmc row) rfl rfl 155 _ HG4.out HI4.out HY4.out H4.out ?_)
    | (with_reducible refine wpList_load_row rfl 155 _ rfl B rfl 155 _ (0, 0) _ HG5.out Tryz.underlying155 rfl HI4.out ?_)
    | (with_reducible refine wpList_store_row rfl 155 _ _ rfl (B + 1) (lmc row) rfl rfl 155 _ HR5.out HI4.out HO4.out H4.out ?_))
  exact bodyPost_ret (v := .agg (lmc row)) (results_cell_row (by rfl) _ _ (B + 1) 155 _ (0, 0) _ rfl (setRow_heap _ _ _ _ _ _ HR5.out) Tryz.underlying155 rfl HI4.out) rfl ⟨by first | (with_reducible rfl) | rw [HROW.out], by rw [HBB.out]; exact below_setRow hb7 (by omega) _⟩
end

section
open Go.RowKit Go.Sort
set_option maxRecDepth 100000
set_option linter.unusedSimpArgs false
set_option linter.unusedVariables false

theorem pbcells_one (l : List UInt8) : (bcells l).all (·.oneCell') = true := by
  rw [Array.all_eq_true]
  intro i hi
  simp [bcells, Lib.byteCells, Value.oneCell']
def bzeros16 : Array Value := bcells (List.replicate 16 0)
theorem infoB16 : (Tryz.prog.info? 118).map (fun i => (i.zero, i.size)) = some (some (.agg bzeros16), 16) := by kernel_rfl
theorem sizeB16 (l : List UInt8) (h : l.length = 16) : (Tryz.prog.info? 118).map (·.size) = some (bcells l).size := by rw [bcells_size, h]; exact (zero_of_info infoB16).2
theorem bzeros16_size (l : List UInt8) (h : l.length = 16) : bzeros16.size = (bcells l).size := by rw [bcells_size, h]; exact bcells_size _
theorem u64_or_nat (a b : Nat) (ha : a < 2 ^ 64) (hb : b < 2 ^ 64) : bits .or .u64 (a : Int) (b : Int) = ((a ||| b : Nat) : Int) := by
  have key : (BitVec.ofInt 64 (a : Int) ||| BitVec.ofInt 64 (b : Int)).toNat = a ||| b := by
    rw [BitVec.toNat_or, BitVec.toNat_ofInt, BitVec.toNat_ofInt]
    rw [show ((a : Int) % ((2 ^ 64 : Nat) : Int)).toNat = a by omega, show ((b : Int) % ((2 ^ 64 : Nat) : Int)).toNat = b by omega]
  show IntKind.u64.wrap ((BitVec.ofInt 64 (a : Int) ||| BitVec.ofInt 64 (b : Int)).toNat : Nat) = _
  rw [key, IntKind.wrap_u64]
  have := Nat.or_lt_two_pow ha hb
  omega
theorem u64_or_add (x y : Int) (s : Nat) (hx0 : 0 ≤ x) (hx : x < 2 ^ s) (hy0 : 0 ≤ y) (hxy : x + y * 2 ^ s < 2 ^ 64) : bits .or .u64 x (y * 2 ^ s) = x + y * 2 ^ s := by
  obtain ⟨a, rfl⟩ := Int.eq_ofNat_of_zero_le hx0
  obtain ⟨b, rfl⟩ := Int.eq_ofNat_of_zero_le hy0
  have e : ((b : Int) * 2 ^ s) = ((2 ^ s * b : Nat) : Int) := by rw [Int.mul_comm]; simp
  rw [e] at hxy ⊢
  have hxa : a < 2 ^ s := by
    have h2 : ((2 : Int) ^ s) = ((2 ^ s : Nat) : Int) := by simp
    rw [h2] at hx; omega
  rw [u64_or_nat _ _ (by omega) (by omega), Nat.or_comm, ← Nat.two_pow_add_eq_or_of_lt hxa]
  omega
/-- The bytes while they are laid. -/
def outLow (n k : Nat) : List UInt8 := leOut n k ++ List.replicate (16 - k) 0
theorem outLow_length (n k : Nat) (h : k ≤ 16) : (outLow n k).length = 16 := by simp [outLow, leOut_length]; omega
theorem outLow_set (n k : Nat) (h : k < 16) : (outLow n k).set k (UInt8.ofNat (n / 256 ^ k % 256)) = outLow n (k + 1) := by
  have e : List.replicate (16 - k) (0 : UInt8) = 0 :: List.replicate (16 - (k + 1)) 0 := by rw [show 16 - k = (16 - (k + 1)) + 1 by omega, List.replicate_succ]
  rw [outLow, e, List.set_append, if_neg (by rw [leOut_length]; omega), leOut_length, Nat.sub_self, List.set_cons_zero, outLow, leOut]
  simp
theorem outLow_zero (n : Nat) : bzeros16 = bcells (outLow n 0) := rfl
theorem outLow_full (n : Nat) : outLow n 16 = leOut n 16 := by simp [outLow]

set_option maxHeartbeats 1000000 in
theorem low_any (v : List Int) (w : World) (hl : v.length = 5) (hv : digitsIn 4611686018427387904 v) :
    Calls Tryz.prog 124 #[.agg (lmc v)] w fun e w' => e = .returned (.agg (bcells (leOut (limV v).toNat 16))) ∧ Below w.heap.size w w' := by
  obtain ⟨hz, hi⟩ := zero_of_info infoN
  obtain ⟨hz16, hi16⟩ := zero_of_info infoB16
  have HG0 := Lib.hid (blk_old (o := .cells bzeros16 118) (blk_old (o := .cells bzeros16 118) (blk_new w (.cells (lmc v) 155))))
  have HR0 := Lib.hid (blk_old (o := .cells bzeros16 118) (blk_new2 w (.cells (lmc v) 155) (.cells bzeros16 118)))
  have HO0 := Lib.hid (blk_new3 w (.cells (lmc v) 155) (.cells bzeros16 118) (.cells bzeros16 118))
  have hb0 := below_new3 w (.cells (lmc v) 155) (.cells bzeros16 118) (.cells bzeros16 118)
  have HIv := Lib.hid (sizeN v hl)
  have HS := Lib.hid (fun W => spread_any v W hl hv)
  have hul : (spreadL v).length = 5 := by rw [spreadL_length, hl]
  have HUI := Lib.hid (spreadL_in v hl)
  have HN := Lib.hid (show leOut (limV (spreadL v)).toNat 16 = leOut (limV v).toNat 16 from by
    have h0 := limV_nonneg v _ hv
    rw [(spread_V v hl).1, ← leOut_mod _ 16 (Nat.le_refl _)]
    rw [← leOut_mod (limV v).toNat 16 (Nat.le_refl _)]
    congr 1; omega)
  have HVS := Lib.hid (show (lmc v).size = (lmc (spreadL v)).size from by rw [lmc_size, lmc_size, hul, hl])
  clear hi hl hv hi16
  go_enter Tryz.func124, Tryz.ntmps124
  go_wp2_with (with_reducible refine wpList_load_row rfl 155 _ rfl w.heap.size rfl 155 _ (0, 0) _ HG0.out Tryz.underlying155 rfl HIv.out ?_)
  clear hz hz16
  generalize (((w.alloc _).alloc _).alloc _) = W0 at *
  generalize hBB : w.heap.size = B at *
  have HBB := Lib.hid hBB
  clear hBB
  refine (HS.out W0).mono ?_
  rintro e W1 ⟨rfl, hb1⟩
  have hlt0 := blk_lt HO0.out
  have HG := Lib.hid (blk_below hb1 (by omega) HG0.out)
  have HR := Lib.hid (blk_below hb1 (by omega) HR0.out)
  have HO := Lib.hid (blk_below hb1 hlt0 HO0.out)
  have hb : Below B w W1 := hb0.trans (hb1.mono (by omega))
  clear HS HG0 HR0 HO0 hb0 hb1 hlt0
  generalize spreadL v = u at *
  generalize spreadC v = c at *
  have HI := Lib.hid (sizeN u hul)
  have H1 := Lib.hid (lmc_one u)
  have HG2 := Lib.hid (setRow_heap W1 B _ (lmc u) _ _ HG.out)
  have HR2 := Lib.hid (show (W1.setRow B (lmc u)).heap[B + 1]? = some (.cells bzeros16 118) from by rw [setRow_other _ _ _ _ (by omega)]; exact HR.out)
  have HO2 := Lib.hid (show (W1.setRow B (lmc u)).heap[B + 1 + 1]? = some (.cells bzeros16 118) from by rw [setRow_other _ _ _ _ (by omega)]; exact HO.out)
  have hb2 : Below B w (W1.setRow B (lmc u)) := below_setRow hb (Nat.le_refl _) _
  clear HR HO hb
  go_wp2_with (with_reducible refine wpList_store_row rfl 155 _ _ rfl B (lmc u) rfl rfl 155 _ HG.out HI.out HVS.out H1.out ?_)
  clear HG
  generalize (World.setRow _ _ _) = W2 at *
  have HUL := Lib.hid hul
  clear hul
  obtain ⟨n, hn⟩ : ∃ n, n = (limV u).toNat := ⟨_, rfl⟩
  have HNN := Lib.hid hn
  clear hn
  go_loopw [13] (fun iv wr => ∃ k : Nat, k ≤ 16 ∧ iv = .int .i64 (k : Int) ∧ wr.heap[B]? = some (.cells (lmc u) 155) ∧ wr.heap[B + 1]? = some (.cells bzeros16 118) ∧ wr.heap[B + 1 + 1]? = some (.cells (bcells (outLow n k)) 118) ∧ Below B w wr) (fun iv _ => 16 - (intOf iv).toNat)
  case atStart => exact ⟨0, by omega, rfl, HG2.out, HR2.out, HO2.out, hb2⟩
  case round =>
    clear HG2 HR2 HO2 hb2
    obtain ⟨k, hk, rfl, hg, hr, ho, hb⟩ := hrel
    have HG := Lib.hid hg; have HR := Lib.hid hr; have HO := Lib.hid ho
    clear hg hr ho
    by_cases hlt : k < 16
    · have hd : decide ((k : Int) < 16) = true := by simp; omega
      obtain ⟨x0, x1⟩ := getD_in HUI.out (8 * k / 26) (by rw [HUL.out]; omega)
      have cx := lmc_cell HG.out (8 * k / 26) (by rw [HUL.out]; omega)
      have hlow := low_byte u HUL.out HUI.out k hlt
      have HS := Lib.hid (outLow_set n k hlt)
      have hu0 := limV_nonneg u _ HUI.out
      have hB8 : ((UInt8.ofNat (n / 256 ^ k % 256)).toNat : Int) = limV u / 256 ^ k % 256 := by
        rw [UInt8.toNat_ofNat', HNN.out]
        have e : limV u / 256 ^ k % 256 = (((limV u).toNat / 256 ^ k % 256 : Nat) : Int) := by
          obtain ⟨m, hm⟩ := Int.eq_ofNat_of_zero_le hu0
          rw [hm]; simp
        rw [e]; omega
      rw [← hB8] at hlow
      clear hu0 hB8
      generalize UInt8.ofNat (n / 256 ^ k % 256) = b8 at *
      have hl16 : (outLow n k).length = 16 := outLow_length n k (by omega)
      have co : wr.cell? ⟨B + 1 + 1, k, none⟩ = some (.int .u8 ((outLow n k).getD k 0).toNat) := by rw [cell_of_row wr _ _ _ _ _ HO.out]; exact bcells_get _ k _ (by simp [List.getD_eq_getElem?_getD, hl16, hlt])
      have fo := frozen_of_row wr (B + 1 + 1) k _ _ HO.out
      have r1 := Go.heap_setCell_same wr (B + 1 + 1) k _ _ (.int .u8 (b8.toNat : Int)) HO.out
      rw [bcells_set, HS.out] at r1
      have HO3 := Lib.hid r1
      have HG3 := Lib.hid (show (wr.setCell ⟨B + 1 + 1, k, none⟩ (.int .u8 (b8.toNat : Int))).heap[B]? = some (.cells (lmc u) 155) from by rw [heap_setCell_other _ _ _ _ (by simp; omega)]; exact HG.out)
      have HR3 := Lib.hid (show (wr.setCell ⟨B + 1 + 1, k, none⟩ (.int .u8 (b8.toNat : Int))).heap[B + 1]? = some (.cells bzeros16 118) from by rw [heap_setCell_other _ _ _ _ (by simp)]; exact HR.out)
      have hb3 : Below B w (wr.setCell ⟨B + 1 + 1, k, none⟩ (.int .u8 (b8.toNat : Int))) := hb.setCell (by simp; omega) _
      clear r1 hl16 HS HR HO hb
      generalize ((outLow n k).getD k 0).toNat = old at *
      by_cases h5 : 8 * k / 26 + 1 < 5
      · have hd5 : decide (8 * (k : Int) / 26 + 1 < 5) = true := by simp; omega
        obtain ⟨y0, y1⟩ := getD_in HUI.out (8 * k / 26 + 1) (by rw [HUL.out]; omega)
        have cy := lmc_cell HG.out (8 * k / 26 + 1) (by rw [HUL.out]; omega)
        have he := hlow.1 h5
        have hsh : (26 - 8 * (k : Int) % 26).toNat = 26 - 8 * k % 26 := by omega
        have hof : (8 * (k : Int) / 26 + 1).toNat = 8 * k / 26 + 1 := by omega
        generalize u.getD (8 * k / 26) 0 = x at *
        generalize u.getD (8 * k / 26 + 1) 0 = y at *
        have hat : 8 * k % 26 ≤ 24 := by omega
        have hp1 : x / 2 ^ (8 * k % 26) < 2 ^ (26 - 8 * k % 26) := by
          rw [Int.ediv_lt_iff_lt_mul (Int.pow_pos (by omega)), ← Int.pow_add, show 26 - 8 * k % 26 + 8 * k % 26 = 26 by omega]; omega
        have hp0 : 0 ≤ x / 2 ^ (8 * k % 26) := Int.ediv_nonneg x0 (Int.le_of_lt (Int.pow_pos (by omega)))
        have hq0 : 0 ≤ y * 2 ^ (26 - 8 * k % 26) := Int.mul_nonneg y0 (Int.le_of_lt (Int.pow_pos (by omega)))
        have hpw : (2 : Int) ^ (26 - 8 * k % 26) ≤ 67108864 := by
          have := Nat.pow_le_pow_right (n := 2) (by omega) (show 26 - 8 * k % 26 ≤ 26 by omega)
          have e2 : ((2 : Int) ^ (26 - 8 * k % 26)) = ((2 ^ (26 - 8 * k % 26) : Nat) : Int) := by simp
          rw [e2]; omega
        have hq1 : y * 2 ^ (26 - 8 * k % 26) ≤ 67108863 * 67108864 := Int.mul_le_mul y1 hpw (Int.le_of_lt (Int.pow_pos (by omega))) (by omega)
        have hor := u64_or_add (x / 2 ^ (8 * k % 26)) y (26 - 8 * k % 26) hp0 hp1 y0 (by omega)
        have hw : (y * 2 ^ (26 - 8 * k % 26)) % 18446744073709551616 = y * 2 ^ (26 - 8 * k % 26) := by omega
        clear hp1 hp0 hq0 hpw hq1 x0 x1 y0 y1 hlow
        go_wp2_with fail
        go_roundw
        case rel => exact ⟨k + 1, by omega, by go_num, HG3.out, HR3.out, HO3.out, hb3⟩
        case measure => simp [intOf]; omega
      · have hd5 : decide (8 * (k : Int) / 26 + 1 < 5) = false := by simp; omega
        have he := hlow.2 (by omega)
        generalize u.getD (8 * k / 26) 0 = x at *
        clear hlow x0 x1
        go_wp2_with fail
        go_roundw
        case rel => exact ⟨k + 1, by omega, by go_num, HG3.out, HR3.out, HO3.out, hb3⟩
        case measure => simp [intOf]; omega
    · have hd : decide ((k : Int) < 16) = false := by simp; omega
      obtain rfl : k = 16 := by omega
      rw [outLow_full, HNN.out, HN.out] at HO
      have hll : (leOut (limV v).toNat 16).length = 16 := leOut_length _ _
      generalize hrow : leOut (limV v).toNat 16 = row at *
      have HROW := Lib.hid hrow
      have HI2 := Lib.hid (sizeB16 row hll)
      have HSz := Lib.hid (bzeros16_size row hll)
      have HOne := Lib.hid (pbcells_one row)
      clear hrow hll
      go_wp2_with (first
        | (with_reducible refine wpList_load_row rfl 118 _ rfl (B + 1 + 1) rfl 118 _ (0, 0) _ HO.out Tryz.underlying118 rfl HI2.out ?_)
        | (with_reducible refine wpList_store_row rfl 118 _ _ rfl (B + 1) (bcells row) rfl rfl 118 _ HR.out HI2.out HSz.out HOne.out ?_))
      exact bodyPost_ret (v := .agg (bcells row)) (results_cell_row (by rfl) _ _ (B + 1) 118 _ (0, 0) _ rfl (setRow_heap _ _ _ _ _ _ HR.out) Tryz.underlying118 rfl HI2.out) rfl ⟨by first | (with_reducible rfl) | rw [HROW.out], by rw [HBB.out]; exact below_setRow hb (by omega) _⟩
end

section
open Go.RowKit Go.Sort
set_option maxRecDepth 100000
set_option linter.unusedSimpArgs false
set_option linter.unusedVariables false

def ezeros : Array Value := bcells (List.replicate 17 0)
theorem infoE : (Tryz.prog.info? 176).map (fun i => (i.zero, i.size)) = some (some (.agg ezeros), 17) := by kernel_rfl
theorem sizeE (l : List UInt8) (h : l.length = 17) : (Tryz.prog.info? 176).map (·.size) = some (bcells l).size := by rw [bcells_size, h]; exact (zero_of_info infoE).2
/-- The limbs while they are laid. -/
def numP (n i : Nat) : List Int := (numL n).take i ++ List.replicate (5 - i) 0
theorem numP_length (n i : Nat) (h : i ≤ 5) : (numP n i).length = 5 := by simp [numP, numL_length]; omega
theorem numP_get (n i : Nat) (h : i < 5) : (numP n i).getD i 0 = 0 := by
  have hl : ((numL n).take i).length = i := by rw [List.length_take, numL_length]; omega
  rw [numP, List.getD_eq_getElem?_getD, List.getElem?_append_right (by omega), hl, Nat.sub_self, show 5 - i = (5 - (i + 1)) + 1 by omega, List.replicate_succ]; rfl
theorem numP_succ (n i : Nat) (h : i < 5) : (numP n i).set i ((n / 67108864 ^ i % 67108864 : Nat) : Int) = numP n (i + 1) := by
  have hl : ((numL n).take i).length = i := by rw [List.length_take, numL_length]; omega
  rw [numP, List.set_append, if_neg (by omega), hl, Nat.sub_self, show 5 - i = (5 - (i + 1)) + 1 by omega, List.replicate_succ, List.set_cons_zero, numP, List.take_succ_eq_append_getElem (by rw [numL_length]; omega)]
  simp [numL]
theorem numP_full (n : Nat) : numP n 5 = numL n := by rw [numP, List.take_of_length_le (by rw [numL_length]; omega)]; simp
/-- One limb while its bytes are joined. -/
def limP (n i k : Nat) : Nat := n / 256 ^ (26 * i / 8) % 256 ^ k
theorem limP_lt (n i k : Nat) : limP n i k < 256 ^ k := Nat.mod_lt _ (Nat.pow_pos (by omega))
theorem limP_succ (l : List UInt8) (i k : Nat) (h : 26 * i / 8 + k < l.length) : limP (leN l) i (k + 1) = limP (leN l) i k + (l.getD (26 * i / 8 + k) 0).toNat * 256 ^ k := by
  have hb := leN_byte l (26 * i / 8 + k) h
  rw [Nat.pow_add, ← Nat.div_div_eq_div_mul] at hb
  have e : l.getD (26 * i / 8 + k) 0 = l[26 * i / 8 + k] := by simp [h]
  rw [e, ← hb, limP, limP, Nat.pow_succ, Nat.mod_mul, Nat.mul_comm (256 ^ k)]
theorem limP_end (n i : Nat) (h : i < 5) : limP n i 4 / 2 ^ (26 * i % 8) % 67108864 = n / 67108864 ^ i % 67108864 := by
  unfold limP
  rcases (by omega : i = 0 ∨ i = 1 ∨ i = 2 ∨ i = 3 ∨ i = 4) with rfl | rfl | rfl | rfl | rfl <;> simp <;> omega

set_option maxHeartbeats 2000000 in
theorem encNum_any (l : List UInt8) (w : World) (hl : l.length = 17) :
    Calls Tryz.prog 140 #[.agg (bcells l)] w fun e w' => e = .returned (.agg (lmc (numL (leN l)))) ∧ Below w.heap.size w w' := by
  obtain ⟨hz, hi⟩ := zero_of_info infoN
  have HL := Lib.hid hl
  have HE0 := Lib.hid (blk_old (o := .cells zeros5 155) (blk_old (o := .cells zeros5 155) (blk_new w (.cells (bcells l) 176))))
  have HR0 := Lib.hid (blk_old (o := .cells zeros5 155) (blk_new2 w (.cells (bcells l) 176) (.cells zeros5 155)))
  have HO0 := Lib.hid (blk_new3 w (.cells (bcells l) 176) (.cells zeros5 155) (.cells zeros5 155))
  have hb0 := below_new3 w (.cells (bcells l) 176) (.cells zeros5 155) (.cells zeros5 155)
  obtain ⟨n, hn⟩ : ∃ n, n = leN l := ⟨_, rfl⟩
  have HLS := Lib.hid (fun i k (h : 26 * i / 8 + k < 17) => limP_succ l i k (by omega))
  rw [← hn] at HLS ⊢
  clear hi hl hn
  go_enter Tryz.func140, Tryz.ntmps140
  go_wp2_with fail
  clear hz
  generalize (((w.alloc _).alloc _).alloc _) = W0 at *
  generalize hBB : w.heap.size = B at *
  have HBB := Lib.hid hBB
  clear hBB
  go_loopw [7] (fun iv wr => ∃ i : Nat, i ≤ 5 ∧ iv = .int .i64 (i : Int) ∧ wr.heap[B]? = some (.cells (bcells l) 176) ∧ wr.heap[B + 1]? = some (.cells zeros5 155) ∧ wr.heap[B + 1 + 1]? = some (.cells (lmc (numP n i)) 155) ∧ Below B w wr) (fun iv _ => 5 - (intOf iv).toNat)
  case atStart => exact ⟨0, by omega, rfl, HE0.out, HR0.out, HO0.out, hb0⟩
  case round =>
    clear HE0 HR0 HO0 hb0
    obtain ⟨i, hi, rfl, he, hr, ho, hb⟩ := hrel
    have HE := Lib.hid he; have HR := Lib.hid hr; have HO := Lib.hid ho
    clear he hr ho
    by_cases hlt : i < 5
    · have hd : decide ((i : Int) < 5) = true := by simp; omega
      have HPL := Lib.hid (numP_length n i hi)
      have HPG := Lib.hid (numP_get n i hlt)
      have HPS := Lib.hid (numP_succ n i hlt)
      have HPE := Lib.hid (limP_end n i hlt)
      have HO1 := Lib.hid (show wr.heap[B + 1 + 1]? = some (.cells (lmc ((numP n i).set i ((limP n i 0 : Nat) : Int))) 155) from by
        rw [show limP n i 0 = 0 by simp [limP, Nat.mod_one]]
        have e : (numP n i).set i ((0 : Nat) : Int) = numP n i := by
          have h5 := HPL.out
          have hg := HPG.out
          apply List.ext_getElem (by simp)
          intro j h1 h2
          rw [List.getElem_set]
          split
          · next h => subst h; rw [List.getD_eq_getElem?_getD, List.getElem?_eq_getElem h2, Option.getD_some] at hg; rw [hg]; rfl
          · rfl
        rw [e]; exact HO.out)
      clear HO HPG
      generalize numP n i = pl at *
      go_wp2_with fail
      go_loopw [12] (fun kv wr => ∃ k : Nat, k ≤ 4 ∧ kv = .int .i64 (k : Int) ∧ wr.heap[B]? = some (.cells (bcells l) 176) ∧ wr.heap[B + 1]? = some (.cells zeros5 155) ∧ wr.heap[B + 1 + 1]? = some (.cells (lmc (pl.set i ((limP n i k : Nat) : Int))) 155) ∧ Below B w wr) (fun kv _ => 4 - (intOf kv).toNat)
      case atStart => exact ⟨0, by omega, rfl, HE.out, HR.out, HO1.out, hb⟩
      case round =>
        clear HE HR HO1 hb
        obtain ⟨k, hk, rfl, he, hr, ho, hb⟩ := hrel
        have HE := Lib.hid he; have HR := Lib.hid hr; have HO := Lib.hid ho
        clear he hr ho
        by_cases hklt : k < 4
        · have hdk : decide ((k : Int) < 4) = true := by simp; omega
          have h17 : 26 * i / 8 + k < 17 := by omega
          have hs := HLS.out i k h17
          have hx1 := limP_lt n i k
          have hy1 := (l.getD (26 * i / 8 + k) 0).toNat_lt
          have cy : wr.cell? ⟨B, 26 * i / 8 + k, none⟩ = some (.int .u8 ((l.getD (26 * i / 8 + k) 0).toNat : Int)) := by rw [cell_of_row wr _ _ _ _ _ HE.out]; exact bcells_get _ _ _ (by simp [List.getD_eq_getElem?_getD, HL.out, h17])
          have cx := lmc_cell HO.out i (by rw [List.length_set, HPL.out]; omega)
          rw [show (pl.set i ((limP n i k : Nat) : Int)).getD i 0 = ((limP n i k : Nat) : Int) by simp [List.getD_eq_getElem?_getD, HPL.out, hlt]] at cx
          have HXI : Hid (pl.set i ((limP n i k : Nat) : Int) = pl.set i ((limP n i k : Nat) : Int)) := Lib.hid rfl
          generalize hxx : limP n i k = x at *
          generalize (l.getD (26 * i / 8 + k) 0).toNat = y at *
          have e8 : (256 : Nat) ^ k = 2 ^ (8 * k) := by rw [show 256 = 2 ^ 8 from rfl, ← Nat.pow_mul]
          rw [e8] at hs hx1
          have hp8 : 2 ^ (8 * k) ≤ 2 ^ 24 := Nat.pow_le_pow_right (by omega) (by omega)
          have hyp : y * 2 ^ (8 * k) ≤ 255 * 2 ^ 24 := Nat.mul_le_mul (by omega) hp8
          have ec : ((y * 2 ^ (8 * k) : Nat) : Int) = (y : Int) * 2 ^ (8 * k) := by simp
          have hx2 : (x : Int) < 2 ^ (8 * k) := by
            have e2 : ((2 : Int) ^ (8 * k)) = ((2 ^ (8 * k) : Nat) : Int) := by simp
            rw [e2]; omega
          have hw1 : IntKind.u64.wrap (y : Int) = (y : Int) := by rw [IntKind.wrap_u64]; omega
          have hw2 : IntKind.u64.wrap ((y : Int) * 2 ^ (8 * k)) = (y : Int) * 2 ^ (8 * k) := by rw [IntKind.wrap_u64, ← ec]; omega
          have hor := u64_or_add (x : Int) (y : Int) (8 * k) (by omega) hx2 (by omega) (by rw [← ec]; omega)
          have hsi : (x : Int) + (y : Int) * 2 ^ (8 * k) = ((limP n i (k + 1) : Nat) : Int) := by rw [hs, ← ec]; omega
          rw [hsi] at hor
          obtain ⟨z, hz⟩ : ∃ z, z = limP n i (k + 1) := ⟨_, rfl⟩
          rw [← hz] at hor hs
          have HZ : Hid (limP n i (k + 1) = z) := Lib.hid hz.symm
          clear hz
          have hof : (26 * (i : Int) / 8 + (k : Int)).toNat = 26 * i / 8 + k := by omega
          have hsh : (8 * (k : Int)).toNat = 8 * k := by omega
          clear hs hx1 hy1 hp8 hyp ec hx2 hxx e8 hsi
          go_wp2_with fail
          have ka := cell_regrown cx; have kb := cell_regrown cy
          refine wp_region_reads_tail 15 (by kernel_rfl) (by kernel_rfl) ?_
          simp only [List.take_succ_cons, List.take_zero, List.drop_succ_cons, List.drop_zero]
          repeat (first | go_big_quiet_step (fail) | quiet_step (fail))
          refine wpQuiet_nil ?_
          intro W1 hb1
          have hlw := blk_lt HO.out
          have hE1 := blk_below hb1 (by omega) HE.out
          have hR1 := blk_below hb1 (by omega) HR.out
          have hO1 := blk_below hb1 hlw HO.out
          have fx := frozen_of_row W1 (B + 1 + 1) i _ _ hO1
          have cu := lmc_cell hO1 i (by rw [List.length_set, HPL.out]; omega)
          have r1 := lmc_heap_set hO1 i (z : Int)
          rw [List.set_set] at r1
          generalize (pl.set i (x : Int)).getD i 0 = old at *
          have HO2 := Lib.hid r1
          have HE2 := Lib.hid (show (W1.setCell ⟨B + 1 + 1, i, none⟩ (.int .u64 (z : Int))).heap[B]? = some (.cells (bcells l) 176) from by rw [heap_setCell_other _ _ _ _ (by simp; omega)]; exact hE1)
          have HR2 := Lib.hid (show (W1.setCell ⟨B + 1 + 1, i, none⟩ (.int .u64 (z : Int))).heap[B + 1]? = some (.cells zeros5 155) from by rw [heap_setCell_other _ _ _ _ (by simp)]; exact hR1)
          have hb2 : Below B w (W1.setCell ⟨B + 1 + 1, i, none⟩ (.int .u64 (z : Int))) := (hb.trans (hb1.mono (by omega))).setCell (by simp; omega) _
          clear r1 hb HR HE HO ka kb cx cy hE1 hR1 hO1 hlw hb1 HXI
          go_wp2_with fail
          go_roundw
          case rel => exact ⟨k + 1, by omega, by go_num, HE2.out, HR2.out, by rw [HZ.out]; exact HO2.out, hb2⟩
          case measure => simp [intOf]; omega
        · have hdk : decide ((k : Int) < 4) = false := by simp; omega
          obtain rfl : k = 4 := by omega
          rw [show ((4 : Nat) : Int) = (4 : Int) from rfl] at *
          have cx := lmc_cell HO.out i (by rw [List.length_set, HPL.out]; omega)
          rw [show (pl.set i ((limP n i 4 : Nat) : Int)).getD i 0 = ((limP n i 4 : Nat) : Int) by simp [List.getD_eq_getElem?_getD, HPL.out, hlt]] at cx
          have fx := frozen_of_row wr (B + 1 + 1) i _ _ HO.out
          have hpe := HPE.out
          have hps := HPS.out
          have r1 := lmc_heap_set HO.out i ((n / 67108864 ^ i % 67108864 : Nat) : Int)
          rw [List.set_set, hps] at r1
          generalize limP n i 4 = z at *
          generalize n / 67108864 ^ i % 67108864 = y at *
          have ha := and_26 ((z : Int) / 2 ^ (26 * i % 8))
          have ey : (z : Int) / 2 ^ (26 * i % 8) % 67108864 = (y : Int) := by rw [← hpe]; simp
          rw [ey] at ha
          have HO2 := Lib.hid r1
          have HE2 := Lib.hid (show (wr.setCell ⟨B + 1 + 1, i, none⟩ (.int .u64 (y : Int))).heap[B]? = some (.cells (bcells l) 176) from by rw [heap_setCell_other _ _ _ _ (by simp; omega)]; exact HE.out)
          have HR2 := Lib.hid (show (wr.setCell ⟨B + 1 + 1, i, none⟩ (.int .u64 (y : Int))).heap[B + 1]? = some (.cells zeros5 155) from by rw [heap_setCell_other _ _ _ _ (by simp)]; exact HR.out)
          have hb2 : Below B w (wr.setCell ⟨B + 1 + 1, i, none⟩ (.int .u64 (y : Int))) := hb.setCell (by simp; omega) _
          clear r1 hb HR HE HO hps hpe ey
          go_wp2_with fail
          go_roundw
          case rel => exact ⟨i + 1, by omega, by go_num, HE2.out, HR2.out, HO2.out, hb2⟩
          case measure => simp [intOf]; omega
    · have hd : decide ((i : Int) < 5) = false := by simp; omega
      obtain rfl : i = 5 := by omega
      rw [numP_full] at HO
      have hll := numL_length n
      generalize hrow : numL n = row at *
      have HROW := Lib.hid hrow
      have HI2 := Lib.hid (sizeN row hll)
      have HSz := Lib.hid (zeros5_size row hll)
      have HOne := Lib.hid (lmc_one row)
      clear hrow hll
      go_wp2_with (first
        | (with_reducible refine wpList_load_row rfl 155 _ rfl (B + 1 + 1) rfl 155 _ (0, 0) _ HO.out Tryz.underlying155 rfl HI2.out ?_)
        | (with_reducible refine wpList_store_row rfl 155 _ _ rfl (B + 1) (lmc row) rfl rfl 155 _ HR.out HI2.out HSz.out HOne.out ?_))
      exact bodyPost_ret (v := .agg (lmc row)) (results_cell_row (by rfl) _ _ (B + 1) 155 _ (0, 0) _ rfl (setRow_heap _ _ _ _ _ _ HR.out) Tryz.underlying155 rfl HI2.out) rfl ⟨by first | (with_reducible rfl) | rw [HROW.out], by rw [HBB.out]; exact below_setRow hb (by omega) _⟩
end

section
open Go.RowKit Go.Sort
set_option maxRecDepth 100000
set_option linter.unusedSimpArgs false
set_option linter.unusedVariables false

/-- Bytes in seventeen. -/
def encL (l : List UInt8) : List UInt8 := l ++ List.replicate (17 - l.length) 0
theorem encL_length (l : List UInt8) (h : l.length ≤ 17) : (encL l).length = 17 := by simp [encL]; omega
theorem leN_zeros (n : Nat) : leN (List.replicate n 0) = 0 := by
  induction n with
  | zero => rfl
  | succ n ih => rw [List.replicate_succ, leN, ih]; rfl
theorem leN_enc (l : List UInt8) : leN (encL l) = leN l := by rw [encL, leN_append, leN_zeros]; omega
theorem encL_one (l : List UInt8) (h : l.length ≤ 16) : leN ((encL l).set l.length 1) = leN (l ++ [1]) := by
  rw [encL, List.set_append, if_neg (by omega), Nat.sub_self, show 17 - l.length = (16 - l.length) + 1 by omega, List.replicate_succ, List.set_cons_zero, leN_append, leN_append]
  simp [leN, leN_zeros]
theorem copy_enc (W : World) (g : Nat) (k : ByteArray) (h : k.size ≤ 17) (hg : W.heap[g]? = some (.cells ezeros 176)) :
    (Builtin.copy_ #[46, 9] 3 #[.slice (some ⟨g, 0, none⟩) 17 17, .string k]).run Tryz.prog W = .ok (.int .i64 k.size) (W.setRow g (bcells (encL k.data.toList))) := by
  obtain ⟨i0, hi, hz0, hz1, hz2⟩ := info_parts info_u8
  have hinfo : (Tryz.prog.info? 5).map (·.size) = some 1 := by rw [hi]; simp [hz1]
  have hl : k.data.toList.length = k.size := (Lib.size_eq k).symm
  have hcp := Lib.run_copy_row_string (P := Tryz.prog) W 46 9 3 5 g 0 17 17 k ezeros 176 Tryz.underlying46 hinfo hg h (by rw [show ezeros.size = 17 from bcells_size _]; omega)
  rw [hcp]
  have e : (ezeros.toList.take 0 ++ Lib.byteCells k.data.toList ++ ezeros.toList.drop (0 + k.size)).toArray = bcells (encL k.data.toList) := by
    rw [List.take_zero, List.nil_append, Nat.zero_add, ezeros, bcells, List.toList_toArray, bcells, encL, Lib.byteCells_append, hl]
    congr 2
    rw [Lib.byteCells, Lib.byteCells, ← List.map_drop, List.drop_replicate]
  rw [e]
  rfl
theorem sliced_whole (t : TypeId) (n a : Nat) (ht : Tryz.prog.underlying t = some (.array (Tryz.prog.arrayLen t) (Tryz.prog.elem t))) (hn : Tryz.prog.arrayLen t = n) (hs : (Tryz.prog.info? (Tryz.prog.elem t)).map (·.size) = some 1) (hp : 0 < n) (w : World) :
    (Instr.sliceAt t (.pointer (some ⟨a, 0, none⟩)) none none none).run Tryz.prog w = .ok (.slice (some ⟨a, 0, none⟩) n n) w := by
  rw [run_sliceAt_array_all w t ⟨a, 0, none⟩ ht]
  have hsz : ∀ w, (sizeOf (Tryz.prog.elem t)).run Tryz.prog w = .ok 1 w := fun w => by
    cases hq : Tryz.prog.info? (Tryz.prog.elem t) with
    | none => simp [hq] at hs
    | some i => simp [hq] at hs; simp [sizeOf, typeInfo, hq, hs]
  rw [hsz, hn]
  simp only [Result.andThen_ok, slicedAt, Nat.sub_zero]
  rw [if_neg (by omega), Addr.add_lit]

set_option maxHeartbeats 1000000 in
theorem summand_any (s : ByteArray) (w : World) (hs : s.size = 16) :
    Calls Tryz.prog 120 #[.string s] w fun e w' => e = .returned (.agg (lmc (numL (leN s.data.toList)))) ∧ Below w.heap.size w w' := by
  obtain ⟨hz, hi⟩ := zero_of_info infoN
  obtain ⟨hze, hie⟩ := zero_of_info infoE
  have hsl : s.data.toList.length = 16 := by rw [← Lib.size_eq]; exact hs
  have hel := encL_length s.data.toList (by omega)
  have HN := Lib.hid (leN_enc s.data.toList)
  have HR0 := Lib.hid (blk_old (o := .cells ezeros 176) (blk_new w (.cells zeros5 155)))
  have HE0 := Lib.hid (blk_new2 w (.cells zeros5 155) (.cells ezeros 176))
  have hb0 := below_new2 w (.cells zeros5 155) (.cells ezeros 176)
  have hcp := copy_enc _ _ s (by omega) HE0.out
  have sl := sliced_whole 176 17 (w.heap.size + 1) (by kernel_rfl) (by kernel_rfl) (by kernel_rfl) (by omega)
  clear hi hie hs hsl
  go_enter Tryz.func120, Tryz.ntmps120
  have HE1 := Lib.hid (setRow_heap _ (w.heap.size + 1) _ (bcells (encL s.data.toList)) _ _ HE0.out)
  have HR1 := Lib.hid ((setRow_other ((w.alloc (.cells zeros5 155)).alloc (.cells ezeros 176)) (w.heap.size + 1) w.heap.size (bcells (encL s.data.toList)) (by omega)).trans HR0.out)
  have hb1 := below_setRow hb0 (show w.heap.size ≤ w.heap.size + 1 by omega) (bcells (encL s.data.toList))
  have HIe := Lib.hid (sizeE _ hel)
  have HC := Lib.hid (fun W => encNum_any (encL s.data.toList) W hel)
  rw [HN.out] at HC
  clear HR0 HE0 hb0 hel
  generalize encL s.data.toList = el at *
  go_wp2_with (with_reducible refine wpList_load_row rfl 176 _ rfl (w.heap.size + 1) rfl 176 _ (0, 0) _ HE1.out Tryz.underlying176 rfl HIe.out ?_)
  clear hcp sl hz hze
  generalize (World.setRow _ _ _) = W0 at *
  generalize hBB : w.heap.size = B at *
  have HBB := Lib.hid hBB
  clear hBB
  refine (HC.out W0).mono ?_
  rintro e W1 ⟨rfl, hb2⟩
  have hlt := blk_lt HE1.out
  have HR2 := Lib.hid (blk_below hb2 (by omega) HR1.out)
  have hb3 : Below B w W1 := hb1.trans (hb2.mono (by omega))
  have hll := numL_length (leN s.data.toList)
  generalize hrow : numL (leN s.data.toList) = row at *
  have HROW := Lib.hid hrow
  have HI2 := Lib.hid (sizeN row hll)
  have HSz := Lib.hid (zeros5_size row hll)
  have HOne := Lib.hid (lmc_one row)
  clear hrow hll hb2 HR1 HE1 hb1
  go_wp2_with (with_reducible refine wpList_store_row rfl 155 _ _ rfl B (lmc row) rfl rfl 155 _ HR2.out HI2.out HSz.out HOne.out ?_)
  exact bodyPost_ret (v := .agg (lmc row)) (results_cell_row (by rfl) _ _ B 155 _ (0, 0) _ rfl (setRow_heap _ _ _ _ _ _ HR2.out) Tryz.underlying155 rfl HI2.out) rfl ⟨by first | (with_reducible rfl) | rw [HROW.out], by rw [HBB.out]; exact below_setRow hb3 (Nat.le_refl _) _⟩

set_option maxHeartbeats 1000000 in
theorem pieceNumber_any (s : ByteArray) (w : World) (hs : s.size ≤ 16) :
    Calls Tryz.prog 141 #[.string s] w fun e w' => e = .returned (.agg (lmc (numL (leN (s.data.toList ++ [1]))))) ∧ Below w.heap.size w w' := by
  obtain ⟨hz, hi⟩ := zero_of_info infoN
  obtain ⟨hze, hie⟩ := zero_of_info infoE
  have hsl : s.data.toList.length = s.size := (Lib.size_eq s).symm
  have hel := encL_length s.data.toList (by omega)
  have HN := Lib.hid (encL_one s.data.toList (by omega))
  rw [hsl] at HN
  have HR0 := Lib.hid (blk_old (o := .cells ezeros 176) (blk_new w (.cells zeros5 155)))
  have HE0 := Lib.hid (blk_new2 w (.cells zeros5 155) (.cells ezeros 176))
  have hb0 := below_new2 w (.cells zeros5 155) (.cells ezeros 176)
  have hcp := copy_enc _ _ s (by omega) HE0.out
  have sl := sliced_whole 176 17 (w.heap.size + 1) (by kernel_rfl) (by kernel_rfl) (by kernel_rfl) (by omega)
  have h17 : (s.size : Int) < 17 := by omega
  have h17n : s.size < 17 := by omega
  clear hi hie hsl hs
  go_enter Tryz.func141, Tryz.ntmps141
  have HE1 := Lib.hid (setRow_heap _ (w.heap.size + 1) _ (bcells (encL s.data.toList)) _ _ HE0.out)
  have HR1 := Lib.hid ((setRow_other ((w.alloc (.cells zeros5 155)).alloc (.cells ezeros 176)) (w.heap.size + 1) w.heap.size (bcells (encL s.data.toList)) (by omega)).trans HR0.out)
  have hb1 := below_setRow hb0 (show w.heap.size ≤ w.heap.size + 1 by omega) (bcells (encL s.data.toList))
  have hel1 : ((encL s.data.toList).set s.size 1).length = 17 := by simpa using hel
  have HIe := Lib.hid (sizeE _ hel1)
  have HC := Lib.hid (fun W => encNum_any ((encL s.data.toList).set s.size 1) W hel1)
  rw [HN.out] at HC
  clear HR0 HE0 hb0 hel1
  generalize encL s.data.toList = el at *
  have cx : (((w.alloc (.cells zeros5 155)).alloc (.cells ezeros 176)).setRow (w.heap.size + 1) (bcells el)).cell? ⟨w.heap.size + 1, s.size, none⟩ = some (.int .u8 ((el.getD s.size 0).toNat : Int)) := by
    rw [cell_of_row _ _ _ _ _ _ HE1.out]; exact bcells_get _ _ _ (by simp [List.getD_eq_getElem?_getD, hel, h17n])
  have fx := frozen_of_row _ (w.heap.size + 1) s.size _ _ HE1.out
  have r1 := Go.heap_setCell_same _ (w.heap.size + 1) s.size _ _ (.int .u8 ((1 : UInt8).toNat : Int)) HE1.out
  rw [bcells_set] at r1
  rw [show (((1 : UInt8).toNat : Nat) : Int) = 1 from rfl] at r1
  have HE2 := Lib.hid r1
  have HR2 := Lib.hid ((heap_setCell_other (((w.alloc (.cells zeros5 155)).alloc (.cells ezeros 176)).setRow (w.heap.size + 1) (bcells el)) ⟨w.heap.size + 1, s.size, none⟩ w.heap.size (.int .u8 1) (by simp)).trans HR1.out)
  have hb2 : Below w.heap.size w ((((w.alloc (.cells zeros5 155)).alloc (.cells ezeros 176)).setRow (w.heap.size + 1) (bcells el)).setCell ⟨w.heap.size + 1, s.size, none⟩ (.int .u8 1)) := hb1.setCell (by simp) _
  clear r1 hb1 HR1 HE1
  generalize (el.getD s.size 0).toNat = old at *
  go_wp2_with (with_reducible refine wpList_load_row rfl 176 _ rfl (w.heap.size + 1) rfl 176 _ (0, 0) _ HE2.out Tryz.underlying176 rfl HIe.out ?_)
  clear hcp sl hz hze cx fx
  generalize (World.setCell _ _ _) = W0 at *
  generalize hBB : w.heap.size = B at *
  have HBB := Lib.hid hBB
  clear hBB
  refine (HC.out W0).mono ?_
  rintro e W1 ⟨rfl, hb3⟩
  have hlt := blk_lt HE2.out
  have HR3 := Lib.hid (blk_below hb3 (by omega) HR2.out)
  have hb4 : Below B w W1 := hb2.trans (hb3.mono (by omega))
  have hll := numL_length (leN (s.data.toList ++ [1]))
  generalize hrow : numL (leN (s.data.toList ++ [1])) = row at *
  have HROW := Lib.hid hrow
  have HI2 := Lib.hid (sizeN row hll)
  have HSz := Lib.hid (zeros5_size row hll)
  have HOne := Lib.hid (lmc_one row)
  clear hrow hll hb3 HR2 HE2 hb2
  go_wp2_with (with_reducible refine wpList_store_row rfl 155 _ _ rfl B (lmc row) rfl rfl 155 _ HR3.out HI2.out HSz.out HOne.out ?_)
  exact bodyPost_ret (v := .agg (lmc row)) (results_cell_row (by rfl) _ _ B 155 _ (0, 0) _ rfl (setRow_heap _ _ _ _ _ _ HR3.out) Tryz.underlying155 rfl HI2.out) rfl ⟨by first | (with_reducible rfl) | rw [HROW.out], by rw [HBB.out]; exact below_setRow hb4 (Nat.le_refl _) _⟩

theorem index_arr {P : Program} (t e : TypeId) (n k : Nat) (cs : Array Value) (x : Value) (hu : P.underlying t = some (.array n e)) (hs : (P.info? e).map (·.size) = some 1) (ha : ∀ w, (isAgg e).run P w = .ok false w) (hk : k < n) (hx : cs[k]? = some x) (w : World) :
    (Instr.index t (.agg cs) (.int .i64 (k : Int))).run P w = .ok x w := by
  have hn : (0 : Int) ≤ (k : Int) ∧ (k : Int) < (n : Int) := by omega
  have hsz : ∀ w, (sizeOf e).run P w = .ok 1 w := fun w => by
    cases hq : P.info? e with
    | none => simp [hq] at hs
    | some i => simp [hq] at hs; simp [sizeOf, typeInfo, hq, hs]
  simp [Instr.index, run_underlying hu, asIntOf, hn, go_sem, part, hsz, ha, hx]
  intro h; omega
theorem cl1_append (l r : List UInt8) (m : Nat) (h : 4 * m ≤ l.length) : cl1 (l ++ r) m = cl1 l m ++ r := by
  induction m with
  | zero => rfl
  | succ m ih =>
    rw [cl1, ih (by omega), cl1, List.set_append, if_pos (by rw [cl1_length]; omega)]
    congr 3
    simp [List.getD_eq_getElem?_getD, List.getElem?_append_left, cl1_length, show 3 + 4 * m < l.length by omega]
theorem cl2_append (l r : List UInt8) (m : Nat) (h : 4 * m < l.length) : cl2 (l ++ r) m = cl2 l m ++ r := by
  induction m with
  | zero => rfl
  | succ m ih =>
    rw [cl2, ih (by omega), cl2, List.set_append, if_pos (by rw [cl2_length]; omega)]
    congr 3
    simp [List.getD_eq_getElem?_getD, List.getElem?_append_left, cl2_length, show 4 + 4 * m < l.length by omega]
theorem leN_clamp (l : List UInt8) (h : l.length = 16) : leN (cl2 (cl1 (encL l) 4) 3) = leN (clampL l) := by
  rw [encL, cl1_append _ _ _ (by omega), cl2_append _ _ _ (by rw [cl1_length]; omega), leN_append, leN_zeros, clampL]; omega

def arr4 : Array Value := #[.int .i64 3, .int .i64 7, .int .i64 11, .int .i64 15]
def arr3 : Array Value := #[.int .i64 4, .int .i64 8, .int .i64 12]
theorem arr4_get (m : Nat) (h : m < 4) : arr4[m]? = some (.int .i64 (3 + 4 * (m : Int))) := by
  rcases (by omega : m = 0 ∨ m = 1 ∨ m = 2 ∨ m = 3) with rfl | rfl | rfl | rfl <;> rfl
theorem arr3_get (m : Nat) (h : m < 3) : arr3[m]? = some (.int .i64 (4 + 4 * (m : Int))) := by
  rcases (by omega : m = 0 ∨ m = 1 ∨ m = 2) with rfl | rfl | rfl <;> rfl
theorem index_arr4 (m : Nat) (h : m < 4) (w : World) : (Instr.index 177 (.agg arr4) (.int .i64 (m : Int))).run Tryz.prog w = .ok (.int .i64 (3 + 4 * (m : Int))) w :=
  index_arr _ 3 4 m arr4 _ Tryz.underlying177 (by kernel_rfl) (fun w => by simp [isAgg, run_underlying Tryz.underlying3, go_sem]) h (arr4_get m h) w
theorem index_arr3 (m : Nat) (h : m < 3) (w : World) : (Instr.index 178 (.agg arr3) (.int .i64 (m : Int))).run Tryz.prog w = .ok (.int .i64 (4 + 4 * (m : Int))) w :=
  index_arr _ 3 3 m arr3 _ Tryz.underlying178 (by kernel_rfl) (fun w => by simp [isAgg, run_underlying Tryz.underlying3, go_sem]) h (arr3_get m h) w

set_option maxHeartbeats 1000000 in
theorem factor_any (s : ByteArray) (w : World) (hs : s.size = 16) :
    Calls Tryz.prog 119 #[.string s] w fun e w' => e = .returned (.agg (lmc (numL (leN (clampL s.data.toList))))) ∧ Below w.heap.size w w' := by
  obtain ⟨hz, hi⟩ := zero_of_info infoN
  obtain ⟨hze, hie⟩ := zero_of_info infoE
  have hsl : s.data.toList.length = 16 := by rw [← Lib.size_eq]; exact hs
  have hel := encL_length s.data.toList (by omega)
  have HN := Lib.hid (leN_clamp s.data.toList hsl)
  have HR0 := Lib.hid (blk_old (o := .cells ezeros 176) (blk_new w (.cells zeros5 155)))
  have HE0 := Lib.hid (blk_new2 w (.cells zeros5 155) (.cells ezeros 176))
  have hb0 := below_new2 w (.cells zeros5 155) (.cells ezeros 176)
  have hcp := copy_enc _ _ s (by omega) HE0.out
  have sl := sliced_whole 176 17 (w.heap.size + 1) (by kernel_rfl) (by kernel_rfl) (by kernel_rfl) (by omega)
  clear hi hie hs hsl
  go_enter Tryz.func119, Tryz.ntmps119
  have HE1 := Lib.hid (setRow_heap _ (w.heap.size + 1) _ (bcells (encL s.data.toList)) _ _ HE0.out)
  have HR1 := Lib.hid ((setRow_other ((w.alloc (.cells zeros5 155)).alloc (.cells ezeros 176)) (w.heap.size + 1) w.heap.size (bcells (encL s.data.toList)) (by omega)).trans HR0.out)
  have hb1 := below_setRow hb0 (show w.heap.size ≤ w.heap.size + 1 by omega) (bcells (encL s.data.toList))
  have HEL := Lib.hid hel
  clear HR0 HE0 hb0 hel
  generalize encL s.data.toList = el at *
  go_wp2_with fail
  clear hcp sl hz hze
  generalize (World.setRow _ _ _) = W0 at *
  generalize hBB : w.heap.size = B at *
  have HBB := Lib.hid hBB
  clear hBB
  go_loopw [12] (fun iv wr => ∃ m : Nat, m ≤ 4 ∧ iv = .int .i64 (m : Int) ∧ wr.heap[B]? = some (.cells zeros5 155) ∧ wr.heap[B + 1]? = some (.cells (bcells (cl1 el m)) 176) ∧ Below B w wr) (fun iv _ => 4 - (intOf iv).toNat)
  case atStart => exact ⟨0, by omega, rfl, HR1.out, HE1.out, hb1⟩
  case round =>
    clear HR1 HE1 hb1
    obtain ⟨m, hm, rfl, hr, he, hb⟩ := hrel
    have HR := Lib.hid hr; have HE := Lib.hid he
    clear hr he
    by_cases hlt : m < 4
    · have hd : decide ((m : Int) < 4) = true := by simp; omega
      have ix := index_arr4 m hlt
      simp only [arr4] at ix
      have hll : (cl1 el m).length = 17 := by rw [cl1_length, HEL.out]
      have HS : Hid (cl1 el (m + 1) = (cl1 el m).set (3 + 4 * m) (andB 15 ((cl1 el m).getD (3 + 4 * m) 0))) := Lib.hid rfl
      have cx : wr.cell? ⟨B + 1, 3 + 4 * m, none⟩ = some (.int .u8 (((cl1 el m).getD (3 + 4 * m) 0).toNat : Int)) := by
        rw [cell_of_row wr _ _ _ _ _ HE.out]; exact bcells_get _ _ _ (by simp [List.getD_eq_getElem?_getD, hll, show 3 + 4 * m < 17 by omega])
      have fx := frozen_of_row wr (B + 1) (3 + 4 * m) _ _ HE.out
      have r1 := Go.heap_setCell_same wr (B + 1) (3 + 4 * m) _ _ (.int .u8 ((andB 15 ((cl1 el m).getD (3 + 4 * m) 0)).toNat : Int)) HE.out
      rw [bcells_set, ← HS.out] at r1
      generalize (cl1 el m).getD (3 + 4 * m) 0 = x at *
      have ha := andB_toNat 15 x
      rw [ha] at r1
      clear ha
      have hof : (3 + 4 * (m : Int)).toNat = 3 + 4 * m := by omega
      have HE2 := Lib.hid r1
      have HR2 := Lib.hid (show (wr.setCell ⟨B + 1, 3 + 4 * m, none⟩ (.int .u8 (bits .and .u8 (x.toNat : Int) 15))).heap[B]? = some (.cells zeros5 155) from by rw [heap_setCell_other _ _ _ _ (by simp)]; exact HR.out)
      have hb2 : Below B w (wr.setCell ⟨B + 1, 3 + 4 * m, none⟩ (.int .u8 (bits .and .u8 (x.toNat : Int) 15))) := hb.setCell (by simp) _
      clear r1 hll HS HR HE hb
      go_wp2_with fail
      go_roundw
      case rel => exact ⟨m + 1, by omega, by go_num, HR2.out, HE2.out, hb2⟩
      case measure => simp [intOf]; omega
    · have hd : decide ((m : Int) < 4) = false := by simp; omega
      obtain rfl : m = 4 := by omega
      rw [show ((4 : Nat) : Int) = (4 : Int) from rfl] at *
      clear hd
      have HE1 := HE
      have HR1 := HR
      have hb1 := hb
      have HEM := Lib.hid (show (cl1 el 4).length = 17 from by rw [cl1_length, HEL.out])
      clear HE HR hb HEL
      obtain ⟨el2, hel2⟩ : ∃ x, x = cl1 el 4 := ⟨_, rfl⟩
      rw [← hel2] at HE1 HN HEM
      clear hel2
      have HEL := HEM
      clear HEM
      go_wp2_with fail
      go_loopw [22] (fun iv wr => ∃ m : Nat, m ≤ 3 ∧ iv = .int .i64 (m : Int) ∧ wr.heap[B]? = some (.cells zeros5 155) ∧ wr.heap[B + 1]? = some (.cells (bcells (cl2 el2 m)) 176) ∧ Below B w wr) (fun iv _ => 3 - (intOf iv).toNat)
      case atStart => exact ⟨0, by omega, rfl, HR1.out, HE1.out, hb1⟩
      case round =>
        clear HR1 HE1 hb1
        obtain ⟨m, hm, rfl, hr, he, hb⟩ := hrel
        have HR := Lib.hid hr; have HE := Lib.hid he
        clear hr he
        by_cases hlt : m < 3
        · have hd : decide ((m : Int) < 3) = true := by simp; omega
          have ix := index_arr3 m hlt
          simp only [arr3] at ix
          have hll : (cl2 el2 m).length = 17 := by rw [cl2_length, HEL.out]
          have HS : Hid (cl2 el2 (m + 1) = (cl2 el2 m).set (4 + 4 * m) (andB 252 ((cl2 el2 m).getD (4 + 4 * m) 0))) := Lib.hid rfl
          have cx : wr.cell? ⟨B + 1, 4 + 4 * m, none⟩ = some (.int .u8 (((cl2 el2 m).getD (4 + 4 * m) 0).toNat : Int)) := by
            rw [cell_of_row wr _ _ _ _ _ HE.out]; exact bcells_get _ _ _ (by simp [List.getD_eq_getElem?_getD, hll, show 4 + 4 * m < 17 by omega])
          have fx := frozen_of_row wr (B + 1) (4 + 4 * m) _ _ HE.out
          have r1 := Go.heap_setCell_same wr (B + 1) (4 + 4 * m) _ _ (.int .u8 ((andB 252 ((cl2 el2 m).getD (4 + 4 * m) 0)).toNat : Int)) HE.out
          rw [bcells_set, ← HS.out] at r1
          generalize (cl2 el2 m).getD (4 + 4 * m) 0 = x at *
          have ha := andB_toNat 252 x
          rw [ha] at r1
          clear ha
          have hof : (4 + 4 * (m : Int)).toNat = 4 + 4 * m := by omega
          have HE2 := Lib.hid r1
          have HR2 := Lib.hid (show (wr.setCell ⟨B + 1, 4 + 4 * m, none⟩ (.int .u8 (bits .and .u8 (x.toNat : Int) 252))).heap[B]? = some (.cells zeros5 155) from by rw [heap_setCell_other _ _ _ _ (by simp)]; exact HR.out)
          have hb2 : Below B w (wr.setCell ⟨B + 1, 4 + 4 * m, none⟩ (.int .u8 (bits .and .u8 (x.toNat : Int) 252))) := hb.setCell (by simp) _
          clear r1 hll HS HR HE hb
          go_wp2_with fail
          go_roundw
          case rel => exact ⟨m + 1, by omega, by go_num, HR2.out, HE2.out, hb2⟩
          case measure => simp [intOf]; omega
        · have hd : decide ((m : Int) < 3) = false := by simp; omega
          obtain rfl : m = 3 := by omega
          rw [show ((3 : Nat) : Int) = (3 : Int) from rfl] at *
          clear hd
          have HCL := Lib.hid (show (cl2 el2 3).length = 17 from by rw [cl2_length, HEL.out])
          have HIe := Lib.hid (sizeE _ HCL.out)
          have HC := Lib.hid (fun W => encNum_any (cl2 el2 3) W HCL.out)
          rw [HN.out] at HC
          generalize cl2 el2 3 = fl at *
          go_wp2_with (with_reducible refine wpList_load_row rfl 176 _ rfl (B + 1) rfl 176 _ (0, 0) _ HE.out Tryz.underlying176 rfl HIe.out ?_)
          refine (HC.out wr).mono ?_
          rintro e W1 ⟨rfl, hb3⟩
          have hlw := blk_lt HE.out
          have HR3 := Lib.hid (blk_below hb3 (by omega) HR.out)
          have hb4 : Below B w W1 := hb.trans (hb3.mono (by omega))
          have hll := numL_length (leN (clampL s.data.toList))
          generalize hrow : numL (leN (clampL s.data.toList)) = row at *
          have HROW := Lib.hid hrow
          have HI2 := Lib.hid (sizeN row hll)
          have HSz := Lib.hid (zeros5_size row hll)
          have HOne := Lib.hid (lmc_one row)
          clear hrow hll hb3 HR HE hb hlw
          go_wp2_with (with_reducible refine wpList_store_row rfl 155 _ _ rfl B (lmc row) rfl rfl 155 _ HR3.out HI2.out HSz.out HOne.out ?_)
          exact bodyPost_ret (v := .agg (lmc row)) (results_cell_row (by rfl) _ _ B 155 _ (0, 0) _ rfl (setRow_heap _ _ _ _ _ _ HR3.out) Tryz.underlying155 rfl HI2.out) rfl ⟨by first | (with_reducible rfl) | rw [HROW.out], by rw [HBB.out]; exact below_setRow hb4 (Nat.le_refl _) _⟩
end

section
open Go.RowKit Go.Sort
set_option maxRecDepth 100000
set_option linter.unusedSimpArgs false
set_option linter.unusedVariables false

/-- A whole row that was there, in every world of the class. -/
theorem row_regrown {P : Program} {w : World} (ty : TypeId) (g : Nat) (t : TypeId) (cs : Array Value) (fr : Nat × Nat) (d : TypeDesc) (hg : w.heap[g]? = some (.cells cs t fr))
    (hu : P.underlying ty = some d) (hd : (match d with | .struct _ | .array _ _ => true | _ => false) = true) (hi : (P.info? ty).map (·.size) = some cs.size) (n : Nat) (os : Array Obj) :
    (Instr.loadAt ty (.pointer (some ⟨g, 0, none⟩))).run P (grow (redrawn w n) os) = .ok (.agg cs) (grow (redrawn w n) os) := by
  have hg' : (grow (redrawn w n) os).heap[g]? = some (.cells cs t fr) := ((below_regrown w n os).block g (blk_lt hg)).trans hg
  simp only [Instr.loadAt, Instr.sureAddr, Sem.run_bind, Sem.run_pure, Result.andThen_ok, run_loadVar_row _ g t ty cs fr d hg' hu hd hi]

theorem wpQuiet_load_row {P : Program} {ops : Array Oper} {w : World} {Q : Act → Prop} {a : Act} {o : Oper} {rest : List Oper} (hw : Region.wanted o (yielded ops a.tmps) = true) (ty : TypeId) (x : Operand) (ho : o.op = .load ty x)
    (g : Nat) (hx : a.eval x = .pointer (some ⟨g, 0, none⟩)) (t : TypeId) (cs : Array Value) (fr : Nat × Nat) (d : TypeDesc) (hg : w.heap[g]? = some (.cells cs t fr))
    (hu : P.underlying ty = some d) (hd : (match d with | .struct _ | .array _ _ => true | _ => false) = true) (hi : (P.info? ty).map (·.size) = some cs.size)
    (h : wpQuiet P ops (fun w' => ∃ p : Regrown, w' = grow (redrawn w p.d) p.os) Q rest (a.put o.dst (.agg cs))) : wpQuiet P ops (fun w' => ∃ p : Regrown, w' = grow (redrawn w p.d) p.os) Q (o :: rest) a := by
  refine BigFrame.wpQuiet_want hw fun K hK => ⟨.agg cs, fun w' hw' => ?_, hK _ h⟩
  obtain ⟨p, rfl⟩ := hw'
  unfold Oper.quietAt execOp
  simp only [ho, hx, Sem.run_bind, Result.andThen_ok, row_regrown ty g t cs fr d hg hu hd hi p.d p.os]
  exact ⟨rfl, rfl⟩

theorem piece_step (rem : ByteArray) (l : List UInt8) (h : rem.data.toList = l) (n : Nat) (hn : (n = 16 ∧ 16 ≤ rem.size) ∨ (n = rem.size ∧ rem.size ≤ 16)) : (rem.extract 0 n).data.toList ++ [1] = l.take 16 ++ [1] := by
  have := piece_take rem l h n hn
  rw [← this]; simp

theorem piece_whole2 (rem : ByteArray) (l : List UInt8) (h : rem.data.toList = l) (hn : rem.size ≤ 16) : rem.data.toList ++ [1] = l.take 16 ++ [1] := by
  have hl : l.length = rem.size := by rw [← h, ← Lib.size_eq]
  rw [List.take_of_length_le (show l.length ≤ 16 by omega), h]

set_option maxHeartbeats 1000000 in
theorem accumulated_any (N : Nat) (data : ByteArray) (w : World) (hN : N < 1361129467683753853853498429727072845824) (hd : data.size ≤ 1099511627776) :
    Calls Tryz.prog 121 #[.agg (lmc (numL N)), .string data] w fun e w' => e = .returned (.agg (lmc (accL (numL N) data.data.toList ((data.size + 15) / 16)))) ∧ Below w.heap.size w w' := by
  obtain ⟨hz, hi⟩ := zero_of_info infoN
  have HNN := Lib.hid hN
  have HRL := Lib.hid (numL_length N)
  have HRI := Lib.hid (numL_in N)
  have HAI := Lib.hid (fun m => (acc_spec N hN data.data.toList m).2.1)
  have HG0 := Lib.hid (blk_old (o := .cells zeros5 155) (blk_old (o := .cells zeros5 155) (blk_new w (.cells (lmc (numL N)) 155))))
  have HR0 := Lib.hid (blk_old (o := .cells zeros5 155) (blk_new2 w (.cells (lmc (numL N)) 155) (.cells zeros5 155)))
  have HO0 := Lib.hid (blk_new3 w (.cells (lmc (numL N)) 155) (.cells zeros5 155) (.cells zeros5 155))
  have hb0 := below_new3 w (.cells (lmc (numL N)) 155) (.cells zeros5 155) (.cells zeros5 155)
  clear hi hN
  generalize numL N = r at *
  go_enter Tryz.func121, Tryz.ntmps121
  go_wp2_with fail
  clear hz
  generalize (((w.alloc _).alloc _).alloc _) = W0 at *
  generalize hBB : w.heap.size = B at *
  have HBB := Lib.hid hBB
  clear hBB
  go_loopw [1] (fun sv wr => ∃ (m : Nat) (rem : ByteArray), 16 * m ≤ data.size + 15 ∧ sv = .string rem ∧ rem.data.toList = data.data.toList.drop (16 * m) ∧ wr.heap[B]? = some (.cells (lmc r) 155) ∧ wr.heap[B + 1]? = some (.cells zeros5 155) ∧ wr.heap[B + 1 + 1]? = some (.cells (lmc (accL r data.data.toList m)) 155) ∧ Below B w wr) (fun sv _ => strLn sv)
  case atStart => exact ⟨0, data, by omega, rfl, by simp, HG0.out, HR0.out, HO0.out, hb0⟩
  case round =>
    clear HG0 HR0 HO0 hb0
    obtain ⟨m, rem, hm, rfl, hrem, hg, hr, ho, hb⟩ := hrel
    have HG := Lib.hid hg; have HR := Lib.hid hr; have HO := Lib.hid ho; have HRem := Lib.hid hrem
    have HRS := Lib.hid (show rem.size = data.size - 16 * m from by rw [Lib.size_eq, hrem, List.length_drop, ← Lib.size_eq])
    have hrle : rem.size ≤ 1099511627776 := by rw [HRS.out]; omega
    clear hg hr ho hrem
    have HAL := Lib.hid (accL_length r data.data.toList m)
    have HAm := Lib.hid (HAI.out m)
    have HACC : Hid (accL r data.data.toList (m + 1) = timesL (sumL (accL r data.data.toList m) (numL (pieceN data.data.toList m)) 5) r) := Lib.hid rfl
    have HAL1 := Lib.hid (accL_length r data.data.toList (m + 1))
    by_cases hpos : 0 < rem.size
    · have hdp : decide ((0 : Int) < (rem.size : Int)) = true := by simp; omega
      by_cases hbig : 16 ≤ rem.size
      · have hb1 : (16 : Int) ≤ (rem.size : Int) := by omega
        have hps : (rem.extract 0 16).size ≤ 16 := by rw [ByteArray.size_extract]; omega
        have HPc := Lib.hid (fun W => pieceNumber_any (rem.extract 0 16) W hps)
        rw [piece_step rem _ HRem.out 16 (by omega)] at HPc
        have HPn : Hid (leN ((data.data.toList.drop (16 * m)).take 16 ++ [1]) = pieceN data.data.toList m) := Lib.hid rfl
        rw [HPn.out] at HPc
        have hpl := numL_length (pieceN data.data.toList m)
        have hpi := numL_in (pieceN data.data.toList m)
        clear HPn hps
        generalize numL (pieceN data.data.toList m) = p at *
        have hsl : (sumL (accL r data.data.toList m) p 5).length = 5 := by rw [sumL_length, HAL.out]
        have hsi := sumIn _ _ HAL.out hpl _ _ HAm.out hpi
        have HPl := Lib.hid (fun W => plus_any (accL r data.data.toList m) p W HAL.out hpl (fun x hx => by obtain ⟨a, b⟩ := HAm.out x hx; exact ⟨a, by omega⟩) (fun x hx => by obtain ⟨a, b⟩ := hpi x hx; exact ⟨a, by omega⟩))
        have HT := Lib.hid (fun W => ownTimes_any (sumL (accL r data.data.toList m) p 5) r W hsl HRL.out (fun x hx => by obtain ⟨a, b⟩ := hsi x hx; exact ⟨a, by omega⟩) HRI.out)
        rw [← HACC.out] at HT
        have HIa := Lib.hid (sizeN _ HAL.out)
        have HIr := Lib.hid (sizeN _ HRL.out)
        have HIn := Lib.hid (sizeN _ HAL1.out)
        have HOn := Lib.hid (show (lmc (accL r data.data.toList m)).size = (lmc (accL r data.data.toList (m + 1))).size from by rw [lmc_size, lmc_size, HAL.out, HAL1.out])
        have H1n := Lib.hid (lmc_one (accL r data.data.toList (m + 1)))
        have HNx := Lib.hid (show (rem.extract 16 rem.size).data.toList = data.data.toList.drop (16 * (m + 1)) from by
          have h := piece_drop rem _ HRem.out 16 (by omega)
          rw [List.drop_drop, show 16 * m + 16 = 16 * (m + 1) by omega] at h
          exact h)
        have HNXS := Lib.hid (show (rem.extract 16 rem.size).size < rem.size from by rw [ByteArray.size_extract]; omega)
        clear hsl hsi hpl hpi HACC HAm HAL HAL1 HAI HRem
        obtain ⟨nx, hnx⟩ : ∃ x, x = accL r data.data.toList (m + 1) := ⟨_, rfl⟩
        rw [← hnx] at HT HIn HOn H1n
        have HNE := Lib.hid hnx
        clear hnx
        generalize accL r data.data.toList m = al at *
        generalize sumL al p 5 = sl at *
        go_wp2_with fail
        refine wp_region_reads_tail 8 (by kernel_rfl) (by kernel_rfl) ?_
        simp only [List.take_succ_cons, List.take_zero, List.drop_succ_cons, List.drop_zero]
        refine wpQuiet_load_row rfl 155 _ rfl (B + 1 + 1) rfl 155 _ (0, 0) _ HO.out Tryz.underlying155 rfl HIa.out ?_
        simp only [Act.put, List.setIfInBounds_toArray, List.set_cons_succ, List.set_cons_zero]
        repeat (first | go_big_quiet_step ((first | exact Calls.regrown_of (HPc.out _) | exact Calls.regrown_of (HPl.out _) | exact Calls.regrown_of (HT.out _))) | quiet_step ((first | exact Calls.regrown_of (HPc.out _) | exact Calls.regrown_of (HPl.out _) | exact Calls.regrown_of (HT.out _))))
        refine wpQuiet_load_row rfl 155 _ rfl B rfl 155 _ (0, 0) _ HG.out Tryz.underlying155 rfl HIr.out ?_
        simp only [Act.put, List.setIfInBounds_toArray, List.set_cons_succ, List.set_cons_zero]
        repeat (first | go_big_quiet_step ((first | exact Calls.regrown_of (HPc.out _) | exact Calls.regrown_of (HPl.out _) | exact Calls.regrown_of (HT.out _))) | quiet_step ((first | exact Calls.regrown_of (HPc.out _) | exact Calls.regrown_of (HPl.out _) | exact Calls.regrown_of (HT.out _))))
        refine wpQuiet_nil ?_
        intro W1 hb1
        have hlw := blk_lt HO.out
        have HG1 := Lib.hid (blk_below hb1 (by omega) HG.out)
        have HR1 := Lib.hid (blk_below hb1 (by omega) HR.out)
        have HO1 := Lib.hid (blk_below hb1 hlw HO.out)
        have hb2 : Below B w W1 := hb.trans (hb1.mono (by omega))
        have HO2 := Lib.hid (setRow_heap W1 (B + 1 + 1) _ (lmc nx) _ _ HO1.out)
        have HG2 := Lib.hid (show (W1.setRow (B + 1 + 1) (lmc nx)).heap[B]? = some (.cells (lmc r) 155) from by rw [setRow_other _ _ _ _ (by omega)]; exact HG1.out)
        have HR2 := Lib.hid (show (W1.setRow (B + 1 + 1) (lmc nx)).heap[B + 1]? = some (.cells zeros5 155) from by rw [setRow_other _ _ _ _ (by omega)]; exact HR1.out)
        have hb3 : Below B w (W1.setRow (B + 1 + 1) (lmc nx)) := below_setRow hb2 (by omega) _
        clear HPc HPl HT HG HR HO hb hb1 hlw HG1 HR1 hb2 HIa HIr
        go_wp2_with (with_reducible refine wpList_store_row rfl 155 _ _ rfl (B + 1 + 1) (lmc nx) rfl rfl 155 _ HO1.out HIn.out HOn.out H1n.out ?_)
        go_roundw
        case rel => exact ⟨m + 1, _, by have := HRS.out; omega, rfl, HNx.out, HG2.out, HR2.out, by rw [← HNE.out]; exact HO2.out, hb3⟩
        case measure => exact HNXS.out
      · have hb1 : (rem.size : Int) < 16 := by omega
        have hb1' : ¬ (16 : Int) ≤ (rem.size : Int) := by omega
        have hps : rem.size ≤ 16 := by omega
        have HPc := Lib.hid (fun W => pieceNumber_any rem W hps)
        rw [piece_whole2 rem _ HRem.out (by omega)] at HPc
        have HPn : Hid (leN ((data.data.toList.drop (16 * m)).take 16 ++ [1]) = pieceN data.data.toList m) := Lib.hid rfl
        rw [HPn.out] at HPc
        have hpl := numL_length (pieceN data.data.toList m)
        have hpi := numL_in (pieceN data.data.toList m)
        clear HPn hps
        generalize numL (pieceN data.data.toList m) = p at *
        have hsl : (sumL (accL r data.data.toList m) p 5).length = 5 := by rw [sumL_length, HAL.out]
        have hsi := sumIn _ _ HAL.out hpl _ _ HAm.out hpi
        have HPl := Lib.hid (fun W => plus_any (accL r data.data.toList m) p W HAL.out hpl (fun x hx => by obtain ⟨a, b⟩ := HAm.out x hx; exact ⟨a, by omega⟩) (fun x hx => by obtain ⟨a, b⟩ := hpi x hx; exact ⟨a, by omega⟩))
        have HT := Lib.hid (fun W => ownTimes_any (sumL (accL r data.data.toList m) p 5) r W hsl HRL.out (fun x hx => by obtain ⟨a, b⟩ := hsi x hx; exact ⟨a, by omega⟩) HRI.out)
        rw [← HACC.out] at HT
        have HIa := Lib.hid (sizeN _ HAL.out)
        have HIr := Lib.hid (sizeN _ HRL.out)
        have HIn := Lib.hid (sizeN _ HAL1.out)
        have HOn := Lib.hid (show (lmc (accL r data.data.toList m)).size = (lmc (accL r data.data.toList (m + 1))).size from by rw [lmc_size, lmc_size, HAL.out, HAL1.out])
        have H1n := Lib.hid (lmc_one (accL r data.data.toList (m + 1)))
        have HNx := Lib.hid (show ByteArray.empty.data.toList = data.data.toList.drop (16 * (m + 1)) from by
          rw [List.drop_of_length_le (show data.data.toList.length ≤ 16 * (m + 1) by rw [← Lib.size_eq]; have := HRS.out; omega)]; rfl)
        have HNXS := Lib.hid (show ByteArray.empty.size < rem.size from hpos)
        clear hsl hsi hpl hpi HACC HAm HAL HAL1 HAI HRem
        obtain ⟨nx, hnx⟩ : ∃ x, x = accL r data.data.toList (m + 1) := ⟨_, rfl⟩
        rw [← hnx] at HT HIn HOn H1n
        have HNE := Lib.hid hnx
        clear hnx
        generalize accL r data.data.toList m = al at *
        generalize sumL al p 5 = sl at *
        go_wp2_with fail
        refine wp_region_reads_tail 8 (by kernel_rfl) (by kernel_rfl) ?_
        simp only [List.take_succ_cons, List.take_zero, List.drop_succ_cons, List.drop_zero]
        refine wpQuiet_load_row rfl 155 _ rfl (B + 1 + 1) rfl 155 _ (0, 0) _ HO.out Tryz.underlying155 rfl HIa.out ?_
        simp only [Act.put, List.setIfInBounds_toArray, List.set_cons_succ, List.set_cons_zero]
        repeat (first | go_big_quiet_step ((first | exact Calls.regrown_of (HPc.out _) | exact Calls.regrown_of (HPl.out _) | exact Calls.regrown_of (HT.out _))) | quiet_step ((first | exact Calls.regrown_of (HPc.out _) | exact Calls.regrown_of (HPl.out _) | exact Calls.regrown_of (HT.out _))))
        refine wpQuiet_load_row rfl 155 _ rfl B rfl 155 _ (0, 0) _ HG.out Tryz.underlying155 rfl HIr.out ?_
        simp only [Act.put, List.setIfInBounds_toArray, List.set_cons_succ, List.set_cons_zero]
        repeat (first | go_big_quiet_step ((first | exact Calls.regrown_of (HPc.out _) | exact Calls.regrown_of (HPl.out _) | exact Calls.regrown_of (HT.out _))) | quiet_step ((first | exact Calls.regrown_of (HPc.out _) | exact Calls.regrown_of (HPl.out _) | exact Calls.regrown_of (HT.out _))))
        refine wpQuiet_nil ?_
        intro W1 hb1
        have hlw := blk_lt HO.out
        have HG1 := Lib.hid (blk_below hb1 (by omega) HG.out)
        have HR1 := Lib.hid (blk_below hb1 (by omega) HR.out)
        have HO1 := Lib.hid (blk_below hb1 hlw HO.out)
        have hb2 : Below B w W1 := hb.trans (hb1.mono (by omega))
        have HO2 := Lib.hid (setRow_heap W1 (B + 1 + 1) _ (lmc nx) _ _ HO1.out)
        have HG2 := Lib.hid (show (W1.setRow (B + 1 + 1) (lmc nx)).heap[B]? = some (.cells (lmc r) 155) from by rw [setRow_other _ _ _ _ (by omega)]; exact HG1.out)
        have HR2 := Lib.hid (show (W1.setRow (B + 1 + 1) (lmc nx)).heap[B + 1]? = some (.cells zeros5 155) from by rw [setRow_other _ _ _ _ (by omega)]; exact HR1.out)
        have hb3 : Below B w (W1.setRow (B + 1 + 1) (lmc nx)) := below_setRow hb2 (by omega) _
        clear HPc HPl HT HG HR HO hb hb1 hlw HG1 HR1 hb2 HIa HIr
        go_wp2_with (with_reducible refine wpList_store_row rfl 155 _ _ rfl (B + 1 + 1) (lmc nx) rfl rfl 155 _ HO1.out HIn.out HOn.out H1n.out ?_)
        go_roundw
        case rel => exact ⟨m + 1, _, by have := HRS.out; omega, rfl, HNx.out, HG2.out, HR2.out, by rw [← HNE.out]; exact HO2.out, hb3⟩
        case measure => exact HNXS.out
    · have hdp : decide ((0 : Int) < (rem.size : Int)) = false := decide_eq_false (by omega)
      have hmm : m = (data.size + 15) / 16 := by have := HRS.out; omega
      have HROW : Hid (accL r data.data.toList m = accL r data.data.toList ((data.size + 15) / 16)) := Lib.hid (by rw [hmm])
      have hll := HAL.out
      clear hmm HACC HAL HAL1 HAm HAI
      generalize accL r data.data.toList m = row at *
      have HI2 := Lib.hid (sizeN row hll)
      have HSz := Lib.hid (zeros5_size row hll)
      have HOne := Lib.hid (lmc_one row)
      clear hll
      go_wp2_with (first
        | (with_reducible refine wpList_load_row rfl 155 _ rfl (B + 1 + 1) rfl 155 _ (0, 0) _ HO.out Tryz.underlying155 rfl HI2.out ?_)
        | (with_reducible refine wpList_store_row rfl 155 _ _ rfl (B + 1) (lmc row) rfl rfl 155 _ HR.out HI2.out HSz.out HOne.out ?_))
      exact bodyPost_ret (v := .agg (lmc row)) (results_cell_row (by rfl) _ _ (B + 1) 155 _ (0, 0) _ rfl (setRow_heap _ _ _ _ _ _ HR.out) Tryz.underlying155 rfl HI2.out) rfl ⟨by rw [HROW.out], by rw [HBB.out]; exact below_setRow hb (by omega) _⟩
end

section
open Go.RowKit Go.Sort
set_option maxRecDepth 100000
set_option linter.unusedSimpArgs false
set_option linter.unusedVariables false

theorem ownTagKey_any (key data : ByteArray) (w : World) (hk : key.size ≠ 32) :
    Calls Tryz.prog 96 #[.string key, .string data] w fun e w' => e = .returned (.tuple #[.string ⟨#[]⟩, .int .i64 21]) ∧ Below w.heap.size w w' := by
  have hd1 : ((key.size : Int) != 32) = true := by simp; omega
  go_enter Tryz.func96, Tryz.ntmps96
  go_wp2_with fail
  go_ret2
  exact ⟨rfl, Below.refl _ _⟩

set_option maxHeartbeats 1000000 in
theorem ownTag_any (key data : ByteArray) (w : World) (hk : key.size = 32) (hd : data.size ≤ 1099511627776) :
    Calls Tryz.prog 96 #[.string key, .string data] w fun e w' => e = .returned (.tuple #[.string ⟨(polyTag key.data.toList data.data.toList).toArray⟩, .int .i64 0]) ∧ Below w.heap.size w w' := by
  obtain ⟨hz, hi⟩ := zero_of_info infoN
  obtain ⟨hz16, hi16⟩ := zero_of_info infoB16
  have hd1 : ((key.size : Int) != 32) = false := by simp [hk]
  have h16 : (16 : Int) ≤ (key.size : Int) := by omega
  have HK := Lib.hid hk
  clear hi hi16 hk
  go_enter Tryz.func96, Tryz.ntmps96
  go_wp2_with fail
  have hka : (key.extract 0 16).size = 16 := by rw [ByteArray.size_extract, HK.out]; omega
  have hkb : (key.extract 16 key.size).size = 16 := by rw [ByteArray.size_extract, Nat.min_self, HK.out]
  have hkl : key.data.toList.length = 32 := by rw [← Lib.size_eq]; exact HK.out
  have ha1 : (key.extract 0 16).data.toList = key.data.toList.take 16 := by rw [Lib.extract_data]; simp
  have ha2 : (key.extract 16 key.size).data.toList = key.data.toList.drop 16 := by rw [Lib.extract_data, List.take_of_length_le (by rw [List.length_drop, ← Lib.size_eq]; exact Nat.le_refl _)]
  have HT := Lib.hid (ownTag_eq key.data.toList data.data.toList hkl)
  have HF := Lib.hid (fun W => factor_any (key.extract 0 16) W hka)
  have HS := Lib.hid (fun W => summand_any (key.extract 16 key.size) W hkb)
  rw [ha1] at HF; rw [ha2] at HS
  have hN : leN (clampL (key.data.toList.take 16)) < 1361129467683753853853498429727072845824 := by
    have h1 := leN_lt (clampL (key.data.toList.take 16))
    have h2 : (256 : Nat) ^ 16 < 1361129467683753853853498429727072845824 := by decide
    rw [clampL_length, List.length_take, hkl, show min 16 32 = 16 from rfl] at h1
    omega
  have HA := Lib.hid (fun W => accumulated_any _ data W hN hd)
  obtain ⟨_, a2, a3⟩ := acc_spec _ hN data.data.toList ((data.size + 15) / 16)
  have hal := accL_length (numL (leN (clampL (key.data.toList.take 16)))) data.data.toList ((data.size + 15) / 16)
  have hsz : data.data.toList.length = data.size := (Lib.size_eq data).symm
  rw [hsz] at HT
  have hsl := numL_length (leN (key.data.toList.drop 16))
  have hRl := numL_length (leN (clampL (key.data.toList.take 16)))
  have hsi := numL_in (leN (key.data.toList.drop 16))
  clear hkl ha1 ha2 hN hsz hka hkb
  generalize numL (leN (clampL (key.data.toList.take 16))) = R at *
  generalize numL (leN (key.data.toList.drop 16)) = Sm at *
  generalize accL R data.data.toList ((data.size + 15) / 16) = A at *
  have HRd := Lib.hid (fun W => reduced_any A W hal (fun x hx => by obtain ⟨a, b⟩ := a2 x hx; exact ⟨a, by omega⟩) a3)
  have hrl : (reducedL A).length = 5 := by rw [reducedL_length, hal]
  have hri : digitsIn 67108863 (reducedL A) := spreadL_in _ (by simpa using hal)
  generalize reducedL A = RA at *
  have HP := Lib.hid (fun W => plus_any RA Sm W hrl hsl (fun x hx => by obtain ⟨a, b⟩ := hri x hx; exact ⟨a, by omega⟩) (fun x hx => by obtain ⟨a, b⟩ := hsi x hx; exact ⟨a, by omega⟩))
  have htl : (sumL RA Sm 5).length = 5 := by rw [sumL_length, hrl]
  have hti := sumIn _ _ hrl hsl _ _ hri hsi
  generalize sumL RA Sm 5 = T at *
  have HLo := Lib.hid (fun W => low_any T W htl (fun x hx => by obtain ⟨a, b⟩ := hti x hx; exact ⟨a, by omega⟩))
  rw [HT.out] at HLo
  have HPL := Lib.hid (show (polyTag key.data.toList data.data.toList).length = 16 from leOut_length _ _)
  generalize hpt : polyTag key.data.toList data.data.toList = pt at *
  have HPT := Lib.hid hpt
  have HIR := Lib.hid (sizeN R hRl)
  have HOR := Lib.hid (zeros5_size R hRl)
  have H1R := Lib.hid (lmc_one R)
  have HIS := Lib.hid (sizeN Sm hsl)
  have HOS := Lib.hid (zeros5_size Sm hsl)
  have H1S := Lib.hid (lmc_one Sm)
  clear hpt a2 a3 hal hsi hrl hri htl hti HT hsl
  refine wp_region_fresh 8 27 [.val (.string key) [(0, .string key)], .val (.string (key.extract 0 16)) [(12, .string key)], .val (.agg (lmc R)) [(13, .string (key.extract 0 16))],
    .val (.string key) [(0, .string key)], .val (.string (key.extract 16 key.size)) [(15, .string key)], .val (.agg (lmc Sm)) [(16, .string (key.extract 16 key.size))], .fresh (.cells zeros5 155), .fresh (.cells zeros5 155)]
    (by kernel_rfl) (by kernel_rfl) rfl ?_ ?_ ?_
  · simp only [List.take_succ_cons, List.take_zero, headObl, specObl, HeadSpec.val, HeadSpec.fresh, and_true]
    refine ⟨?_, ?_, ?_, ?_, ?_, ?_, ?_, ?_⟩
    · intro a w hb h
      have e := h (0, .string key) (by simp)
      simp only [Array.getD_eq_getD_getElem?] at e
      simp [go_sem, e, sQuiet]
    · intro a w hb h
      have e := h (12, .string key) (by simp)
      simp only [Array.getD_eq_getD_getElem?] at e
      simp [go_sem, e, sQuiet, h16]
    · intro a w hb h
      have e := h (13, .string (key.extract 0 16)) (by simp)
      simp only [Array.getD_eq_getD_getElem?] at e
      simp [go_sem, e, sQuiet]
      exact HF.out w
    · intro a w hb h
      have e := h (0, .string key) (by simp)
      simp only [Array.getD_eq_getD_getElem?] at e
      simp [go_sem, e, sQuiet]
    · intro a w hb h
      have e := h (15, .string key) (by simp)
      simp only [Array.getD_eq_getD_getElem?] at e
      simp [go_sem, e, sQuiet, h16]
    · intro a w hb h
      have e := h (16, .string (key.extract 16 key.size)) (by simp)
      simp only [Array.getD_eq_getD_getElem?] at e
      simp [go_sem, e, sQuiet]
      exact HS.out w
    · intro a w hb
      simp [go_sem, hz]
    · intro a w hb
      simp [go_sem, hz]
  · simp [headReads, headPut, specV, HeadSpec.val, HeadSpec.fresh, Act.put]
  · simp only [List.take_succ_cons, List.take_zero, List.drop_succ_cons, List.drop_zero, headEnd, HeadSpec.val, HeadSpec.fresh, Act.put, List.setIfInBounds_toArray, List.set_cons_succ, List.set_cons_zero]
    intro g6 hg6 _ g7 hg7 h67 w1 hb1 hgs
    have h67' : g6 ≠ g7 := h67 (g6, .cells zeros5 155) (by simp)
    have HG6 := Lib.hid (show w1.heap[g6]? = some (.cells zeros5 155) from hgs (g6, .cells zeros5 155) (by simp))
    have HG7 := Lib.hid (show w1.heap[g7]? = some (.cells zeros5 155) from hgs (g7, .cells zeros5 155) (by simp))
    clear h67 hgs HF HS
    have HR6 := Lib.hid (setRow_heap w1 g6 _ (lmc R) _ _ HG6.out)
    have HG7' := Lib.hid (show (w1.setRow g6 (lmc R)).heap[g7]? = some (.cells zeros5 155) from by rw [setRow_other _ _ _ _ (Ne.symm h67')]; exact HG7.out)
    have HR7 := Lib.hid (setRow_heap (w1.setRow g6 (lmc R)) g7 _ (lmc Sm) _ _ HG7'.out)
    have HR6' := Lib.hid (show ((w1.setRow g6 (lmc R)).setRow g7 (lmc Sm)).heap[g6]? = some (.cells (lmc R) 155) from by rw [setRow_other _ _ _ _ h67']; exact HR6.out)
    have hb2 : Below w.heap.size w ((w1.setRow g6 (lmc R)).setRow g7 (lmc Sm)) := below_setRow (below_setRow hb1 hg6 _) hg7 _
    go_wp2_with (first
      | (with_reducible refine wpList_store_row rfl 155 _ _ rfl g6 (lmc R) rfl rfl 155 _ HG6.out HIR.out HOR.out H1R.out ?_)
      | (with_reducible refine wpList_store_row rfl 155 _ _ rfl g7 (lmc Sm) rfl rfl 155 _ HG7'.out HIS.out HOS.out H1S.out ?_))
    clear HG6 HG7 HG7' HR6 hb1
    generalize (World.setRow (World.setRow _ _ _) _ _) = w2 at *
    simp only [Act.put]
    clear hd1 h16 HK hd
    refine wp_region_fresh 8 27 [.val (.agg (lmc R)) [(6, .pointer (some ⟨g6, 0, none⟩))], .val (.string data) [(1, .string data)], .val (.agg (lmc A)) [(18, .agg (lmc R)), (19, .string data)], .val (.agg (lmc RA)) [(20, .agg (lmc A))],
      .val (.agg (lmc Sm)) [(7, .pointer (some ⟨g7, 0, none⟩))], .val (.agg (lmc T)) [(21, .agg (lmc RA)), (22, .agg (lmc Sm))], .val (.agg (bcells pt)) [(23, .agg (lmc T))], .fresh (.cells bzeros16 118)]
      (by kernel_rfl) (by kernel_rfl) rfl ?_ ?_ ?_
    · simp only [List.take_succ_cons, List.take_zero, headObl, specObl, HeadSpec.val, HeadSpec.fresh, and_true]
      refine ⟨?_, ?_, ?_, ?_, ?_, ?_, ?_, ?_⟩
      · intro a w hb h
        have e0 := h (6, .pointer (some ⟨g6, 0, none⟩)) (by simp)
        exact sQuiet_load_row 155 (.tmp 6) rfl g6 e0 155 _ (0, 0) _ (blk_below hb (blk_lt HR6'.out) HR6'.out) Tryz.underlying155 rfl HIR.out
      · intro a w hb h
        have e0 := h (1, .string data) (by simp)
        simp only [Array.getD_eq_getD_getElem?] at e0
        simp [go_sem, e0, sQuiet]
      · intro a w hb h
        have e0 := h (18, .agg (lmc R)) (by simp)
        have e1 := h (19, .string data) (by simp)
        simp only [Array.getD_eq_getD_getElem?] at e0 e1
        simp [go_sem, e0, e1, sQuiet]
        exact HA.out w
      · intro a w hb h
        have e0 := h (20, .agg (lmc A)) (by simp)
        simp only [Array.getD_eq_getD_getElem?] at e0
        simp [go_sem, e0, sQuiet]
        exact HRd.out w
      · intro a w hb h
        have e0 := h (7, .pointer (some ⟨g7, 0, none⟩)) (by simp)
        exact sQuiet_load_row 155 (.tmp 7) rfl g7 e0 155 _ (0, 0) _ (blk_below hb (blk_lt HR7.out) HR7.out) Tryz.underlying155 rfl HIS.out
      · intro a w hb h
        have e0 := h (21, .agg (lmc RA)) (by simp)
        have e1 := h (22, .agg (lmc Sm)) (by simp)
        simp only [Array.getD_eq_getD_getElem?] at e0 e1
        simp [go_sem, e0, e1, sQuiet]
        exact HP.out w
      · intro a w hb h
        have e0 := h (23, .agg (lmc T)) (by simp)
        simp only [Array.getD_eq_getD_getElem?] at e0
        simp [go_sem, e0, sQuiet]
        exact HLo.out w
      · intro a w hb
        simp [go_sem, hz16]
    · simp [headReads, headPut, specV, HeadSpec.val, HeadSpec.fresh, Act.put]
    · simp only [List.take_succ_cons, List.take_zero, List.drop_succ_cons, List.drop_zero, headEnd, HeadSpec.val, HeadSpec.fresh, Act.put, List.setIfInBounds_toArray, List.set_cons_succ, List.set_cons_zero]
      intro g8 hg8 _ w3 hb3 hgs
      have HG8 := Lib.hid (show w3.heap[g8]? = some (.cells bzeros16 118) from hgs (g8, .cells bzeros16 118) (by simp))
      have HR8 := Lib.hid (setRow_heap w3 g8 _ (bcells pt) _ _ HG8.out)
      have hbF : Below w.heap.size w (w3.setRow g8 (bcells pt)) := below_setRow (hb2.trans (hb3.mono hb2.size)) (Nat.le_trans hb2.size hg8) _
      have HIB := Lib.hid (sizeB16 pt HPL.out)
      have HOB := Lib.hid (bzeros16_size pt HPL.out)
      have H1B := Lib.hid (pbcells_one pt)
      have sl := sliced_whole 118 16 g8 (by kernel_rfl) (by kernel_rfl) (by kernel_rfl) (by omega)
      have hcv := run_string_row (w3.setRow g8 (bcells pt)) g8 16 pt (cells_of_bcells HR8.out)
      rw [HPL.out] at hcv
      clear HA HRd HP HLo HR6' HR7 hgs hb2 hb3 hg6 hg7 h67'
      go_wp2_with (with_reducible refine wpList_store_row rfl 118 _ _ rfl g8 (bcells pt) rfl rfl 118 _ HG8.out HIB.out HOB.out H1B.out ?_)
      go_ret2
      exact ⟨by rw [HPT.out]; rfl, hbF⟩
end
end Go.Proofs.YtffnafikegakcaaGreatDoor
