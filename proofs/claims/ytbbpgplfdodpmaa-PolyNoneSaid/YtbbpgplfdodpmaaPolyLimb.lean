/- Numbers as five limbs of 26 bits, modulo 2 to the 130 less 5: the arithmetic of the program. -/
import Derived.Test.YtbbpgplfdodpmaaPolyTag
namespace Go.Proofs.Ytbbpgplfdodpmaa
open Go.RowKit Go.Sort
set_option maxRecDepth 100000
set_option linter.unusedSimpArgs false
set_option linter.unusedVariables false

/-- The number that limbs are. -/
def limV : List Int → Int
  | [] => 0
  | x :: r => x + 67108864 * limV r
theorem limV_set (v : List Int) (j : Nat) (x : Int) (h : j < v.length) : limV (v.set j x) = limV v + (x - v.getD j 0) * 67108864 ^ j := by
  induction v generalizing j with
  | nil => simp at h
  | cons y r ih =>
    cases j with
    | zero => simp [limV]; omega
    | succ j =>
      have h' : j < r.length := by simpa using h
      simp only [List.set_cons_succ, limV, ih j h', List.getD_cons_succ, Int.pow_succ]
      rw [Int.mul_add, Int.mul_comm 67108864 ((x - r.getD j 0) * 67108864 ^ j), Int.mul_assoc]; omega
theorem limV_append (a b : List Int) : limV (a ++ b) = limV a + 67108864 ^ a.length * limV b := by
  induction a with
  | nil => simp [limV]
  | cons x r ih => simp only [List.cons_append, limV, ih, List.length_cons, Int.pow_succ]; rw [Int.mul_add, ← Int.mul_assoc, Int.mul_comm 67108864 (67108864 ^ r.length)]; omega
theorem limV_zeros (n : Nat) : limV (List.replicate n 0) = 0 := by
  induction n with
  | zero => rfl
  | succ n ih => simp [List.replicate_succ, limV, ih]
theorem limV_take (v : List Int) (k : Nat) (h : k < v.length) : limV (v.take (k + 1)) = limV (v.take k) + v.getD k 0 * 67108864 ^ k := by
  rw [List.take_succ_eq_append_getElem h, limV_append, List.length_take, Nat.min_eq_left (Nat.le_of_lt h)]
  simp [limV, h, Int.mul_comm]
theorem limV_bound (v : List Int) (h : digitsIn 67108863 v) : 0 ≤ limV v ∧ limV v < 67108864 ^ v.length := by
  induction v with
  | nil => simp [limV]
  | cons x r ih =>
    obtain ⟨h1, h2⟩ := ih (fun y hy => h y (by simp [hy]))
    obtain ⟨h3, h4⟩ := h x (by simp)
    simp only [limV, List.length_cons, Int.pow_succ]
    omega
theorem limV_nonneg (v : List Int) (m : Int) (h : digitsIn m v) : 0 ≤ limV v := by
  induction v with
  | nil => simp [limV]
  | cons x r ih =>
    have h1 := ih (fun y hy => h y (by simp [hy]))
    obtain ⟨h3, h4⟩ := h x (by simp)
    simp only [limV]
    omega
theorem five_lims (v : List Int) (h : v.length = 5) : ∃ x0 x1 x2 x3 x4, v = [x0, x1, x2, x3, x4] := by
  match v, h with
  | [x0, x1, x2, x3, x4], _ => exact ⟨_, _, _, _, _, rfl⟩
theorem ten_lims (v : List Int) (h : v.length = 10) : ∃ x0 x1 x2 x3 x4 x5 x6 x7 x8 x9, v = [x0, x1, x2, x3, x4, x5, x6, x7, x8, x9] := by
  match v, h with
  | [x0, x1, x2, x3, x4, x5, x6, x7, x8, x9], _ => exact ⟨_, _, _, _, _, _, _, _, _, _, rfl⟩
/-- The limbs spread, one behind the other. -/
def spG (v : List Int) : Nat → List Int × Int
  | 0 => (v, 0)
  | k + 1 => ((spG v k).1.set k (((spG v k).1.getD k 0 + (spG v k).2) % 67108864), ((spG v k).1.getD k 0 + (spG v k).2) / 67108864)
theorem spG_length (v : List Int) (k : Nat) : (spG v k).1.length = v.length := by induction k with | zero => rfl | succ k ih => simp [spG, ih]
theorem spG_get (v : List Int) (k j : Nat) (h : k ≤ j) : (spG v k).1.getD j 0 = v.getD j 0 := by
  induction k with
  | zero => rfl
  | succ k ih =>
    rw [← ih (by omega)]
    simp [spG, List.getD_eq_getElem?_getD, List.getElem?_set, show ¬ k = j by omega]
theorem spG_carry (v : List Int) (hv : digitsIn 4611686018427387904 v) (k : Nat) (hk : k ≤ v.length) : 0 ≤ (spG v k).2 ∧ (spG v k).2 ≤ 68719480000 := by
  induction k with
  | zero => simp [spG]
  | succ k ih =>
    obtain ⟨h0, h1⟩ := ih (by omega)
    obtain ⟨a0, a1⟩ := getD_in hv k (by omega)
    simp only [spG]
    rw [spG_get v k k (Nat.le_refl _)]
    omega
theorem spG_V (v : List Int) (k : Nat) (hk : k ≤ v.length) : limV (spG v k).1 + 67108864 ^ k * (spG v k).2 = limV v := by
  induction k with
  | zero => simp [spG]
  | succ k ih =>
    rw [← ih (by omega)]
    simp only [spG]
    rw [limV_set _ _ _ (by rw [spG_length]; omega)]
    generalize (spG v k).1.getD k 0 = x
    generalize (spG v k).2 = c
    have e : x + c = 67108864 * ((x + c) / 67108864) + (x + c) % 67108864 := by omega
    generalize (x + c) / 67108864 = q at *
    generalize (x + c) % 67108864 = r at *
    have e2 : x = 67108864 * q + r - c := by omega
    subst e2
    rw [Int.pow_succ]
    generalize (67108864 : Int) ^ k = t
    rw [show r - (67108864 * q + r - c) = c - 67108864 * q by omega, Int.sub_mul, Int.mul_comm c t, Int.mul_assoc t 67108864 q, Int.mul_comm (67108864 * q) t]
    omega
theorem spG_in (v : List Int) (k : Nat) (hk : k ≤ v.length) : ∀ j, j < k → 0 ≤ (spG v k).1.getD j 0 ∧ (spG v k).1.getD j 0 ≤ 67108863 := by
  induction k with
  | zero => intro j h; omega
  | succ k ih =>
    intro j hj
    by_cases h : j = k
    · subst h
      have e : (spG v (j + 1)).1.getD j 0 = ((spG v j).1.getD j 0 + (spG v j).2) % 67108864 := by
        simp [spG, List.getD_eq_getElem?_getD, spG_length, show j < v.length by omega]
      rw [e]; omega
    · have e : (spG v (k + 1)).1.getD j 0 = (spG v k).1.getD j 0 := by
        simp [spG, List.getD_eq_getElem?_getD, List.getElem?_set, show ¬ k = j by omega]
      rw [e]; exact ih (by omega) j (by omega)
def spreadL (v : List Int) : List Int := (spG v 5).1
def spreadC (v : List Int) : Int := (spG v 5).2
theorem spreadL_length (v : List Int) : (spreadL v).length = v.length := spG_length v 5
theorem in_of_getD {m : Int} {v : List Int} (h : ∀ j, j < v.length → 0 ≤ v.getD j 0 ∧ v.getD j 0 ≤ m) : digitsIn m v := by
  intro x hx
  obtain ⟨j, hj, rfl⟩ := List.mem_iff_getElem.1 hx
  have := h j hj
  simpa [hj] using this
theorem spreadL_in (v : List Int) (hl : v.length = 5) : digitsIn 67108863 (spreadL v) := in_of_getD fun j hj => spG_in v 5 (by omega) j (by rw [spreadL_length] at hj; omega)
theorem spread_V (v : List Int) (hl : v.length = 5) : limV (spreadL v) = limV v % 1361129467683753853853498429727072845824 ∧ spreadC v = limV v / 1361129467683753853853498429727072845824 := by
  have h1 := spG_V v 5 (by omega)
  have h2 := limV_bound _ (spreadL_in v hl)
  rw [spreadL_length, hl] at h2
  rw [show (67108864 : Int) ^ 5 = 1361129467683753853853498429727072845824 by decide] at h1 h2
  unfold spreadL spreadC at *
  omega
/-- Spread, what leaves the top brought back. -/
def carrL (v : List Int) : List Int := (spreadL v).set 0 ((spreadL v).getD 0 0 + 5 * spreadC v)
theorem carrL_length (v : List Int) : (carrL v).length = v.length := by simp [carrL, spreadL_length]
theorem carrL_V (v : List Int) (hl : v.length = 5) : limV (carrL v) = limV v - polyP * (limV v / 1361129467683753853853498429727072845824) := by
  obtain ⟨h1, h2⟩ := spread_V v hl
  rw [carrL, limV_set _ _ _ (by rw [spreadL_length]; omega), h1, h2]
  simp only [Int.pow_zero, Int.mul_one, polyP]
  omega
theorem carrL_in (v : List Int) (hl : v.length = 5) (m : Int) (h0 : 0 ≤ limV v) (h1 : limV v / 1361129467683753853853498429727072845824 ≤ m) : 0 ≤ (carrL v).getD 0 0 ∧ (carrL v).getD 0 0 ≤ 67108863 + 5 * m ∧ digitsIn (67108863 + 5 * m) (carrL v) ∧ ∀ j, 1 ≤ j → j < 5 → 0 ≤ (carrL v).getD j 0 ∧ (carrL v).getD j 0 ≤ 67108863 := by
  obtain ⟨e1, e2⟩ := spread_V v hl
  have hsl : (spreadL v).length = 5 := by rw [spreadL_length, hl]
  have hq : 0 ≤ limV v / 1361129467683753853853498429727072845824 := by omega
  have hs := getD_in (spreadL_in v hl) 0 (by omega)
  have hx : 0 ≤ (spreadL v).getD 0 0 + 5 * spreadC v ∧ (spreadL v).getD 0 0 + 5 * spreadC v ≤ 67108863 + 5 * m := by rw [e2]; omega
  have g0 : (carrL v).getD 0 0 = (spreadL v).getD 0 0 + 5 * spreadC v := by simp [carrL, List.getD_eq_getElem?_getD, hsl]
  refine ⟨by rw [g0]; exact hx.1, by rw [g0]; exact hx.2, digitsIn_set (spreadL_in v hl) (by omega) 0 _ hx.1 hx.2, fun j h1 h5 => ?_⟩
  have gj : (carrL v).getD j 0 = (spreadL v).getD j 0 := by simp [carrL, List.getD_eq_getElem?_getD, List.getElem?_set, show ¬ 0 = j by omega]
  rw [gj]; exact getD_in (spreadL_in v hl) j (by omega)
/-- Sums, limb by limb. -/
theorem sumV (a d : List Int) (ha : a.length = 5) (hd : d.length = 5) : limV (sumL a d 5) = limV a + limV d := by
  obtain ⟨a0, a1, a2, a3, a4, rfl⟩ := five_lims a ha
  obtain ⟨d0, d1, d2, d3, d4, rfl⟩ := five_lims d hd
  simp [sumL, limV]
  omega
theorem sumIn (a d : List Int) (ha : a.length = 5) (hd : d.length = 5) (m n : Int) (hm : digitsIn m a) (hn : digitsIn n d) : digitsIn (m + n) (sumL a d 5) := by
  obtain ⟨a0, a1, a2, a3, a4, rfl⟩ := five_lims a ha
  obtain ⟨d0, d1, d2, d3, d4, rfl⟩ := five_lims d hd
  simp [digitsIn] at hm hn
  intro x hx
  simp [sumL] at hx
  rcases hx with rfl | rfl | rfl | rfl | rfl <;> omega
/-- The products of limbs. -/
def wStep (a b out : List Int) (i k : Nat) : List Int := out.set (i + k) (out.getD (i + k) 0 + a.getD i 0 * b.getD k 0)
def wRow (a b out : List Int) (i : Nat) : Nat → List Int
  | 0 => out
  | k + 1 => wStep a b (wRow a b out i k) i k
def wAll (a b : List Int) : Nat → List Int
  | 0 => List.replicate 10 0
  | i + 1 => wRow a b (wAll a b i) i 5
theorem wRow_length (a b out : List Int) (i k : Nat) : (wRow a b out i k).length = out.length := by induction k with | zero => rfl | succ k ih => simp [wRow, wStep, ih]
theorem wAll_length (a b : List Int) (i : Nat) : (wAll a b i).length = 10 := by induction i with | zero => simp [wAll] | succ i ih => rw [wAll, wRow_length, ih]
theorem wRow_V (a b out : List Int) (i : Nat) (ho : out.length = 10) (hb : b.length = 5) (hi : i < 5) : ∀ k, k ≤ 5 → limV (wRow a b out i k) = limV out + a.getD i 0 * 67108864 ^ i * limV (b.take k) := by
  intro k
  induction k with
  | zero => intro _; simp [wRow, limV]
  | succ k ih =>
    intro hk
    have h1 := ih (by omega)
    rw [wRow, wStep, limV_set _ _ _ (by rw [wRow_length, ho]; omega), h1, limV_take b k (by omega), Int.mul_add]
    generalize (wRow a b out i k).getD (i + k) 0 = x
    have : x + a.getD i 0 * b.getD k 0 - x = a.getD i 0 * b.getD k 0 := by omega
    rw [this, Int.pow_add]
    have e : a.getD i 0 * b.getD k 0 * (67108864 ^ i * 67108864 ^ k) = a.getD i 0 * 67108864 ^ i * (b.getD k 0 * 67108864 ^ k) := by
      rw [Int.mul_assoc, Int.mul_assoc, Int.mul_left_comm (b.getD k 0)]
    rw [e]; omega
theorem wAll_V (a b : List Int) (ha : a.length = 5) (hb : b.length = 5) : ∀ i, i ≤ 5 → limV (wAll a b i) = limV (a.take i) * limV b := by
  intro i
  induction i with
  | zero => intro _; rw [wAll, limV_zeros]; simp [limV]
  | succ i ih =>
    intro hi
    rw [wAll, wRow_V a b _ i (wAll_length _ _ _) hb (by omega) 5 (by omega), ih (by omega), List.take_of_length_le (show b.length ≤ 5 by omega), limV_take a i (by omega), Int.add_mul]
theorem wStep_in (a b out : List Int) (i k n : Nat) (ha : digitsIn 268435455 a) (hb : digitsIn 67108863 b) (hal : a.length = 5) (hbl : b.length = 5) (hi : i < 5) (hk : k < 5) (hol : out.length = 10) (ho : digitsIn (18014398509481984 * (n : Int)) out) : digitsIn (18014398509481984 * ((n + 1 : Nat) : Int)) (wStep a b out i k) := by
  obtain ⟨a0, a1⟩ := getD_in ha i (by omega)
  obtain ⟨b0, b1⟩ := getD_in hb k (by omega)
  have p0 : 0 ≤ a.getD i 0 * b.getD k 0 := Int.mul_nonneg a0 b0
  have p1 : a.getD i 0 * b.getD k 0 ≤ 268435455 * 67108863 := Int.mul_le_mul a1 b1 b0 (by omega)
  obtain ⟨o0, o1⟩ := getD_in ho (i + k) (by omega)
  exact digitsIn_set ho (by omega) _ _ (by omega) (by omega)
theorem wRow_in (a b out : List Int) (i n : Nat) (ha : digitsIn 268435455 a) (hb : digitsIn 67108863 b) (hal : a.length = 5) (hbl : b.length = 5) (hi : i < 5) (hol : out.length = 10) (ho : digitsIn (18014398509481984 * (n : Int)) out) : ∀ k, k ≤ 5 → digitsIn (18014398509481984 * ((n + k : Nat) : Int)) (wRow a b out i k) := by
  intro k
  induction k with
  | zero => intro _; exact ho
  | succ k ih => intro hk; exact wStep_in a b _ i k (n + k) ha hb hal hbl hi (by omega) (by rw [wRow_length, hol]) (ih (by omega))
theorem wAll_in (a b : List Int) (ha : digitsIn 268435455 a) (hb : digitsIn 67108863 b) (hal : a.length = 5) (hbl : b.length = 5) : ∀ i, i ≤ 5 → digitsIn (18014398509481984 * ((5 * i : Nat) : Int)) (wAll a b i) := by
  intro i
  induction i with
  | zero => intro _ x hx; rw [wAll] at hx; have := List.eq_of_mem_replicate hx; omega
  | succ i ih => intro hi; exact wRow_in a b _ i (5 * i) ha hb hal hbl (by omega) (wAll_length _ _ _) (ih (by omega)) 5 (by omega)
/-- The upper half, five times, on the lower one. -/
def foldG (a u : List Int) : Nat → List Int
  | 0 => a
  | k + 1 => (foldG a u k).set k (u.getD k 0 + 5 * u.getD (5 + k) 0)
theorem foldG_length (a u : List Int) (k : Nat) : (foldG a u k).length = a.length := by induction k with | zero => rfl | succ k ih => simp [foldG, ih]
theorem foldG_V (a u : List Int) (ha : a.length = 5) (hu : u.length = 10) : limV (foldG a u 5) = limV u - polyP * limV (u.drop 5) := by
  obtain ⟨a0, a1, a2, a3, a4, rfl⟩ := five_lims a ha
  obtain ⟨u0, u1, u2, u3, u4, u5, u6, u7, u8, u9, rfl⟩ := ten_lims u hu
  simp [foldG, limV, polyP]
  omega
theorem foldG_in (a u : List Int) (ha : a.length = 5) (hu : u.length = 10) (m : Int) (h : digitsIn m u) : digitsIn (6 * m) (foldG a u 5) := by
  obtain ⟨a0, a1, a2, a3, a4, rfl⟩ := five_lims a ha
  obtain ⟨u0, u1, u2, u3, u4, u5, u6, u7, u8, u9, rfl⟩ := ten_lims u hu
  simp [digitsIn] at h
  intro x hx
  simp [foldG] at hx
  rcases hx with rfl | rfl | rfl | rfl | rfl <;> omega
def timesL (a b : List Int) : List Int := carrL (carrL (foldG a (wAll a b 5) 5))
theorem timesL_length (a b : List Int) : (timesL a b).length = a.length := by simp [timesL, carrL_length, foldG_length]
/-- The bounds of five limbs on their number. -/
theorem limV_le (v : List Int) (m : Int) (hl : v.length = 5) (h : digitsIn m v) : limV v ≤ m * 20282409905883129831204239441921 := by
  obtain ⟨x0, x1, x2, x3, x4, rfl⟩ := five_lims v hl
  simp [digitsIn] at h
  simp only [limV]
  omega
theorem times_spec (a b : List Int) (hal : a.length = 5) (hbl : b.length = 5) (ha : digitsIn 268435455 a) (hb : digitsIn 67108863 b) :
    limV (timesL a b) % polyP = limV a * limV b % polyP ∧ digitsIn 67108868 (timesL a b) ∧ limV (timesL a b) < 1361129467683753853853498429727072845824 ∧ digitsIn 450359962737049600 (wAll a b 5) ∧ digitsIn 2702159776422297600 (foldG a (wAll a b 5) 5) ∧ digitsIn 201393703863 (carrL (foldG a (wAll a b 5) 5)) := by
  have hw := wAll_in a b ha hb hal hbl 5 (by omega)
  have hw' : digitsIn 450359962737049600 (wAll a b 5) := fun x hx => by obtain ⟨h0, h1⟩ := hw x hx; omega
  have hf := foldG_in a (wAll a b 5) hal (wAll_length _ _ _) _ hw
  have hfl : (foldG a (wAll a b 5) 5).length = 5 := by rw [foldG_length, hal]
  have hV := foldG_V a (wAll a b 5) hal (wAll_length _ _ _)
  rw [wAll_V a b hal hbl 5 (by omega), List.take_of_length_le (show a.length ≤ 5 by omega)] at hV
  have hin : digitsIn 2702159776422297600 (foldG a (wAll a b 5) 5) := fun x hx => by obtain ⟨h0, h1⟩ := hf x hx; omega
  rw [timesL]
  generalize foldG a (wAll a b 5) 5 = f at *
  generalize limV (List.drop 5 (wAll a b 5)) = q0 at *
  clear hf hw
  have f0 := limV_nonneg f _ hin
  have f1 := limV_le f _ hfl hin
  obtain ⟨g0, g1, c1, cj⟩ := carrL_in f hfl 40265319000 f0 (by omega)
  have e1 := carrL_V f hfl
  have hcl : (carrL f).length = 5 := by rw [carrL_length, hfl]
  generalize carrL f = v at *
  have v0 := limV_nonneg v _ c1
  have v1 : limV v < 1361129467683753853853498429727072845824 + 274877906944 := by
    have h1 := cj 1 (by omega) (by omega)
    have h2 := cj 2 (by omega) (by omega)
    have h3 := cj 3 (by omega) (by omega)
    have h4 := cj 4 (by omega) (by omega)
    obtain ⟨x0, x1, x2, x3, x4, rfl⟩ := five_lims v hcl
    simp at g0 g1 h1 h2 h3 h4
    simp only [limV]
    omega
  obtain ⟨_, _, c2, _⟩ := carrL_in v hcl 1 v0 (by omega)
  have e2 := carrL_V v hcl
  generalize limV f / 1361129467683753853853498429727072845824 = q1 at *
  refine ⟨?_, c2, ?_, hw', hin, c1⟩
  · generalize limV v / 1361129467683753853853498429727072845824 = q2 at *
    rw [e2, e1, hV]
    generalize limV a * limV b = x
    rw [show x - polyP * q0 - polyP * q1 - polyP * q2 = x - polyP * (q0 + q1 + q2) by rw [Int.mul_add, Int.mul_add]; omega]
    simp [Int.sub_emod, Int.mul_emod_right]
  · rw [e2]
    clear e1 hV
    unfold polyP
    omega
/-- The least number that is the same modulo p. -/
def reducedL (a : List Int) : List Int := spreadL (a.set 0 (a.getD 0 0 + 5 * spreadC (sumL a [5, 0, 0, 0, 0] 5)))
theorem reducedL_length (a : List Int) : (reducedL a).length = a.length := by simp [reducedL, spreadL_length]
theorem reduced_spec (a : List Int) (hl : a.length = 5) (h0 : 0 ≤ limV a) (h1 : limV a < 1361129467683753853853498429727072845824) : limV (reducedL a) = limV a % polyP := by
  have hs := sumV a [5, 0, 0, 0, 0] hl rfl
  have hc := (spread_V (sumL a [5, 0, 0, 0, 0] 5) (by rw [sumL_length, hl])).2
  rw [hs, show limV [5, 0, 0, 0, 0] = 5 by decide] at hc
  have hr := (spread_V (a.set 0 (a.getD 0 0 + 5 * spreadC (sumL a [5, 0, 0, 0, 0] 5))) (by simpa using hl)).1
  rw [reducedL, hr, limV_set _ _ _ (by omega), hc]
  unfold polyP
  simp only [Int.pow_zero, Int.mul_one]
  generalize a.getD 0 0 = x
  generalize limV a = V at *
  by_cases hp : V < 1361129467683753853853498429727072845819
  · rw [show (V + 5) / 1361129467683753853853498429727072845824 = 0 by omega]; omega
  · rw [show (V + 5) / 1361129467683753853853498429727072845824 = 1 by omega]; omega
/-- The limbs of a number. -/
def numL (n : Nat) : List Int := (List.range 5).map fun i => ((n / 67108864 ^ i % 67108864 : Nat) : Int)
theorem numL_length (n : Nat) : (numL n).length = 5 := by simp [numL]
theorem numL_get (n j : Nat) (h : j < 5) : (numL n).getD j 0 = ((n / 67108864 ^ j % 67108864 : Nat) : Int) := by simp [numL, h]
theorem numL_in (n : Nat) : digitsIn 67108863 (numL n) := by
  intro x hx
  simp only [numL, List.mem_map] at hx
  obtain ⟨i, _, rfl⟩ := hx
  omega
theorem numL_V (n : Nat) (h : n < 1361129467683753853853498429727072845824) : limV (numL n) = (n : Int) := by
  have e : numL n = [((n % 67108864 : Nat) : Int), ((n / 67108864 % 67108864 : Nat) : Int), ((n / 67108864 / 67108864 % 67108864 : Nat) : Int), ((n / 67108864 / 67108864 / 67108864 % 67108864 : Nat) : Int), ((n / 67108864 / 67108864 / 67108864 / 67108864 % 67108864 : Nat) : Int)] := by
    simp [numL, List.range_succ, Nat.div_div_eq_div_mul]
  rw [e]
  simp only [limV]
  omega
/-- The accumulator behind m pieces. -/
def accL (r : List Int) (l : List UInt8) : Nat → List Int
  | 0 => List.replicate 5 0
  | m + 1 => timesL (sumL (accL r l m) (numL (pieceN l m)) 5) r
theorem accL_length (r : List Int) (l : List UInt8) (m : Nat) : (accL r l m).length = 5 := by induction m with | zero => rfl | succ m ih => rw [accL, timesL_length, sumL_length, ih]
theorem pieceN_lt (l : List UInt8) (m : Nat) : pieceN l m < 1361129467683753853853498429727072845824 := by
  have := piece_lt ((l.drop (16 * m)).take 16) (by simp; omega)
  have e : (2 : Nat) ^ 130 = 1361129467683753853853498429727072845824 := by decide
  unfold pieceN; omega
theorem acc_spec (R : Nat) (hR : R < 1361129467683753853853498429727072845824) (l : List UInt8) (m : Nat) : limV (accL (numL R) l m) % polyP = polyG (R : Int) l m ∧ digitsIn 67108868 (accL (numL R) l m) ∧ limV (accL (numL R) l m) < 1361129467683753853853498429727072845824 := by
  induction m with
  | zero => refine ⟨by rw [accL, limV_zeros]; rfl, fun x hx => ?_, by rw [accL, limV_zeros]; omega⟩; rw [accL] at hx; have := List.eq_of_mem_replicate hx; omega
  | succ m ih =>
    obtain ⟨h1, h2, h3⟩ := ih
    have hs := sumV (accL (numL R) l m) (numL (pieceN l m)) (accL_length _ _ _) (numL_length _)
    have hi := sumIn _ _ (accL_length (numL R) l m) (numL_length (pieceN l m)) _ _ h2 (numL_in _)
    obtain ⟨t1, t2, t3, _⟩ := times_spec (sumL (accL (numL R) l m) (numL (pieceN l m)) 5) (numL R) (by rw [sumL_length, accL_length]) (numL_length _) (fun x hx => by obtain ⟨a, b⟩ := hi x hx; exact ⟨a, by omega⟩) (numL_in _)
    refine ⟨?_, t2, t3⟩
    rw [accL, t1, hs, numL_V _ (pieceN_lt l m), numL_V _ hR, polyG, ← h1]
    rw [Int.mul_emod (limV (accL (numL R) l m) % polyP + _), Int.emod_add_emod, ← Int.mul_emod]
theorem leOut_mod (n i : Nat) (h : i ≤ 16) : leOut (n % 1361129467683753853853498429727072845824) i = leOut n i := by
  induction i with
  | zero => rfl
  | succ i ih =>
    rw [leOut, leOut, ih (by omega)]
    congr 3
    have e : (1361129467683753853853498429727072845824 : Nat) = 256 ^ i * (256 * (4 * 256 ^ (15 - i))) := by
      rw [Nat.mul_left_comm 256 4, ← Nat.pow_succ', Nat.mul_left_comm, ← Nat.pow_add, show i + (15 - i).succ = 16 by omega]
    rw [e, Nat.mod_mul_right_div_self, Nat.mod_mul_right_mod]
/-- The bytes of limbs. -/
theorem low_byte (v : List Int) (hl : v.length = 5) (hv : digitsIn 67108863 v) (k : Nat) (hk : k < 16) :
    (8 * k / 26 + 1 < 5 → (v.getD (8 * k / 26) 0 / 2 ^ (8 * k % 26) + v.getD (8 * k / 26 + 1) 0 * 2 ^ (26 - 8 * k % 26)) % 256 = limV v / 256 ^ k % 256) ∧
    (5 ≤ 8 * k / 26 + 1 → v.getD (8 * k / 26) 0 / 2 ^ (8 * k % 26) % 256 = limV v / 256 ^ k % 256) := by
  obtain ⟨x0, x1, x2, x3, x4, rfl⟩ := five_lims v hl
  simp [digitsIn] at hv
  obtain ⟨⟨_, _⟩, ⟨_, _⟩, ⟨_, _⟩, ⟨_, _⟩, _, _⟩ := hv
  simp only [limV]
  rcases (by omega : k = 0 ∨ k = 1 ∨ k = 2 ∨ k = 3 ∨ k = 4 ∨ k = 5 ∨ k = 6 ∨ k = 7 ∨ k = 8 ∨ k = 9 ∨ k = 10 ∨ k = 11 ∨ k = 12 ∨ k = 13 ∨ k = 14 ∨ k = 15) with rfl | rfl | rfl | rfl | rfl | rfl | rfl | rfl | rfl | rfl | rfl | rfl | rfl | rfl | rfl | rfl <;> simp <;> omega
theorem ownTag_eq (key data : List UInt8) (hk : key.length = 32) :
    leOut (limV (sumL (reducedL (accL (numL (leN (clampL (key.take 16)))) data ((data.length + 15) / 16))) (numL (leN (key.drop 16))) 5)).toNat 16 = polyTag key data := by
  have e256 : (256 : Nat) ^ 16 < 1361129467683753853853498429727072845824 := by decide
  have hR : leN (clampL (key.take 16)) < 1361129467683753853853498429727072845824 := by
    have := leN_lt (clampL (key.take 16))
    rw [clampL_length, List.length_take, hk, show min 16 32 = 16 from rfl] at this
    omega
  have hS : leN (key.drop 16) < 1361129467683753853853498429727072845824 := by
    have := leN_lt (key.drop 16)
    rw [List.length_drop, hk] at this
    omega
  obtain ⟨a1, a2, a3⟩ := acc_spec _ hR data ((data.length + 15) / 16)
  have hal := accL_length (numL (leN (clampL (key.take 16)))) data ((data.length + 15) / 16)
  rw [sumV _ _ (by rw [reducedL_length, hal]) (numL_length _), reduced_spec _ hal (limV_nonneg _ _ a2) a3, a1, numL_V _ hS, polyTag, polyR]
  congr 1
  have := (polyG_range (leN (clampL (key.take 16)) : Int) data ((data.length + 15) / 16)).1
  omega
end Go.Proofs.Ytbbpgplfdodpmaa
