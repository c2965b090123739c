/- Numbers of sixteen digits of sixteen bits, modulo 2^255 less 19: the arithmetic of the reference's field. No program. -/
import Derived.Test.YtfidcdkoggfjaaaDoorRows
namespace Go.Proofs.YtfidcdkoggfjaaaDoor
set_option maxRecDepth 100000
set_option linter.unusedSimpArgs false
set_option linter.unusedVariables false

def pF : Nat := 57896044618658097711785492504343953926634992332820282019728792003956564819949
theorem pF_pow : pF = 2 ^ 255 - 19 := by decide
/-- 2 to the 256. -/
def mF : Nat := 115792089237316195423570985008687907853269984665640564039457584007913129639936
theorem mF_pow : 65536 ^ 16 = mF := by decide
theorem mF_pF : mF = 2 * pF + 38 := by decide
theorem pF_pos : 0 < pF := by decide

theorem nset_getD (l : List Nat) (j i x : Nat) (hj : j < l.length) : (l.set j x).getD i 0 = if i = j then x else l.getD i 0 := by
  rw [List.getD_eq_getElem?_getD, List.getElem?_set]
  by_cases h : j = i
  · subst h; simp [hj]
  · rw [if_neg h, if_neg (fun e => h e.symm), ← List.getD_eq_getElem?_getD]
theorem nrange_getD (f : Nat → Nat) (n i : Nat) (h : i < n) : ((List.range n).map f).getD i 0 = f i := by simp [List.getD_eq_getElem?_getD, h]
theorem nums_ext {l m : List Nat} {n : Nat} (hl : l.length = n) (hm : m.length = n) (h : ∀ i, i < n → l.getD i 0 = m.getD i 0) : l = m := by
  apply List.ext_getElem (by omega)
  intro i h1 h2
  have := h i (by omega)
  simpa [List.getD_eq_getElem?_getD, h1, h2] using this

/-- The number of so many digits. -/
def dS (v : List Nat) : Nat → Nat
  | 0 => 0
  | n + 1 => dS v n + v.getD n 0 * 65536 ^ n
theorem dS_congr (u v : List Nat) : ∀ n, (∀ j, j < n → u.getD j 0 = v.getD j 0) → dS u n = dS v n
  | 0, _ => rfl
  | n + 1, h => by rw [dS, dS, dS_congr u v n (fun j hj => h j (by omega)), h n (by omega)]
theorem dS_set_out (v : List Nat) (i x n : Nat) (h : n ≤ i) (hl : i < v.length) : dS (v.set i x) n = dS v n := dS_congr _ _ _ fun j hj => by rw [nset_getD _ _ _ _ hl, if_neg (by omega)]
theorem dS_set (v : List Nat) (i x : Nat) (hl : i < v.length) : ∀ n, i < n → dS (v.set i x) n + v.getD i 0 * 65536 ^ i = dS v n + x * 65536 ^ i
  | n + 1, h => by
    rw [dS, dS, nset_getD _ _ _ _ hl]
    by_cases e : n = i
    · subst e
      rw [if_pos rfl, dS_set_out _ _ _ _ (Nat.le_refl _) hl]
      omega
    · rw [if_neg e]
      have := dS_set v i x hl n (by omega)
      omega
theorem dS_lt (v : List Nat) : ∀ n, (∀ j, j < n → v.getD j 0 < 65536) → dS v n < 65536 ^ n
  | 0, _ => by simp [dS]
  | n + 1, h => by
    have h1 := dS_lt v n (fun j hj => h j (by omega))
    have h2 : v.getD n 0 * 65536 ^ n ≤ 65535 * 65536 ^ n := Nat.mul_le_mul_right _ (by have := h n (by omega); omega)
    rw [dS, Nat.pow_succ]
    omega
theorem dS_le (v : List Nat) (X : Nat) : ∀ n, (∀ j, j < n → v.getD j 0 ≤ X) → dS v n ≤ X * 65536 ^ n
  | 0, _ => by simp [dS]
  | n + 1, h => by
    have h1 := dS_le v X n (fun j hj => h j (by omega))
    have h2 : v.getD n 0 * 65536 ^ n ≤ X * 65536 ^ n := Nat.mul_le_mul_right _ (h n (by omega))
    rw [dS, Nat.pow_succ, ← Nat.mul_assoc]
    omega
theorem dS_app (l m : List Nat) (n : Nat) (h : n ≤ l.length) : dS (l ++ m) n = dS l n := dS_congr _ _ _ fun j hj => by
  rw [List.getD_eq_getElem?_getD, List.getElem?_append_left (by omega), ← List.getD_eq_getElem?_getD]
theorem dS_snoc (l : List Nat) (x n : Nat) (h : l.length = n) : dS (l ++ [x]) (n + 1) = dS l n + x * 65536 ^ n := by
  rw [dS, dS_app _ _ _ (by omega), List.getD_eq_getElem?_getD, List.getElem?_append_right (by omega), h, Nat.sub_self]; rfl
/-- A digit is told by the number. -/
theorem dS_parts (v : List Nat) (j : Nat) : ∀ n, j < n → ∃ K, dS v n = dS v j + v.getD j 0 * 65536 ^ j + 65536 ^ (j + 1) * K
  | n + 1, h => by
    by_cases e : n = j
    · subst e; exact ⟨0, by rw [dS]; omega⟩
    · obtain ⟨K, hK⟩ := dS_parts v j n (by omega)
      refine ⟨K + v.getD n 0 * 65536 ^ (n - (j + 1)), ?_⟩
      rw [dS, hK, Nat.mul_add]
      have : 65536 ^ (j + 1) * (v.getD n 0 * 65536 ^ (n - (j + 1))) = v.getD n 0 * 65536 ^ n := by
        rw [Nat.mul_left_comm, ← Nat.pow_add, show j + 1 + (n - (j + 1)) = n by omega]
      omega
theorem dS_digit (v : List Nat) (n j : Nat) (h : ∀ j, j < n → v.getD j 0 < 65536) (hj : j < n) : dS v n / 65536 ^ j % 65536 = v.getD j 0 := by
  obtain ⟨K, hK⟩ := dS_parts v j n hj
  have h1 := dS_lt v j (fun i hi => h i (by omega))
  have h2 := h j hj
  have hp : 0 < 65536 ^ j := Nat.pow_pos (by decide)
  rw [hK, Nat.pow_succ, show dS v j + v.getD j 0 * 65536 ^ j + 65536 ^ j * 65536 * K = dS v j + 65536 ^ j * (v.getD j 0 + 65536 * K) by rw [Nat.mul_add, Nat.mul_comm (v.getD j 0), Nat.mul_assoc]; omega]
  rw [Nat.add_mul_div_left _ _ hp, Nat.div_eq_of_lt h1, Nat.zero_add]
  omega
/-- The digits of a number. -/
def digN (x : Nat) : List Nat := (List.range 16).map fun j => x / 65536 ^ j % 65536
theorem digN_length (x : Nat) : (digN x).length = 16 := by simp [digN]
theorem digN_get (x j : Nat) (h : j < 16) : (digN x).getD j 0 = x / 65536 ^ j % 65536 := by rw [digN, nrange_getD _ _ _ h]
theorem digN_lt (x j : Nat) (h : j < 16) : (digN x).getD j 0 < 65536 := by rw [digN_get _ _ h]; exact Nat.mod_lt _ (by decide)
theorem eq_digN (v : List Nat) (hl : v.length = 16) (h : ∀ j, j < 16 → v.getD j 0 < 65536) : v = digN (dS v 16) := nums_ext hl (digN_length _) fun j hj => by rw [digN_get _ _ hj, dS_digit v 16 j h hj]
theorem digN_part (x : Nat) : ∀ n, n ≤ 16 → dS (digN x) n = x % 65536 ^ n
  | 0, _ => by simp [dS, Nat.mod_one]
  | n + 1, h => by
    rw [dS, digN_part x n (by omega), digN_get x n (by omega), Nat.pow_succ, Nat.mod_mul, Nat.mul_comm (65536 ^ n)]
theorem digN_val (x : Nat) (h : x < mF) : dS (digN x) 16 = x := by rw [digN_part x 16 (Nat.le_refl _), mF_pow]; exact Nat.mod_eq_of_lt h

/-- A round of folding: the digits and what is carried. -/
def rnd (v : List Nat) : Nat → List Nat × Nat
  | 0 => (v, 0)
  | i + 1 => ((rnd v i).1.set i (((rnd v i).1.getD i 0 + (rnd v i).2) % 65536), ((rnd v i).1.getD i 0 + (rnd v i).2) / 65536)
theorem rnd_length (v : List Nat) : ∀ i, (rnd v i).1.length = v.length
  | 0 => rfl
  | i + 1 => by rw [rnd, List.length_set]; exact rnd_length v i
theorem rnd_late (v : List Nat) : ∀ i, i ≤ v.length → ∀ j, i ≤ j → (rnd v i).1.getD j 0 = v.getD j 0
  | 0, _, _, _ => rfl
  | i + 1, h, j, hj => by
    rw [rnd, nset_getD _ _ _ _ (by rw [rnd_length]; omega), if_neg (by omega)]; exact rnd_late v i (by omega) j (by omega)
theorem rnd_low (v : List Nat) : ∀ i, i ≤ v.length → ∀ j, j < i → (rnd v i).1.getD j 0 < 65536
  | i + 1, h, j, hj => by
    rw [rnd, nset_getD _ _ _ _ (by rw [rnd_length]; omega)]
    split
    · exact Nat.mod_lt _ (by decide)
    · exact rnd_low v i (by omega) j (by omega)
theorem rnd_carry (v : List Nat) (X : Nat) (hX : ∀ j, v.getD j 0 ≤ X) : ∀ i, i ≤ v.length → (rnd v i).2 ≤ X
  | 0, _ => by simp [rnd]
  | i + 1, h => by
    have h1 := rnd_carry v X hX i (by omega)
    have h2 := rnd_late v i (by omega) i (Nat.le_refl _)
    have h3 := hX i
    rw [rnd, h2]
    show (v.getD i 0 + (rnd v i).2) / 65536 ≤ X
    omega
theorem rnd_val (v : List Nat) (n : Nat) (hl : v.length = n) : ∀ i, i ≤ n → dS (rnd v i).1 n + (rnd v i).2 * 65536 ^ i = dS v n := by
  intro i
  induction i with
  | zero => intro _; rw [show (rnd v 0).1 = v from rfl, show (rnd v 0).2 = 0 from rfl, Nat.zero_mul, Nat.add_zero]
  | succ i ih =>
    intro h
    have ih := ih (by omega)
    have hs := dS_set (rnd v i).1 i (((rnd v i).1.getD i 0 + (rnd v i).2) % 65536) (by rw [rnd_length]; omega) n (by omega)
    have e1 : (rnd v (i + 1)).1 = (rnd v i).1.set i (((rnd v i).1.getD i 0 + (rnd v i).2) % 65536) := rfl
    have e2 : (rnd v (i + 1)).2 = ((rnd v i).1.getD i 0 + (rnd v i).2) / 65536 := rfl
    rw [e1, e2]
    clear e1 e2
    generalize (rnd v i).1 = u at *
    generalize (rnd v i).2 = c at *
    have hx : (u.getD i 0 + c) % 65536 * 65536 ^ i + (u.getD i 0 + c) / 65536 * 65536 ^ (i + 1) = u.getD i 0 * 65536 ^ i + c * 65536 ^ i := by
      rw [Nat.pow_succ, Nat.mul_comm (65536 ^ i) 65536, ← Nat.mul_assoc, ← Nat.add_mul, ← Nat.add_mul]
      congr 1
      omega
    generalize dS (u.set i ((u.getD i 0 + c) % 65536)) n = D1 at *
    generalize dS u n = D0 at *
    generalize dS v n = Dv at *
    omega
theorem rnd_parts (v : List Nat) (hl : v.length = 16) : dS (rnd v 16).1 16 = dS v 16 % mF ∧ (rnd v 16).2 = dS v 16 / mF := by
  have h := rnd_val v 16 hl 16 (Nat.le_refl _)
  have hlt := dS_lt (rnd v 16).1 16 (fun j hj => rnd_low v 16 (by omega) j hj)
  rw [mF_pow] at h hlt
  rw [← h, Nat.add_mul_mod_self_right, Nat.mod_eq_of_lt hlt, Nat.add_mul_div_right _ _ (by decide), Nat.div_eq_of_lt hlt, Nat.zero_add]
  exact ⟨rfl, rfl⟩
/-- A round and the carry, folded. -/
def foldR (v : List Nat) : List Nat := (rnd v 16).1.set 0 ((rnd v 16).1.getD 0 0 + 38 * (rnd v 16).2)
theorem foldR_length (v : List Nat) : (foldR v).length = v.length := by rw [foldR, List.length_set, rnd_length]
theorem foldR_val (v : List Nat) (hl : v.length = 16) : dS (foldR v) 16 = dS v 16 % mF + 38 * (dS v 16 / mF) := by
  obtain ⟨h1, h2⟩ := rnd_parts v hl
  have hs := dS_set (rnd v 16).1 0 ((rnd v 16).1.getD 0 0 + 38 * (rnd v 16).2) (by rw [rnd_length]; omega) 16 (by omega)
  rw [← h1, ← h2, foldR]
  rw [Nat.pow_zero, Nat.mul_one, Nat.mul_one] at hs
  generalize (rnd v 16).1 = u at *
  generalize (rnd v 16).2 = c at *
  generalize dS (u.set 0 (u.getD 0 0 + 38 * c)) 16 = D1 at *
  generalize dS u 16 = D0 at *
  omega
theorem fold_mod (T : Nat) : (T % mF + 38 * (T / mF)) % pF = T % pF := by
  have h := Nat.mod_add_div T mF
  have e : T = T % mF + 38 * (T / mF) + pF * (2 * (T / mF)) := by
    have h2 : mF * (T / mF) = pF * (2 * (T / mF)) + 38 * (T / mF) := by
      rw [← Nat.mul_assoc, Nat.mul_comm pF 2, ← Nat.add_mul, ← mF_pF]
    omega
  conv => rhs; rw [e]
  rw [Nat.add_mul_mod_self_left]
theorem foldR_mod (v : List Nat) (hl : v.length = 16) : dS (foldR v) 16 % pF = dS v 16 % pF := by
  rw [foldR_val v hl]
  exact fold_mod (dS v 16)
theorem foldR_low (v : List Nat) (hl : v.length = 16) (h : (rnd v 16).2 = 0) : ∀ j, j < 16 → (foldR v).getD j 0 < 65536 := fun j hj => by
  rw [foldR, nset_getD _ _ _ _ (by rw [rnd_length]; omega), h, Nat.mul_zero, Nat.add_zero]
  split
  · exact rnd_low v 16 (by omega) 0 (by omega)
  · exact rnd_low v 16 (by omega) j hj
def foldD (v : List Nat) : List Nat := if (rnd v 16).2 = 0 then foldR v else if (rnd (foldR v) 16).2 = 0 then foldR (foldR v) else foldR (foldR (foldR v))
theorem foldD_length (v : List Nat) : (foldD v).length = v.length := by
  unfold foldD
  split
  · exact foldR_length _
  · split
    · rw [foldR_length, foldR_length]
    · rw [foldR_length, foldR_length, foldR_length]
theorem foldD_mod (v : List Nat) (hl : v.length = 16) : dS (foldD v) 16 % pF = dS v 16 % pF := by
  have l1 : (foldR v).length = 16 := by rw [foldR_length, hl]
  have l2 : (foldR (foldR v)).length = 16 := by rw [foldR_length, l1]
  unfold foldD
  split
  · exact foldR_mod v hl
  · split
    · rw [foldR_mod _ l1, foldR_mod v hl]
    · rw [foldR_mod _ l2, foldR_mod _ l1, foldR_mod v hl]
theorem fold_last (T1 T2 r1 c1 : Nat) (hr : r1 < mF) (hc : c1 < 2 ^ 100) (h1 : T1 = r1 + 38 * c1) (h2 : T1 / mF ≠ 0) (h3 : T2 = T1 % mF + 38 * (T1 / mF)) : T2 / mF = 0 := by
  have hm : (2 ^ 100 : Nat) = 1267650600228229401496703205376 := by decide
  have em : mF = 115792089237316195423570985008687907853269984665640564039457584007913129639936 := rfl
  rw [hm] at hc
  rw [em] at hr h2 h3 ⊢
  have hq : T1 / 115792089237316195423570985008687907853269984665640564039457584007913129639936 = 1 := by omega
  rw [hq] at h3
  omega
theorem foldD_last (v : List Nat) (hl : v.length = 16) (hv : dS v 16 < mF * 2 ^ 100) (h1 : (rnd v 16).2 ≠ 0) (h2 : (rnd (foldR v) 16).2 ≠ 0) : (rnd (foldR (foldR v)) 16).2 = 0 := by
  have l1 : (foldR v).length = 16 := by rw [foldR_length, hl]
  have l2 : (foldR (foldR v)).length = 16 := by rw [foldR_length, l1]
  have v1 := foldR_val v hl
  have v2 := foldR_val (foldR v) l1
  have h2' := (rnd_parts (foldR v) l1).2
  have h3' := (rnd_parts (foldR (foldR v)) l2).2
  rw [h2'] at h2
  rw [h3']
  clear h2' h3' h1 l1 l2
  have q1 : dS v 16 / mF < 2 ^ 100 := Nat.div_lt_of_lt_mul hv
  have q2 : dS v 16 % mF < mF := Nat.mod_lt _ (by decide)
  generalize dS (foldR (foldR v)) 16 = T2 at *
  generalize dS (foldR v) 16 = T1 at *
  generalize dS v 16 / mF = c1 at *
  generalize dS v 16 % mF = r1 at *
  clear hv hl
  exact fold_last T1 T2 r1 c1 q2 q1 v1 h2 v2
theorem foldD_low (v : List Nat) (hl : v.length = 16) (hv : dS v 16 < mF * 2 ^ 100) : ∀ j, j < 16 → (foldD v).getD j 0 < 65536 := by
  have l1 : (foldR v).length = 16 := by rw [foldR_length, hl]
  have l2 : (foldR (foldR v)).length = 16 := by rw [foldR_length, l1]
  unfold foldD
  split
  · rename_i h; exact foldR_low v hl h
  · rename_i h1
    split
    · rename_i h; exact foldR_low _ l1 h
    · rename_i h2; exact foldR_low _ l2 (foldD_last v hl hv h1 h2)

theorem dS_step (v : List Nat) (n : Nat) : dS v (n + 1) = dS v n + v.getD n 0 * 65536 ^ n := rfl
theorem dS_top (v : List Nat) : dS v 16 = dS v 15 + v.getD 15 0 * 65536 ^ 15 := dS_step v 15
/-- A number and 19. -/
def addW (v : List Nat) : Nat → List Nat × Nat
  | 0 => ([], 19)
  | i + 1 => ((addW v i).1 ++ [((addW v i).2 + v.getD i 0) % 65536], ((addW v i).2 + v.getD i 0) / 65536)
theorem addW_length (v : List Nat) : ∀ i, (addW v i).1.length = i
  | 0 => rfl
  | i + 1 => by rw [addW, List.length_append, addW_length v i]; rfl
theorem addW_low (v : List Nat) : ∀ i j, j < i → (addW v i).1.getD j 0 < 65536
  | i + 1, j, h => by
    rw [addW, List.getD_eq_getElem?_getD]
    by_cases e : j = i
    · rw [List.getElem?_append_right (by rw [addW_length]; omega), addW_length, e, Nat.sub_self]; exact Nat.mod_lt _ (by decide)
    · rw [List.getElem?_append_left (by rw [addW_length]; omega), ← List.getD_eq_getElem?_getD]; exact addW_low v i j (by omega)
theorem addW_val (v : List Nat) : ∀ i, dS (addW v i).1 i + (addW v i).2 * 65536 ^ i = dS v i + 19
  | 0 => by simp [addW, dS]
  | i + 1 => by
    have ih := addW_val v i
    have e1 : (addW v (i + 1)).1 = (addW v i).1 ++ [((addW v i).2 + v.getD i 0) % 65536] := rfl
    have e2 : (addW v (i + 1)).2 = ((addW v i).2 + v.getD i 0) / 65536 := rfl
    have e3 : dS v (i + 1) = dS v i + v.getD i 0 * 65536 ^ i := rfl
    rw [e1, e2, e3, dS_snoc _ _ _ (addW_length v i)]
    clear e1 e2 e3
    generalize (addW v i).1 = u at *
    generalize (addW v i).2 = c at *
    have hx : (c + v.getD i 0) % 65536 * 65536 ^ i + (c + v.getD i 0) / 65536 * 65536 ^ (i + 1) = c * 65536 ^ i + v.getD i 0 * 65536 ^ i := by
      rw [Nat.pow_succ, Nat.mul_comm (65536 ^ i) 65536, ← Nat.mul_assoc, ← Nat.add_mul, ← Nat.add_mul]
      congr 1
      omega
    omega
/-- p less, if it is p or more. -/
def subP (v : List Nat) : List Nat := if 32768 ≤ (addW v 16).1.getD 15 0 ∨ 0 < (addW v 16).2 then (addW v 16).1.set 15 ((addW v 16).1.getD 15 0 + 65536 * (addW v 16).2 - 32768) else v
theorem subP_spec (v : List Nat) (hl : v.length = 16) (h : ∀ j, j < 16 → v.getD j 0 < 65536) :
    (subP v).length = 16 ∧ (∀ j, j < 16 → (subP v).getD j 0 < 65536) ∧ dS (subP v) 16 = if pF ≤ dS v 16 then dS v 16 - pF else dS v 16 := by
  have hv := dS_lt v 16 h
  have hw := addW_val v 16
  have hlow := addW_low v 16
  have hlen := addW_length v 16
  have hwl := dS_lt (addW v 16).1 16 (fun j hj => hlow j hj)
  have h15 := dS_lt (addW v 16).1 15 (fun j hj => hlow j (by omega))
  have ht := hlow 15 (by omega)
  have hsp := dS_top (addW v 16).1
  rw [mF_pow] at hv hw hwl
  unfold subP
  have em : mF = 115792089237316195423570985008687907853269984665640564039457584007913129639936 := rfl
  have ep : pF = 57896044618658097711785492504343953926634992332820282019728792003956564819949 := rfl
  have e15 : 65536 ^ 15 = 1766847064778384329583297500742918515827483896875618958121606201292619776 := by decide
  have hset := dS_set (addW v 16).1 15 ((addW v 16).1.getD 15 0 + 65536 * (addW v 16).2 - 32768) (by omega) 16 (by omega)
  rw [e15] at hsp h15 hset
  rw [em] at hv hw hwl
  rw [ep]
  generalize (addW v 16).1 = w at *
  generalize (addW v 16).2 = c at *
  generalize w.getD 15 0 = t at *
  generalize hD1 : dS (w.set 15 (t + 65536 * c - 32768)) 16 = D1 at *
  generalize dS w 16 = Dw at *
  generalize dS w 15 = D15 at *
  generalize hDv : dS v 16 = Dv at *
  have hc : c ≤ 1 := by omega
  split
  · rename_i hcond
    refine ⟨by rw [List.length_set, hlen], fun j hj => ?_, ?_⟩
    · rw [nset_getD _ _ _ _ (by omega)]
      split
      · omega
      · exact hlow j hj
    · rw [hD1, if_pos (by omega)]
      omega
  · rename_i hcond
    refine ⟨hl, h, ?_⟩
    rw [hDv, if_neg (by omega)]
def belowD (v : List Nat) : List Nat := if v.getD 15 0 < 32767 then v else subP (subP v)
theorem below_mod (V : Nat) (h : V < mF) : (if pF ≤ (if pF ≤ V then V - pF else V) then (if pF ≤ V then V - pF else V) - pF else (if pF ≤ V then V - pF else V)) = V % pF := by
  have em : mF = 115792089237316195423570985008687907853269984665640564039457584007913129639936 := rfl
  have ep : pF = 57896044618658097711785492504343953926634992332820282019728792003956564819949 := rfl
  rw [em] at h
  rw [ep]
  by_cases h1 : 57896044618658097711785492504343953926634992332820282019728792003956564819949 ≤ V
  · rw [if_pos h1]
    by_cases h2 : 57896044618658097711785492504343953926634992332820282019728792003956564819949 ≤ V - 57896044618658097711785492504343953926634992332820282019728792003956564819949
    · rw [if_pos h2]; omega
    · rw [if_neg h2]; omega
  · rw [if_neg h1, if_neg h1]; omega
theorem belowD_spec (v : List Nat) (hl : v.length = 16) (h : ∀ j, j < 16 → v.getD j 0 < 65536) : belowD v = digN (dS v 16 % pF) := by
  have hv := dS_lt v 16 h
  rw [mF_pow] at hv
  obtain ⟨a1, a2, a3⟩ := subP_spec v hl h
  obtain ⟨b1, b2, b3⟩ := subP_spec (subP v) a1 a2
  have em : mF = 115792089237316195423570985008687907853269984665640564039457584007913129639936 := rfl
  have ep : pF = 57896044618658097711785492504343953926634992332820282019728792003956564819949 := rfl
  unfold belowD
  split
  · rename_i h15
    have h14 := dS_lt v 15 (fun j hj => h j (by omega))
    have hsp := dS_top v
    have e15 : 65536 ^ 15 = 1766847064778384329583297500742918515827483896875618958121606201292619776 := by decide
    rw [e15] at hsp h14
    have hlt : dS v 16 < pF := by
      rw [ep]
      generalize dS v 16 = D at *
      generalize dS v 15 = D15 at *
      omega
    rw [Nat.mod_eq_of_lt hlt]
    exact eq_digN v hl h
  · have hval : dS (subP (subP v)) 16 = dS v 16 % pF := by
      rw [b3, a3]
      exact below_mod (dS v 16) hv
    rw [← hval]
    exact eq_digN _ b1 b2
/-- What is folded and brought below p. -/
theorem fold_below (v : List Nat) (hl : v.length = 16) (hv : dS v 16 < mF * 2 ^ 100) : belowD (foldD v) = digN (dS v 16 % pF) := by
  rw [belowD_spec _ (by rw [foldD_length, hl]) (foldD_low v hl hv), foldD_mod v hl]
theorem dS_small (v : List Nat) (X : Nat) (hX : X ≤ 2 ^ 60) (h : ∀ j, j < 16 → v.getD j 0 ≤ X) : dS v 16 < mF * 2 ^ 100 := by
  have h1 := dS_le v X 16 h
  rw [mF_pow] at h1
  have h2 : X * mF ≤ 2 ^ 60 * mF := Nat.mul_le_mul_right _ hX
  have h3 : 2 ^ 60 * mF < mF * 2 ^ 100 := by decide
  exact Nat.lt_of_le_of_lt (Nat.le_trans h1 h2) h3
end Go.Proofs.YtfidcdkoggfjaaaDoor
