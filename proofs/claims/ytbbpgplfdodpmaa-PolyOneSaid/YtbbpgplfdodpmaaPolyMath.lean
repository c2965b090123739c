/- What the laws say of tags, over plain numbers. -/
import Derived.Test.YtbbpgplfdodpmaaPolyWake
namespace Go.Proofs.Ytbbpgplfdodpmaa
open Go.RowKit Go.Sort
set_option maxRecDepth 100000
set_option linter.unusedSimpArgs false
set_option linter.unusedVariables false

theorem leOut_take (l : List UInt8) (i : Nat) (h : i ≤ l.length) : leOut (leN l) i = l.take i := by
  induction i with
  | zero => simp [leOut]
  | succ i ih =>
    have hb := leN_byte l i (by omega)
    rw [leOut, ih (by omega), hb, List.take_succ_eq_append_getElem (by omega)]
    congr 2
    exact UInt8.toNat_inj.1 (by simp)
theorem leOut_self (l : List UInt8) (n : Nat) (h : l.length = n) : leOut (leN l) n = l := by rw [leOut_take l n (by omega), List.take_of_length_le (by omega)]
theorem polyTag_empty (a b : List UInt8) (ha : a.length = 16) (hb : b.length = 16) : polyTag (a ++ b) [] = b := by
  have e : (a ++ b).drop 16 = b := by rw [List.drop_append_of_le_length (by omega), List.drop_of_length_le (by omega)]; simp
  rw [polyTag, e]
  simp only [List.length_nil, polyG, show (0 + 15) / 16 = 0 from rfl]
  simpa using leOut_self b 16 hb
theorem polyR_zero (b : List UInt8) : polyR (List.replicate 16 0 ++ b) = 0 := by
  rw [polyR, List.take_append_of_le_length (by simp), List.take_of_length_le (by simp)]
  decide +kernel
theorem polyG_zero (l : List UInt8) (m : Nat) : polyG 0 l m = 0 := by
  cases m with
  | zero => rfl
  | succ m => rw [polyG, Int.mul_zero]; rfl
theorem polyTag_zero (b d : List UInt8) (hb : b.length = 16) : polyTag (List.replicate 16 0 ++ b) d = b := by
  have e : (List.replicate 16 0 ++ b).drop 16 = b := by rw [List.drop_append_of_le_length (by simp), List.drop_of_length_le (by simp)]; simp
  rw [polyTag, e, polyR_zero, polyG_zero]
  simpa using leOut_self b 16 hb
/-- A key whose bits that count are the same. -/
theorem polyTag_clamp (k k' d : List UInt8) (h1 : clampL (k.take 16) = clampL (k'.take 16)) (h2 : k.drop 16 = k'.drop 16) : polyTag k d = polyTag k' d := by
  rw [polyTag, polyTag, h2, polyR, polyR, h1]
theorem leN_set (l : List UInt8) (j : Nat) (x : UInt8) (h : j < l.length) : leN (l.set j x) + 256 ^ j * (l[j]).toNat = leN l + 256 ^ j * x.toNat := by
  induction l generalizing j with
  | nil => simp at h
  | cons y r ih =>
    cases j with
    | zero => simp [leN]; omega
    | succ j =>
      have h' : j < r.length := by simpa using h
      have := ih j h'
      simp only [List.set_cons_succ, leN, List.getElem_cons_succ, Nat.pow_succ]
      rw [Nat.mul_comm (256 ^ j) 256, Nat.mul_assoc, Nat.mul_assoc]
      omega
theorem leN_leOut (n i : Nat) : leN (leOut n i) = n % 256 ^ i := by
  induction i with
  | zero => simp [leOut, leN, Nat.mod_one]
  | succ i ih =>
    rw [leOut, leN_append, ih, leOut_length, Nat.pow_succ, Nat.mod_mul]
    simp [leN]
/-- The tag of one piece under a key whose first half is 1. -/
theorem polyR_one (b : List UInt8) : polyR (1 :: List.replicate 15 0 ++ b) = 1 := by
  rw [polyR, List.take_append_of_le_length (by simp), List.take_of_length_le (by simp)]
  decide +kernel
theorem polyTag_one (b d : List UInt8) (h0 : 0 < d.length) (h1 : d.length ≤ 16) : polyTag (1 :: List.replicate 15 0 ++ b) d = leOut (leN (d ++ [1]) + leN b) 16 := by
  have e : (1 :: List.replicate 15 0 ++ b).drop 16 = b := by rw [List.drop_append_of_le_length (by simp), List.drop_of_length_le (by simp)]; simp
  have hp : pieceN d 0 = leN (d ++ [1]) := by rw [pieceN, Nat.mul_zero, List.drop_zero, List.take_of_length_le h1]
  have hlt : leN (d ++ [1]) < 2 ^ 129 := by
    have h2 := leN_lt d
    have h3 : 256 ^ d.length ≤ 256 ^ 16 := Nat.pow_le_pow_right (by omega) h1
    have e1 : leN [1] = 1 := rfl
    have e2 : (256 : Nat) ^ 16 = 2 ^ 128 := by decide
    rw [leN_append, e1, Nat.mul_one]
    omega
  have h129 : (2 : Nat) ^ 129 = 680564733841876926926749214863536422912 := by decide
  rw [polyTag, e, polyR_one, show (d.length + 15) / 16 = 1 by omega, polyG, polyG, hp]
  congr 2
  rw [Int.mul_one]
  unfold polyP
  omega
theorem polyTag_changed (b d : List UInt8) (j : Nat) (x : UInt8) (hj : j < d.length) (h1 : d.length ≤ 16) (hx : x ≠ d[j]) : polyTag (1 :: List.replicate 15 0 ++ b) d ≠ polyTag (1 :: List.replicate 15 0 ++ b) (d.set j x) := by
  intro h
  rw [polyTag_one b d (by omega) h1, polyTag_one b (d.set j x) (by simp; omega) (by simpa using h1)] at h
  have hm := congrArg leN h
  rw [leN_leOut, leN_leOut, leN_append, leN_append, List.length_set] at hm
  have hs := leN_set d j x hj
  have hy := (d[j]).toNat_lt
  have hxl := x.toNat_lt
  have hp : 256 ^ j * 256 ≤ 256 ^ 16 := by rw [← Nat.pow_succ]; exact Nat.pow_le_pow_right (by omega) (by omega)
  have hA : 0 < 256 ^ j := Nat.pow_pos (by omega)
  have p1 : 256 ^ j * (d[j]).toNat < 256 ^ 16 := Nat.lt_of_lt_of_le (Nat.mul_lt_mul_of_pos_left hy hA) hp
  have p2 : 256 ^ j * x.toNat < 256 ^ 16 := Nat.lt_of_lt_of_le (Nat.mul_lt_mul_of_pos_left hxl hA) hp
  have e : 256 ^ j * (d[j]).toNat = 256 ^ j * x.toNat := by
    rw [show (256 : Nat) ^ 16 = 340282366920938463463374607431768211456 by decide] at *
    generalize 256 ^ j * (d[j]).toNat = P at *
    generalize 256 ^ j * x.toNat = Q at *
    generalize 256 ^ d.length * leN [1] = T at *
    omega
  have := Nat.eq_of_mul_eq_mul_left hA e
  exact hx (UInt8.toNat_inj.1 this.symm)
theorem succ_ne (y : UInt8) : y + 1 ≠ y := by
  intro h
  have := congrArg UInt8.toNat h
  rw [UInt8.toNat_add] at this
  have h1 := y.toNat_lt
  simp at this
  omega
end Go.Proofs.Ytbbpgplfdodpmaa
