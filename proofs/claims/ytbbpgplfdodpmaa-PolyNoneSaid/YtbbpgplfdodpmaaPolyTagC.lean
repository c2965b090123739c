/- The bytes of the tag: bits of digits, and sums of bytes. -/
import Derived.Test.YtbbpgplfdodpmaaPolyTagB
namespace Go.Proofs.Ytbbpgplfdodpmaa
open Go.RowKit Go.Sort
set_option maxRecDepth 100000
set_option linter.unusedSimpArgs false
set_option linter.unusedVariables false

theorem and_one64 (y : Int) : bits .and .i64 y 1 = y % 2 := by
  have h1 : (BitVec.ofInt 64 1).toNat = 2 ^ 1 - 1 := by decide
  have key : (BitVec.ofInt 64 y &&& BitVec.ofInt 64 1).toNat = (y % ((2 ^ 64 : Nat) : Int)).toNat % 2 ^ 1 := by
    rw [BitVec.toNat_and, BitVec.toNat_ofInt, h1, Nat.and_two_pow_sub_one_eq_mod]
  show IntKind.i64.wrap ((BitVec.ofInt 64 y &&& BitVec.ofInt 64 1).toNat : Nat) = y % 2
  rw [key, IntKind.wrap_i64]
  omega
theorem or_shift (x b k : Nat) (hx : x < 2 ^ k) (hb : b ≤ 1) (hk : k < 8) : bits .or .i64 (x : Int) ((b * 2 ^ k : Nat) : Int) = ((x + b * 2 ^ k : Nat) : Int) := by
  have h2 : (2 : Nat) ^ k ≤ 2 ^ 7 := Nat.pow_le_pow_right (by omega) (by omega)
  rcases (by omega : b = 0 ∨ b = 1) with rfl | rfl
  · rw [Nat.zero_mul, i64_or_nat x 0 (by omega) (by omega)]; simp
  · rw [Nat.one_mul, i64_or_nat x (2 ^ k) (by omega) (by omega), Nat.or_comm]
    have h3 := Nat.two_pow_add_eq_or_of_lt hx 1
    rw [Nat.mul_one] at h3
    rw [← h3, Nat.add_comm]
theorem x_step (t k : Nat) : t % 2 ^ (k + 1) = t % 2 ^ k + (t / 2 ^ k % 2) * 2 ^ k := by rw [mod_succ_bit, Nat.mul_comm]
theorem bit_of (t i k : Nat) : t / 2 ^ (8 * i + k) % 2 = t / 256 ^ i / 2 ^ k % 2 := by
  rw [Nat.pow_add, Nat.pow_mul, show (2 : Nat) ^ 8 = 256 from rfl, ← Nat.div_div_eq_div_mul]
/-- The bit of a digit that the walk asks for. -/
theorem digit_and (t i k : Nat) (hk : k < 8) (hi : i < 16) : bits .and .i64 (((digL t).getD ((8 * i + k) / 13) 0) / 2 ^ ((8 * i + k) % 13)) 1 = ((t / 256 ^ i / 2 ^ k % 2 : Nat) : Int) := by
  rw [and_one64, digL_get _ _ (by omega), ← bit_of, ← digit_bit t (8 * i + k) (by omega)]
  simp
/-- The carry of the sum, and what is written. -/
def carC (t s i : Nat) : Nat := (t % 256 ^ i + s % 256 ^ i) / 256 ^ i
theorem carC_le (t s i : Nat) : carC t s i ≤ 1 := by
  have hp : 0 < 256 ^ i := Nat.pow_pos (by omega)
  have h1 := Nat.mod_lt t hp; have h2 := Nat.mod_lt s hp
  have : carC t s i < 2 := by unfold carC; rw [Nat.div_lt_iff_lt_mul hp]; omega
  omega
theorem carC_step (t s i : Nat) : (carC t s i + t / 256 ^ i % 256 + s / 256 ^ i % 256) / 256 = carC t s (i + 1) ∧ (carC t s i + t / 256 ^ i % 256 + s / 256 ^ i % 256) % 256 = (t + s) / 256 ^ i % 256 := by
  have hp : 0 < 256 ^ i := Nat.pow_pos (by omega)
  have e := add_byte t s (256 ^ i) hp
  unfold carC
  rw [e]
  constructor
  · rw [Nat.div_div_eq_div_mul, ← Nat.pow_succ]
  · exact add_low t s (256 ^ i) hp
theorem key_byte (key : ByteArray) (i : Nat) (hk : key.size = 32) (hi : i < 16) : leN (key.data.toList.drop 16) / 256 ^ i % 256 = (key[16 + i]'(by omega)).toNat := by
  have hl : i < (key.data.toList.drop 16).length := by rw [List.length_drop, ← Lib.size_eq]; omega
  rw [leN_byte _ i hl]
  congr 1
  rw [List.getElem_drop]
  rfl
end Go.Proofs.Ytbbpgplfdodpmaa
