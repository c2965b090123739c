/- Bits of a key that do not count: plain lists. -/
import Derived.Test.YtbbpgplfdodpmaaPolyMath
namespace Go.Proofs.Ytbbpgplfdodpmaa
open Go.RowKit Go.Sort
set_option maxRecDepth 100000
set_option linter.unusedSimpArgs false
set_option linter.unusedVariables false

theorem and240 (y : Int) : ∃ z : Nat, z < 16 ∧ bits .and .u8 y 240 = ((16 * z : Nat) : Int) := by
  have h : ∀ Y : BitVec 8, (Y &&& BitVec.ofInt 8 240).toNat = 16 * ((Y &&& BitVec.ofInt 8 240).toNat / 16) := by decide +kernel
  have hl := (BitVec.ofInt 8 y &&& BitVec.ofInt 8 240).isLt
  refine ⟨(BitVec.ofInt 8 y &&& BitVec.ofInt 8 240).toNat / 16, by omega, ?_⟩
  rw [← h]
  show IntKind.u8.wrap ((BitVec.ofInt 8 y &&& BitVec.ofInt 8 240).toNat : Nat) = _
  rw [IntKind.wrap_u8]
  omega
theorem and3 (y : Int) : ∃ z : Nat, z < 4 ∧ bits .and .u8 y 3 = (z : Int) := by
  have h : ∀ Y : BitVec 8, (Y &&& BitVec.ofInt 8 3).toNat < 4 := by decide +kernel
  refine ⟨(BitVec.ofInt 8 y &&& BitVec.ofInt 8 3).toNat, h _, ?_⟩
  show IntKind.u8.wrap ((BitVec.ofInt 8 y &&& BitVec.ofInt 8 3).toNat : Nat) = _
  rw [IntKind.wrap_u8]
  have := h (BitVec.ofInt 8 y)
  omega
theorem fin240 : ∀ x, x < 256 → ∀ z, z < 16 → bits .and .u8 (bits .xor .u8 (x : Nat) ((16 * z : Nat) : Int)) 15 = bits .and .u8 (x : Nat) 15 := by decide +kernel
theorem fin3 : ∀ x, x < 256 → ∀ z, z < 4 → bits .and .u8 (bits .xor .u8 (x : Nat) ((z : Nat) : Int)) 252 = bits .and .u8 (x : Nat) 252 := by decide +kernel
theorem mask240 (y : Int) (x : UInt8) : andB 15 (xorB (bits .and .u8 y 240) x) = andB 15 x := by
  obtain ⟨z, hz, e⟩ := and240 y
  have h1 : ((andB 15 (xorB (bits .and .u8 y 240) x)).toNat : Int) = ((andB 15 x).toNat : Int) := by
    rw [andB_toNat, xorB_toNat, andB_toNat, e]
    exact fin240 x.toNat x.toNat_lt z hz
  exact UInt8.toNat_inj.1 (by omega)
theorem mask3 (y : Int) (x : UInt8) : andB 252 (xorB (bits .and .u8 y 3) x) = andB 252 x := by
  obtain ⟨z, hz, e⟩ := and3 y
  have h1 : ((andB 252 (xorB (bits .and .u8 y 3) x)).toNat : Int) = ((andB 252 x).toNat : Int) := by
    rw [andB_toNat, xorB_toNat, andB_toNat, e]
    exact fin3 x.toNat x.toNat_lt z hz
  exact UInt8.toNat_inj.1 (by omega)
def xb1 (bl : List Int) (l : List UInt8) : Nat → List UInt8
  | 0 => l
  | m + 1 => (xb1 bl l m).set (4 * m + 3) (xorB (bits .and .u8 (bl.getD m 0) 240) ((xb1 bl l m).getD (4 * m + 3) 0))
def xb2 (bl : List Int) (l : List UInt8) : Nat → List UInt8
  | 0 => l
  | m + 1 => (xb2 bl l m).set (4 * m + 4) (xorB (bits .and .u8 (bl.getD (4 + m) 0) 3) ((xb2 bl l m).getD (4 * m + 4) 0))
theorem xb1_length (bl : List Int) (l : List UInt8) (m : Nat) : (xb1 bl l m).length = l.length := by induction m with | zero => rfl | succ m ih => simp [xb1, ih]
theorem xb2_length (bl : List Int) (l : List UInt8) (m : Nat) : (xb2 bl l m).length = l.length := by induction m with | zero => rfl | succ m ih => simp [xb2, ih]
theorem xb1_append (bl : List Int) (l r : List UInt8) (m : Nat) (h : 4 * m ≤ l.length) : xb1 bl (l ++ r) m = xb1 bl l m ++ r := by
  induction m with
  | zero => rfl
  | succ m ih =>
    rw [xb1, ih (by omega), xb1, List.set_append, if_pos (by rw [xb1_length]; omega)]
    congr 3
    simp [List.getD_eq_getElem?_getD, List.getElem?_append_left, xb1_length, show 4 * m + 3 < l.length by omega]
theorem xb2_append (bl : List Int) (l r : List UInt8) (m : Nat) (h : 4 * m < l.length) : xb2 bl (l ++ r) m = xb2 bl l m ++ r := by
  induction m with
  | zero => rfl
  | succ m ih =>
    rw [xb2, ih (by omega), xb2, List.set_append, if_pos (by rw [xb2_length]; omega)]
    congr 3
    simp [List.getD_eq_getElem?_getD, List.getElem?_append_left, xb2_length, show 4 * m + 4 < l.length by omega]
theorem sixteen8 (l : List UInt8) (h : l.length = 16) : ∃ x0 x1 x2 x3 x4 x5 x6 x7 x8 x9 x10 x11 x12 x13 x14 x15, l = [x0, x1, x2, x3, x4, x5, x6, x7, x8, x9, x10, x11, x12, x13, x14, x15] := by
  match l, h with
  | [x0, x1, x2, x3, x4, x5, x6, x7, x8, x9, x10, x11, x12, x13, x14, x15], _ => exact ⟨_, _, _, _, _, _, _, _, _, _, _, _, _, _, _, _, rfl⟩
theorem clamp_masked (bl : List Int) (l : List UInt8) (h : l.length = 16) : clampL (xb2 bl (xb1 bl l 4) 3) = clampL l := by
  obtain ⟨x0, x1, x2, x3, x4, x5, x6, x7, x8, x9, x10, x11, x12, x13, x14, x15, rfl⟩ := sixteen8 l h
  simp [clampL, cl1, cl2, xb1, xb2, mask240, mask3]
theorem polyTag_masked (bl : List Int) (k d : List UInt8) (h : k.length = 32) : polyTag (xb2 bl (xb1 bl k 4) 3) d = polyTag k d := by
  obtain ⟨a, r, rfl, ha⟩ : ∃ a r, k = a ++ r ∧ a.length = 16 := ⟨k.take 16, k.drop 16, by simp, by simp; omega⟩
  rw [xb1_append _ _ _ _ (by omega), xb2_append _ _ _ _ (by rw [xb1_length]; omega)]
  have hl : (xb2 bl (xb1 bl a 4) 3).length = 16 := by rw [xb2_length, xb1_length, ha]
  refine polyTag_clamp _ _ _ ?_ ?_
  · rw [List.take_append_of_le_length (by omega), List.take_append_of_le_length (by omega), List.take_of_length_le (by omega), List.take_of_length_le (by omega), clamp_masked _ _ ha]
  · rw [List.drop_append_of_le_length (by omega), List.drop_append_of_le_length (by omega), List.drop_of_length_le (by omega), List.drop_of_length_le (by omega)]
end Go.Proofs.Ytbbpgplfdodpmaa
