/- Pieces of data, and one step of the sum. -/
import Derived.Test.YtbbpgplfdodpmaaPolyTagA
namespace Go.Proofs.Ytbbpgplfdodpmaa
open Go.RowKit Go.Sort
set_option maxRecDepth 100000
set_option linter.unusedSimpArgs false
set_option linter.unusedVariables false

theorem piece_take (rem : ByteArray) (l : List UInt8) (h : rem.data.toList = l) (n : Nat) (hn : (n = 16 ∧ 16 ≤ rem.size) ∨ (n = rem.size ∧ rem.size ≤ 16)) : (rem.extract 0 n ++ (⟨#[1]⟩ : ByteArray)).data.toList = l.take 16 ++ [1] := by
  have e : (rem.extract 0 n ++ (⟨#[1]⟩ : ByteArray)).data.toList = (rem.extract 0 n).data.toList ++ [1] := by simp
  have hl : l.length = rem.size := by rw [← h, ← Lib.size_eq]
  rw [e, Lib.extract_data, h]
  congr 1
  rcases hn with ⟨rfl, _⟩ | ⟨rfl, h16⟩
  · simp
  · rw [List.take_of_length_le (show l.length ≤ 16 by omega)]
    simp [← hl]
theorem piece_whole (rem : ByteArray) (l : List UInt8) (h : rem.data.toList = l) (hn : rem.size ≤ 16) : (rem ++ (⟨#[1]⟩ : ByteArray)).data.toList = l.take 16 ++ [1] := by
  have hl : l.length = rem.size := by rw [← h, ← Lib.size_eq]
  rw [List.take_of_length_le (show l.length ≤ 16 by omega), ← h]; simp
theorem piece_drop (rem : ByteArray) (l : List UInt8) (h : rem.data.toList = l) (n : Nat) (hn : (n = 16 ∧ 16 ≤ rem.size) ∨ (n = rem.size ∧ rem.size ≤ 16)) : (rem.extract n rem.size).data.toList = l.drop 16 := by
  have hl : l.length = rem.size := by rw [← h, ← Lib.size_eq]
  rw [Lib.extract_data, h]
  rcases hn with ⟨rfl, _⟩ | ⟨rfl, h16⟩
  · rw [List.take_of_length_le (by rw [← hl]; simp)]
  · rw [List.drop_of_length_le (show l.length ≤ 16 by omega)]
    simp
theorem step_mod (va pn R g q : Int) (h : va % polyP = g) : (va + pn - polyP * q) * R % polyP = (g + pn) * R % polyP := by
  have e : (va + pn - polyP * q) % polyP = (g + pn) % polyP := by
    rw [Int.sub_emod, Int.mul_emod_right, Int.sub_zero, Int.emod_emod_of_dvd _ (Int.dvd_refl _), ← h, Int.emod_add_emod]
  rw [Int.mul_emod, e, ← Int.mul_emod]
end Go.Proofs.Ytbbpgplfdodpmaa
