/- sha.load at words of 32 bits: the word whose bytes a string is, one byte behind the other. The string is no longer than a string may be. -/
import Derived.Test.YthcfolefdalaiaaDoorFns32
namespace Go.Proofs.YthcfolefdalaiaaDoor
open Go.RowKit Go.Sort
set_option maxRecDepth 100000
set_option linter.unusedSimpArgs false
set_option linter.unusedVariables false

def ld32 (l : List UInt8) : Int := l.foldl (fun v c => bits .or .u32 (v * 256 % 4294967296) ((c.toNat : Int) % 4294967296)) 0
theorem ld32_snoc (s : ByteArray) (k : Nat) (h : k < s.size) : ld32 (s.data.toList.take (k + 1)) = bits .or .u32 (ld32 (s.data.toList.take k) * 256 % 4294967296) ((s[k].toNat : Int) % 4294967296) := by
  unfold ld32
  rw [List.take_succ_eq_append_getElem (by simpa using h), List.foldl_append]
  rfl

theorem load32_any (s : ByteArray) (w : World) (hs : s.size ≤ maxLen) :
    Calls Tryd.prog 67 #[.string s] w fun e w' => e = .returned (.int .u32 (ld32 s.data.toList)) ∧ w = w' := by
  unfold maxLen at hs
  go_enter Tryd.func67, Tryd.ntmps67
  go_wp2
  go_loop [3, 7] (fun v i => ∃ k : Nat, k ≤ s.size ∧ i = .int .i64 k ∧ v = .int .u32 (ld32 (s.data.toList.take k))) (fun _ i => s.size - (intOf i).toNat)
  case atStart => exact ⟨0, Nat.zero_le _, rfl, rfl⟩
  case round =>
    obtain ⟨k, hk, rfl, rfl⟩ := hrel
    by_cases hlt : k < s.size
    · have HS := Lib.hid (ld32_snoc s k hlt)
      generalize ld32 (s.data.toList.take k) = x at *
      go_wp2
      go_round
      case rel => exact ⟨k + 1, by omega, by go_num, by rw [HS.out]⟩
      case measure => simp [intOf]; omega
    · go_wp2
      go_ret
      exact ⟨by rw [List.take_of_length_le (by simp; omega)]; rfl, rfl⟩
end Go.Proofs.YthcfolefdalaiaaDoor
