/- sha.load at words of 64 bits: the word whose bytes a string is, one byte behind the other. The string is no longer than a string may be. -/
import Derived.Test.YthcfolefdalaiaaDoorFns64
namespace Go.Proofs.YthcfolefdalaiaaDoor
open Go.RowKit Go.Sort
set_option maxRecDepth 100000
set_option linter.unusedSimpArgs false
set_option linter.unusedVariables false

def ld64 (l : List UInt8) : Int := l.foldl (fun v c => bits .or .u64 (IntKind.u64.wrap (v * 256)) (IntKind.u64.wrap (c.toNat : Int))) 0
theorem ld64_snoc (s : ByteArray) (k : Nat) (h : k < s.size) : ld64 (s.data.toList.take (k + 1)) = bits .or .u64 (IntKind.u64.wrap (ld64 (s.data.toList.take k) * 256)) (IntKind.u64.wrap (s[k].toNat : Int)) := by
  unfold ld64
  rw [List.take_succ_eq_append_getElem (by simpa using h), List.foldl_append]
  rfl

theorem load64_any (s : ByteArray) (w : World) (hs : s.size ≤ maxLen) :
    Calls Tryd.prog 70 #[.string s] w fun e w' => e = .returned (.int .u64 (ld64 s.data.toList)) ∧ w = w' := by
  unfold maxLen at hs
  go_enter Tryd.func70, Tryd.ntmps70
  go_wp2
  go_loop [3, 7] (fun v i => ∃ k : Nat, k ≤ s.size ∧ i = .int .i64 k ∧ v = .int .u64 (ld64 (s.data.toList.take k))) (fun _ i => s.size - (intOf i).toNat)
  case atStart => exact ⟨0, Nat.zero_le _, rfl, rfl⟩
  case round =>
    obtain ⟨k, hk, rfl, rfl⟩ := hrel
    by_cases hlt : k < s.size
    · have HS := Lib.hid (ld64_snoc s k hlt)
      generalize ld64 (s.data.toList.take k) = x at *
      go_wp2
      go_round
      case rel => exact ⟨k + 1, by omega, by go_num, by rw [HS.out]⟩
      case measure => simp [intOf]; omega
    · go_wp2
      go_ret
      exact ⟨by rw [List.take_of_length_le (by simp; omega)]; rfl, rfl⟩
end Go.Proofs.YthcfolefdalaiaaDoor
