/- The small functions of package sha at words of 32 bits: what each call returns. No condition but the words' own bounds. -/
import Derived.Test.YthcfolefdalaiaaDoorCommon
namespace Go.Proofs.YthcfolefdalaiaaDoor
open Go.RowKit Go.Sort
set_option maxRecDepth 100000
set_option linter.unusedSimpArgs false
set_option linter.unusedVariables false

/-- A word turned right, as the walk spells it. -/
def rotr32 (v n : Int) : Int := bits .or .u32 (v / 2 ^ n.toNat) (v * 2 ^ (32 - n).toNat % 4294967296)
def rot3_32 (v a b c : Int) : Int := bits .xor .u32 (bits .xor .u32 (rotr32 v a) (rotr32 v b)) (rotr32 v c)
def shf3_32 (v a b c : Int) : Int := bits .xor .u32 (bits .xor .u32 (rotr32 v a) (rotr32 v b)) (v / 2 ^ c.toNat)

theorem rotr32_any (v n : Int) (w : World) (h0 : 0 ≤ n) (h1 : n ≤ 32) :
    Calls Tryd.prog 69 #[.int .u32 v, .int .u64 n, .int .u64 32] w fun e w' => e = .returned (.int .u32 (rotr32 v n)) ∧ w' = w := by
  go_enter Tryd.func69, Tryd.ntmps69
  go_wp2
  go_ret
  exact ⟨by simp [rotr32], rfl⟩

theorem rotations32_any (v a b c : Int) (w : World) (a0 : 0 ≤ a) (a1 : a ≤ 32) (b0 : 0 ≤ b) (b1 : b ≤ 32) (c0 : 0 ≤ c) (c1 : c ≤ 32) :
    Calls Tryd.prog 63 #[.int .u32 v, .agg #[.int .u64 a, .int .u64 b, .int .u64 c], .int .u64 32] w fun e w' => e = .returned (.int .u32 (rot3_32 v a b c)) ∧ Below w.heap.size w w' := by
  go_enter Tryd.func63, Tryd.ntmps63
  go_wp2_with fail
  go_quiet ((go_at_call 69; exact Calls.quiet_of_same (rotr32_any _ _ _ (by assumption) (by assumption))))
  go_wp2
  go_ret
  exact ⟨by simp [rot3_32], below_drewN ((Below.refl _ _).alloc (Nat.le_refl _) _) _⟩

theorem shifted32_any (v a b c : Int) (w : World) (a0 : 0 ≤ a) (a1 : a ≤ 32) (b0 : 0 ≤ b) (b1 : b ≤ 32) (c0 : 0 ≤ c) (c1 : c ≤ 32) :
    Calls Tryd.prog 68 #[.int .u32 v, .agg #[.int .u64 a, .int .u64 b, .int .u64 c], .int .u64 32] w fun e w' => e = .returned (.int .u32 (shf3_32 v a b c)) ∧ Below w.heap.size w w' := by
  go_enter Tryd.func68, Tryd.ntmps68
  go_wp2_with fail
  go_quiet ((go_at_call 69; exact Calls.quiet_of_same (rotr32_any _ _ _ (by assumption) (by assumption))))
  go_wp2
  go_ret
  exact ⟨by simp [shf3_32], below_drewN ((Below.refl _ _).alloc (Nat.le_refl _) _) _⟩

/-- The parameters of Sum256. -/
abbrev prm256 : Value := .agg #[.int .i64 64, .int .i64 64, .int .u64 7, .int .u64 18, .int .u64 3, .int .u64 17, .int .u64 19, .int .u64 10, .int .u64 6, .int .u64 11, .int .u64 25, .int .u64 2, .int .u64 13, .int .u64 22]

theorem parameters256_any (w : World) : Calls Tryd.prog 38 #[] w fun e w' => e = .returned prm256 ∧ Below w.heap.size w w' := by
  go_enter Tryd.func38, Tryd.ntmps38
  go_wp2
  exact bodyPost_ret (v := prm256) (by simp [results, Tryd.results38, go_sem]) rfl ⟨rfl, by simpa using (Below.refl _ _).alloc (Nat.le_refl _) _⟩

theorem wordBytes256 (w : World) : Calls Tryd.prog 53 #[prm256] w fun e w' => e = .returned (.int .i64 4) ∧ Below w.heap.size w w' := by
  go_enter Tryd.func53, Tryd.ntmps53
  go_wp2
  go_ret
  exact ⟨rfl, (Below.refl _ _).alloc (Nat.le_refl _) _⟩
theorem lengthBytes256 (w : World) : Calls Tryd.prog 61 #[prm256] w fun e w' => e = .returned (.int .i64 8) ∧ Below w.heap.size w w' := by
  go_enter Tryd.func61, Tryd.ntmps61
  go_wp2
  go_ret
  exact ⟨rfl, (Below.refl _ _).alloc (Nat.le_refl _) _⟩
theorem wordBits256 (w : World) : Calls Tryd.prog 54 #[prm256] w fun e w' => e = .returned (.int .u64 32) ∧ Below w.heap.size w w' := by
  go_enter Tryd.func54, Tryd.ntmps54
  go_wp2
  go_ret
  exact ⟨rfl, (Below.refl _ _).alloc (Nat.le_refl _) _⟩
theorem unused256 (w : World) : Calls Tryd.prog 51 #[prm256] w fun e w' => e = .returned (.int .u64 32) ∧ Below w.heap.size w w' := by
  go_enter Tryd.func51, Tryd.ntmps51
  go_wp2_with (go_at_call 54; refine (wordBits256 _).mono ?_; rintro e w' ⟨rfl, hb⟩)
  go_ret
  exact ⟨rfl, ((Below.refl _ _).alloc (Nat.le_refl _) _).trans (hb.mono (by simp))⟩

end Go.Proofs.YthcfolefdalaiaaDoor
