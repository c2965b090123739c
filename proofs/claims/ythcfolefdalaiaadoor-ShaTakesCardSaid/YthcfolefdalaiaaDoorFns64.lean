/- The small functions of package sha at words of 64 bits: what each call returns. No condition but the words' own bounds. -/
import Derived.Test.YthcfolefdalaiaaDoorCommon
namespace Go.Proofs.YthcfolefdalaiaaDoor
open Go.RowKit Go.Sort
set_option maxRecDepth 100000
set_option linter.unusedSimpArgs false
set_option linter.unusedVariables false

/-- A word turned right, as the walk spells it. -/
def rotr64 (v n : Int) : Int := bits .or .u64 (v / 2 ^ n.toNat) (IntKind.u64.wrap (v * 2 ^ (64 - n).toNat))
def rot3_64 (v a b c : Int) : Int := bits .xor .u64 (bits .xor .u64 (rotr64 v a) (rotr64 v b)) (rotr64 v c)
def shf3_64 (v a b c : Int) : Int := bits .xor .u64 (bits .xor .u64 (rotr64 v a) (rotr64 v b)) (v / 2 ^ c.toNat)

theorem rotr64_any (v n : Int) (w : World) (h0 : 0 ≤ n) (h1 : n ≤ 64) :
    Calls Tryd.prog 72 #[.int .u64 v, .int .u64 n, .int .u64 64] w fun e w' => e = .returned (.int .u64 (rotr64 v n)) ∧ w' = w := by
  go_enter Tryd.func72, Tryd.ntmps72
  go_wp2
  go_ret
  exact ⟨by simp [rotr64], rfl⟩

theorem rotations64_any (v a b c : Int) (w : World) (a0 : 0 ≤ a) (a1 : a ≤ 64) (b0 : 0 ≤ b) (b1 : b ≤ 64) (c0 : 0 ≤ c) (c1 : c ≤ 64) :
    Calls Tryd.prog 66 #[.int .u64 v, .agg #[.int .u64 a, .int .u64 b, .int .u64 c], .int .u64 64] w fun e w' => e = .returned (.int .u64 (rot3_64 v a b c)) ∧ Below w.heap.size w w' := by
  go_enter Tryd.func66, Tryd.ntmps66
  go_wp2_with fail
  go_quiet ((go_at_call 72; exact Calls.quiet_of_same (rotr64_any _ _ _ (by assumption) (by assumption))))
  go_wp2
  go_ret
  exact ⟨by simp [rot3_64], below_drewN ((Below.refl _ _).alloc (Nat.le_refl _) _) _⟩

theorem shifted64_any (v a b c : Int) (w : World) (a0 : 0 ≤ a) (a1 : a ≤ 64) (b0 : 0 ≤ b) (b1 : b ≤ 64) (c0 : 0 ≤ c) (c1 : c ≤ 64) :
    Calls Tryd.prog 71 #[.int .u64 v, .agg #[.int .u64 a, .int .u64 b, .int .u64 c], .int .u64 64] w fun e w' => e = .returned (.int .u64 (shf3_64 v a b c)) ∧ Below w.heap.size w w' := by
  go_enter Tryd.func71, Tryd.ntmps71
  go_wp2_with fail
  go_quiet ((go_at_call 72; exact Calls.quiet_of_same (rotr64_any _ _ _ (by assumption) (by assumption))))
  go_wp2
  go_ret
  exact ⟨by simp [shf3_64], below_drewN ((Below.refl _ _).alloc (Nat.le_refl _) _) _⟩

/-- The parameters of Sum512. -/
abbrev prm512 : Value := .agg #[.int .i64 128, .int .i64 80, .int .u64 1, .int .u64 8, .int .u64 7, .int .u64 19, .int .u64 61, .int .u64 6, .int .u64 14, .int .u64 18, .int .u64 41, .int .u64 28, .int .u64 34, .int .u64 39]

theorem parameters512_any (w : World) : Calls Tryd.prog 32 #[] w fun e w' => e = .returned prm512 ∧ Below w.heap.size w w' := by
  go_enter Tryd.func32, Tryd.ntmps32
  go_wp2
  exact bodyPost_ret (v := prm512) (by simp [results, Tryd.results32, go_sem]) rfl ⟨rfl, by simpa using (Below.refl _ _).alloc (Nat.le_refl _) _⟩

theorem wordBytes512 (w : World) : Calls Tryd.prog 53 #[prm512] w fun e w' => e = .returned (.int .i64 8) ∧ Below w.heap.size w w' := by
  go_enter Tryd.func53, Tryd.ntmps53
  go_wp2
  go_ret
  exact ⟨rfl, (Below.refl _ _).alloc (Nat.le_refl _) _⟩
theorem lengthBytes512 (w : World) : Calls Tryd.prog 61 #[prm512] w fun e w' => e = .returned (.int .i64 16) ∧ Below w.heap.size w w' := by
  go_enter Tryd.func61, Tryd.ntmps61
  go_wp2
  go_ret
  exact ⟨rfl, (Below.refl _ _).alloc (Nat.le_refl _) _⟩
theorem wordBits512 (w : World) : Calls Tryd.prog 54 #[prm512] w fun e w' => e = .returned (.int .u64 64) ∧ Below w.heap.size w w' := by
  go_enter Tryd.func54, Tryd.ntmps54
  go_wp2
  go_ret
  exact ⟨rfl, (Below.refl _ _).alloc (Nat.le_refl _) _⟩
theorem unused512 (w : World) : Calls Tryd.prog 51 #[prm512] w fun e w' => e = .returned (.int .u64 0) ∧ Below w.heap.size w w' := by
  go_enter Tryd.func51, Tryd.ntmps51
  go_wp2_with (go_at_call 54; refine (wordBits512 _).mono ?_; rintro e w' ⟨rfl, hb⟩)
  go_ret
  exact ⟨rfl, ((Below.refl _ _).alloc (Nat.le_refl _) _).trans (hb.mono (by simp))⟩

end Go.Proofs.YthcfolefdalaiaaDoor
