/- The reference's small functions: right32, right64, constants, beginnings, and full (data with what stands behind it). The data has at most 2^20 bytes. -/
import Derived.Test.YthcfolefdalaiaaDoorOwn
import Derived.Test.YthcfolefdalaiaaDoorTabs
import Derived.Great.BuildSlice
namespace Go.Proofs.YthcfolefdalaiaaDoor
open Go.RowKit Go.Sort
set_option maxRecDepth 100000
set_option linter.unusedSimpArgs false
set_option linter.unusedVariables false

theorem right32_any (v n : Int) (w : World) (h0 : 0 ≤ n) (h1 : n ≤ 32) :
    Calls Tryd.prog 40 #[.int .u32 v, .int .i64 n] w fun e w' => e = .returned (.int .u32 (rotr32 v n)) ∧ Below w.heap.size w w' := by
  go_enter Tryd.func40, Tryd.ntmps40
  go_wp2_with fail
  have e1 : IntKind.i64.wrap (32 - n) = 32 - n := IntWalk.i64_in _ (by omega)
  have e2 : (0 : Int) ≤ 32 - n := by omega
  go_quiet (fail)
  go_wp2
  go_ret
  refine ⟨?_, below_drewN (Below.refl _ _) _⟩
  simp [rotr32]
theorem right64_any (v n : Int) (w : World) (h0 : 0 ≤ n) (h1 : n ≤ 64) :
    Calls Tryd.prog 36 #[.int .u64 v, .int .i64 n] w fun e w' => e = .returned (.int .u64 (rotr64 v n)) ∧ Below w.heap.size w w' := by
  go_enter Tryd.func36, Tryd.ntmps36
  go_wp2_with fail
  have e1 : IntKind.i64.wrap (64 - n) = 64 - n := IntWalk.i64_in _ (by omega)
  have e2 : (0 : Int) ≤ 64 - n := by omega
  go_quiet (fail)
  go_wp2
  go_ret
  refine ⟨?_, below_drewN (Below.refl _ _) _⟩
  simp [rotr64]

theorem constants_any (w : World) : Calls Tryd.prog 33 #[] w fun e w' => e = .returned (.slice (some ⟨w.heap.size, 0, none⟩) 80 80) ∧ w.alloc (.cells (kList.map (Value.int .u64)).toArray 48) = w' := by
  go_enter Tryd.func33, Tryd.ntmps33
  go_wp2_with (refine wpList_buildFlat rfl 54 48 80 _ rfl .u64 kList Tryd.underlying54 (by kernel_rfl) (by kernel_rfl) (by kernel_rfl) (by omega) (by omega) (by kernel_rfl) ?_)
  go_ret
  exact ⟨rfl, rfl⟩
theorem beginnings_any (w : World) : Calls Tryd.prog 34 #[] w fun e w' => e = .returned (.slice (some ⟨w.heap.size, 0, none⟩) 8 8) ∧ w.alloc (.cells (hList.map (Value.int .u64)).toArray 48) = w' := by
  go_enter Tryd.func34, Tryd.ntmps34
  go_wp2_with (refine wpList_buildFlat rfl 54 48 8 _ rfl .u64 hList Tryd.underlying54 (by kernel_rfl) (by kernel_rfl) (by kernel_rfl) (by omega) (by omega) (by kernel_rfl) ?_)
  go_ret
  exact ⟨rfl, rfl⟩
end Go.Proofs.YthcfolefdalaiaaDoor
