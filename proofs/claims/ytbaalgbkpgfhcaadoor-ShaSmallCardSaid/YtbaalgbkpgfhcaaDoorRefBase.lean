/- The reference's small functions: right32, right64, constants, beginnings, and full (data with what stands behind it). The data has at most 2^20 bytes. -/
import Derived.Test.YtbaalgbkpgfhcaaDoorOwn
import Derived.Test.YtbaalgbkpgfhcaaDoorTabs
import Derived.Great.BuildSlice
namespace Go.Proofs.YtbaalgbkpgfhcaaDoor
open Go.RowKit Go.Sort

theorem right32_any (v n : Int) (w : World) (h0 : 0 ≤ n) (h1 : n ≤ 32) :
    Calls Tryd.prog 22 #[.int .u32 v, .int .i64 n] w fun e w' => e = .returned (.int .u32 (rotr32 v n)) ∧ Below w.heap.size w w' := by
  go_enter Tryd.func22, Tryd.ntmps22
  go_wp2_with fail
  have e1 : IntKind.i64.wrap (32 - n) = 32 - n := IntWalk.i64_in _ (by omega)
  have e2 : (0 : Int) ≤ 32 - n := by omega
  go_quiet (fail)
  go_wp2
  go_ret
  refine ⟨?_, below_drewN (Below.refl _ _) _⟩
  simp [rotr32]
theorem right64_any (v n : Int) (w : World) (h0 : 0 ≤ n) (h1 : n ≤ 64) :
    Calls Tryd.prog 25 #[.int .u64 v, .int .i64 n] w fun e w' => e = .returned (.int .u64 (rotr64 v n)) ∧ Below w.heap.size w w' := by
  go_enter Tryd.func25, Tryd.ntmps25
  go_wp2_with fail
  have e1 : IntKind.i64.wrap (64 - n) = 64 - n := IntWalk.i64_in _ (by omega)
  have e2 : (0 : Int) ≤ 64 - n := by omega
  go_quiet (fail)
  go_wp2
  go_ret
  refine ⟨?_, below_drewN (Below.refl _ _) _⟩
  simp [rotr64]

theorem constants_any (w : World) : Calls Tryd.prog 19 #[] w fun e w' => e = .returned (.slice (some ⟨w.heap.size, 0, none⟩) 80 80) ∧ w.alloc (.cells (kList.map (Value.int .u64)).toArray 44) = w' := by
  go_enter Tryd.func19, Tryd.ntmps19
  go_wp2_with (refine wpList_buildFlat rfl 41 44 80 _ rfl .u64 kList Tryd.underlying41 (by kernel_rfl) (by kernel_rfl) (by kernel_rfl) (by omega) (by omega) (by kernel_rfl) ?_)
  go_ret
  exact ⟨rfl, rfl⟩
theorem beginnings_any (w : World) : Calls Tryd.prog 20 #[] w fun e w' => e = .returned (.slice (some ⟨w.heap.size, 0, none⟩) 8 8) ∧ w.alloc (.cells (hList.map (Value.int .u64)).toArray 44) = w' := by
  go_enter Tryd.func20, Tryd.ntmps20
  go_wp2_with (refine wpList_buildFlat rfl 41 44 8 _ rfl .u64 hList Tryd.underlying41 (by kernel_rfl) (by kernel_rfl) (by kernel_rfl) (by omega) (by omega) (by kernel_rfl) ?_)
  go_ret
  exact ⟨rfl, rfl⟩
end Go.Proofs.YtbaalgbkpgfhcaaDoor
