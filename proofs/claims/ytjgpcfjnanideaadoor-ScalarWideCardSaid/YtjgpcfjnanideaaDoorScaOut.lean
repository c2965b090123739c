/- The program's bytes of a number. -/
import Derived.Test.YtjgpcfjnanideaaDoorScaByt
import Derived.Test.YtjgpcfjnanideaaDoorBase
namespace Go.Proofs.YtjgpcfjnanideaaDoor
open Go.RowKit Go.Sort
set_option maxRecDepth 100000
set_option linter.unusedSimpArgs false
set_option linter.unusedVariables false

theorem i64_wrap64 (x : Int) : IntKind.i64.wrap x = wrap64 x := by
  rw [IntKind.wrap_i64]
  unfold wrap64
  omega
set_option maxHeartbeats 2000000 in
theorem bytesN_any (X : Nat) (w : World) :
    Calls Tryd.prog 19 #[.agg (nuC (X : Int))] w fun e w' => e = .returned (.string ⟨(leF X 32).toArray⟩) ∧ Below w.heap.size w w' := by
  obtain ⟨hz, hi⟩ := zero_of_info infoB32
  have HG0 := Lib.hid (blk_old (o := .cells bzeros32 46) (blk_new w (.cells (nuC (X : Int)) 33)))
  have HO0 := Lib.hid (blk_new2 w (.cells (nuC (X : Int)) 33) (.cells bzeros32 46))
  have hb0 := below_new2 w (.cells (nuC (X : Int)) 33) (.cells bzeros32 46)
  clear hi
  go_enter Tryd.func19, Tryd.ntmps19
  go_wp2_with fail
  clear hz
  generalize ((w.alloc _).alloc _) = W0 at *
  generalize hBB : w.heap.size = B at *
  have HBB := Lib.hid hBB
  clear hBB
  go_loopw [7] (fun iv wr => ∃ k : Nat, k ≤ 32 ∧ iv = .int .i64 (k : Int) ∧ wr.heap[B]? = some (.cells (nuC (X : Int)) 33) ∧ wr.heap[B + 1]? = some (.cells (bcells (outF X k)) 46) ∧ Below B w wr) (fun iv _ => 32 - (intOf iv).toNat)
  case atStart => exact ⟨0, by omega, rfl, HG0.out, HO0.out, hb0⟩
  case round =>
    clear HG0 HO0 hb0
    obtain ⟨k, hk, rfl, hg, ho, hb⟩ := hrel
    have HG := Lib.hid hg; have HO := Lib.hid ho
    clear hg ho
    by_cases hlt : k < 32
    · have hd : decide ((k : Int) < 32) = true := by simp; omega
      obtain ⟨p, q, hp, hq, hp36, hv⟩ := byte_at X k hlt
      have cx := ic_cell HG.out (8 * k / 36) (by rw [limI_length]; omega)
      have cy := ic_cell HG.out (8 * k / 36 + 1) (by rw [limI_length]; omega)
      rw [hp] at cx
      rw [hq] at cy
      have hs := outF_set X k hlt
      have hb8 : (UInt8.ofNat (X / 256 ^ k)).toNat = X / 256 ^ k % 256 := by rw [UInt8.toNat_ofNat']
      rw [← hb8] at hv
      generalize UInt8.ofNat (X / 256 ^ k) = b8 at *
      have hat : 8 * k % 36 ≤ 32 := by omega
      have hdv : p / 2 ^ (8 * k % 36) < 2 ^ (36 - 8 * k % 36) := by
        rw [Nat.div_lt_iff_lt_mul (Nat.pow_pos (by decide)), ← Nat.pow_add, show 36 - 8 * k % 36 + 8 * k % 36 = 36 by omega]
        exact hp36
      have hor := or_low (p / 2 ^ (8 * k % 36)) q (36 - 8 * k % 36) hdv (by omega) (Nat.lt_of_le_of_lt (Nat.div_le_self _ _) hp36)
      rw [hv] at hor
      have hcast : ((p / 2 ^ (8 * k % 36) : Nat) : Int) = (p : Int) / 2 ^ (8 * k % 36) := by simp
      rw [hcast, show IntKind.i64.wrap ((q : Int) * 2 ^ (36 - 8 * k % 36)) = wrap64 ((q : Int) * 2 ^ (36 - 8 * k % 36)) from i64_wrap64 _] at hor
      have e1 : (8 * (k : Int) / 36).toNat = 8 * k / 36 := by omega
      have e2 : (8 * (k : Int) / 36 + 1).toNat = 8 * k / 36 + 1 := by omega
      have e3 : (8 * (k : Int) % 36).toNat = 8 * k % 36 := by omega
      have e4 : (36 - 8 * (k : Int) % 36).toNat = 36 - 8 * k % 36 := by omega
      clear hcast hdv hv hb8 hp hq
      go_wp2_with fail
      have ka := cell_regrown cx; have kb := cell_regrown cy
      refine wp_region_reads_tail 16 (by kernel_rfl) (by kernel_rfl) ?_
      simp only [List.take_succ_cons, List.take_zero, List.drop_succ_cons, List.drop_zero]
      repeat (first | go_big_quiet_step (fail) | quiet_step (fail))
      refine wpQuiet_nil ?_
      intro W1 hb1
      have hlw := blk_lt HO.out
      have hG1 := blk_below hb1 (by omega) HG.out
      have hO1 := blk_below hb1 hlw HO.out
      have r1 := bheap_set hO1 k b8
      rw [hs] at r1
      have co := bcell_at hO1 k (by rw [outF_length _ _ (by omega)]; exact hlt)
      have fo := frozen_of_row W1 (B + 1) k _ _ hO1
      have HO2 := Lib.hid r1
      have HG2 := Lib.hid (show (W1.setCell ⟨B + 1, k, none⟩ (.int .u8 (b8.toNat : Int))).heap[B]? = some (.cells (nuC (X : Int)) 33) from by rw [heap_setCell_other _ _ _ _ (by simp)]; exact hG1)
      have hb2 : Below B w (W1.setCell ⟨B + 1, k, none⟩ (.int .u8 (b8.toNat : Int))) := (hb.trans (hb1.mono (by omega))).setCell (by simp) _
      clear r1 hb hb1 HG HO hs hG1 hO1 hlw ka kb cx cy
      go_wp2_with fail
      go_roundw
      case rel => exact ⟨k + 1, by omega, by go_num, HG2.out, HO2.out, hb2⟩
      case measure => simp [intOf]; omega
    · have hd : decide ((k : Int) < 32) = false := by simp; omega
      obtain rfl : k = 32 := by omega
      rw [outF_full] at HO
      have hl := leF_length X 32
      have hc := run_string_row wr (B + 1) 32 (leF X 32) (cells_of_bcells HO.out)
      have sl := arr_sliced_all 46 32 (B + 1) (by kernel_rfl) (by kernel_rfl) (by kernel_rfl) (by omega)
      rw [hl] at hc
      generalize hrow : leF X 32 = row at *
      have HROW := Lib.hid hrow
      clear hrow
      go_wp2_with fail
      go_ret
      exact ⟨by rw [HROW.out]; rfl, by rw [HBB.out]; exact hb⟩
end Go.Proofs.YtjgpcfjnanideaaDoor
