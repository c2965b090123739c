/- Messages that are the same: the reference's Same. -/
import Derived.Test.YtjemikbnncfonaaHeP
namespace Go.Proofs.Ytjemikbnncfonaa
open Go.RowKit Go.Sort
set_option maxRecDepth 100000
set_option linter.unusedSimpArgs false
set_option linter.unusedVariables false

set_option maxHeartbeats 2000000 in
theorem rsame_any (m : HMsg) (ao bo : Option Addr) (n c d : Nat) (w : World) (hn : m.su.length = n) (hm : n ≤ 1000000) (hI : IntsAt w ao m.su) (hJ : IntsAt w bo m.su) :
    Calls Try.prog 14 #[.agg (msC m (.slice ao n c)), .agg (msC m (.slice bo n d))] w fun e w' => e = .returned (.bool true) ∧ Below w.heap.size w w' := by
  obtain ⟨k, rn, sh, su, da, ask⟩ := m
  dsimp only at hn hI hJ
  have HB1 := below_new w (.cells (msC ⟨k, rn, sh, su, da, ask⟩ (.slice ao n c)) 31)
  have HB2 := below_new (w.alloc (.cells (msC ⟨k, rn, sh, su, da, ask⟩ (.slice ao n c)) 31)) (.cells (msC ⟨k, rn, sh, su, da, ask⟩ (.slice bo n d)) 31)
  have g1 := blk_new w (.cells (msC ⟨k, rn, sh, su, da, ask⟩ (.slice ao n c)) 31)
  have g1' := blk_below HB2 (blk_lt g1) g1
  obtain ⟨a0, a1, a2, a3, a4, a5⟩ := ms_cells g1'
  obtain ⟨b0, b1, b2, b3, b4, b5⟩ := ms_cells (blk_new2 w (.cells (msC ⟨k, rn, sh, su, da, ask⟩ (.slice ao n c)) 31) (.cells (msC ⟨k, rn, sh, su, da, ask⟩ (.slice bo n d)) 31))
  dsimp only at a0 a1 a2 a3 a4 a5 b0 b1 b2 b3 b4 b5
  have HBB := Lib.hid (HB1.trans (HB2.mono HB1.size))
  have HI := Lib.hid (hI.step HBB.out)
  have HJ := Lib.hid (hJ.step HBB.out)
  have HN := Lib.hid hn
  have hnn : ((n : Int) != (n : Int)) = false := by simp
  clear hI hJ hn HB1 HB2 g1 g1'
  go_enter Try.func14, Try.ntmps14
  go_wp2_with fail
  generalize hW : (w.alloc (.cells (msC ⟨k, rn, sh, su, da, ask⟩ (.slice ao n c)) 31)).alloc (.cells (msC ⟨k, rn, sh, su, da, ask⟩ (.slice bo n d)) 31) = W0 at *
  generalize hB0 : w.heap.size = B0 at *
  have HB0 := Lib.hid hB0
  have HQ := Lib.hid (show Below B0 w W0 from HBB.out)
  clear hW hB0 HBB
  have hsz : B0 ≤ W0.heap.size := Nat.le_trans (Nat.le_of_eq HB0.out.symm) HQ.out.size
  have H0 := Below.refl W0.heap.size W0
  go_loopw [5] (fun iv wr => ∃ (j : Nat), j ≤ n ∧ iv = .int .i64 (j : Int) ∧ Below W0.heap.size W0 wr) (fun iv _ => n - (intOf iv).toNat)
  case atStart => exact ⟨0, by omega, rfl, H0⟩
  case round =>
    obtain ⟨j, hj, rfl, hb⟩ := hrel
    have HB := Lib.hid hb
    have e3 := (hb.cell (block_lt_of_cell a3)).trans a3
    have e0 := (hb.cell (block_lt_of_cell a0)).trans a0
    have e1 := (hb.cell (block_lt_of_cell a1)).trans a1
    have e2 := (hb.cell (block_lt_of_cell a2)).trans a2
    have e4 := (hb.cell (block_lt_of_cell a4)).trans a4
    have e5 := (hb.cell (block_lt_of_cell a5)).trans a5
    have f0 := (hb.cell (block_lt_of_cell b0)).trans b0
    have f1 := (hb.cell (block_lt_of_cell b1)).trans b1
    have f2 := (hb.cell (block_lt_of_cell b2)).trans b2
    have f3 := (hb.cell (block_lt_of_cell b3)).trans b3
    have f4 := (hb.cell (block_lt_of_cell b4)).trans b4
    have f5 := (hb.cell (block_lt_of_cell b5)).trans b5
    clear a0 a1 a2 a3 a4 a5 b0 b1 b2 b3 b4 b5 hb H0
    by_cases hlt : j < n
    · have hdk : decide ((j : Int) < (n : Int)) = true := by simp; omega
      have hkn : (j : Int) < (n : Int) := by omega
      obtain ⟨g, off, rfl, hc1⟩ := (HI.out.step HB.out) j (by rw [HN.out]; exact hlt)
      obtain ⟨g2, off2, rfl, hc2⟩ := (HJ.out.step HB.out) j (by rw [HN.out]; exact hlt)
      generalize su.getD j 0 = x at *
      have hx : (x != x) = false := by simp
      go_wp2_with fail
      have k1 := cell_regrown hc1
      have k2 := cell_regrown hc2
      have k3 := cell_regrown e3
      have k4 := cell_regrown f3
      refine wp_region_reads (by kernel_rfl) (by kernel_rfl) ?_
      repeat (first | go_big_quiet_step (fail) | quiet_step (fail))
      refine wpQuiet_nil ?_
      intro W1 hb1
      have hb2 := HB.out.trans (hb1.mono HB.out.size)
      clear k1 k2 k3 k4 hb1
      go_wp2_with fail
      go_roundw
      case rel => exact ⟨j + 1, by omega, by go_num, hb2⟩
      case measure => simp [intOf]; omega
    · have hdk : decide ((j : Int) < (n : Int)) = false := by simp; omega
      obtain rfl : j = n := by omega
      have q0 : (k == k) = true := by simp
      have q1 : (rn.toList == rn.toList) = true := by simp
      have q2 : (sh.toList == sh.toList) = true := by simp
      have q4 : (da.toList == da.toList) = true := by simp
      have q5 : (ask == ask) = true := by simp
      go_wp2_with fail
      go_ret
      exact ⟨rfl, by rw [HB0.out]; exact HQ.out.trans (HB.out.mono hsz)⟩
end Go.Proofs.Ytjemikbnncfonaa
