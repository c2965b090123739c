/- HelloEncodes, over the program's calls. -/
import Derived.Test.YtjemikbnncfonaaHeC
import Derived.Test.YtjemikbnncfonaaHeE
namespace Go.Proofs.Ytjemikbnncfonaa
open Go.RowKit Go.Sort
set_option maxRecDepth 100000
set_option linter.unusedSimpArgs false
set_option linter.unusedVariables false

theorem few_ok {m : HMsg} (h : fewM m = true) : m.rn.size ≤ 200 ∧ m.sh.size ≤ 200 ∧ m.su.length ≤ 50 ∧ m.da.size ≤ 2000 := by
  simp only [fewM, Bool.and_eq_true, decide_eq_true_eq] at h
  exact ⟨h.1.1.1, h.1.1.2, h.1.2, h.2⟩
set_option maxHeartbeats 4000000 in
theorem helloEncodes_of (C : HeCalls) (m : HMsg) (ao : Option Addr) (n c : Nat) (w : World) (hn : m.su.length = n) (hz : ∀ k, -9223372036854775808 ≤ m.su.getD k 0 ∧ m.su.getD k 0 ≤ 9223372036854775807) (hI : IntsAt w ao m.su) :
    Calls Try.prog 3 #[.agg (msC m (.slice ao n c))] w fun e w' => e = .returned (.bool true) ∧ Below w.heap.size w w' := by
  obtain ⟨k, rn, sh, su, da, ask⟩ := m
  have HB0 := below_new w (.cells (msC ⟨k, rn, sh, su, da, ask⟩ (.slice ao n c)) 24)
  have HG := Lib.hid (blk_new w (.cells (msC ⟨k, rn, sh, su, da, ask⟩ (.slice ao n c)) 24))
  have HI := Lib.hid (hI.step HB0)
  obtain ⟨c0, c1, c2, c3, c4, c5⟩ := ms_cells HG.out
  dsimp only at c0 c1 c2 c3 c4 c5
  have CF := Lib.hid (fun W => few_any ⟨k, rn, sh, su, da, ask⟩ ao n c W hn)
  have CP := Lib.hid (fun W => plain_any ⟨k, rn, sh, su, da, ask⟩ ao n c W)
  have hsz := HB0.size
  cases hf : fewM ⟨k, rn, sh, su, da, ask⟩ with
  | false =>
    rw [hf] at CF
    clear hI hz hn hf
    go_enter Try.func3, Try.ntmps3
    go_wp2_with fail
    refine (CF.out _).mono ?_
    rintro e W1 ⟨rfl, bk⟩
    have hb := HB0.trans (bk.mono hsz)
    go_wp2_with fail
    refine (heawake_of C _).mono ?_
    rintro e W2 ⟨rfl, bk2⟩
    go_wp2_with fail
    go_ret
    exact ⟨rfl, hb.trans (bk2.mono hb.size)⟩
  | true =>
    rw [hf] at CF
    obtain ⟨f1, f2, f3, f4⟩ := few_ok hf
    dsimp only at f1 f2 f3 f4 hn hz
    have CE := Lib.hid (fun W hi => C.enc ⟨k, rn, sh, su, da, ask⟩ ao n c W hn (by omega) (by dsimp only; omega) (by dsimp only; omega) (by dsimp only; omega) hz hi)
    have CR := Lib.hid (fun W hi => rencode_any ⟨k, rn, sh, su, da, ask⟩ ao n c W hn (by omega) (by dsimp only; omega) (by dsimp only; omega) (by dsimp only; omega) hz hi)
    generalize encX ⟨k, rn, sh, su, da, ask⟩ = x at *
    generalize encE ⟨k, rn, sh, su, da, ask⟩ = er at *
    have q1 : (x.toList == x.toList) = true := by simp
    have q2 : (er == er) = true := by simp
    clear hI hz hn hf f1 f2 f3 f4
    go_enter Try.func3, Try.ntmps3
    go_wp2_with fail
    refine (CF.out _).mono ?_
    rintro e W1 ⟨rfl, bk⟩
    have hb := HB0.trans (bk.mono hsz)
    have HG1 := Lib.hid (blk_below bk (blk_lt HG.out) HG.out)
    have HI1 := Lib.hid (HI.out.step bk)
    clear bk HG HI c0 c1 c2 c3 c4 c5 CF HB0 hsz
    obtain ⟨c0, c1, c2, c3, c4, c5⟩ := ms_cells HG1.out
    dsimp only at c0 c1 c2 c3 c4 c5
    go_wp2_with fail
    refine (CE.out _ HI1.out).mono ?_
    rintro e W2 ⟨rfl, bk⟩
    have hb2 := hb.trans (bk.mono hb.size)
    have HG2 := Lib.hid (blk_below bk (blk_lt HG1.out) HG1.out)
    have HI2 := Lib.hid (HI1.out.step bk)
    clear bk HG1 HI1 c0 c1 c2 c3 c4 c5 CE hb
    obtain ⟨c0, c1, c2, c3, c4, c5⟩ := ms_cells HG2.out
    dsimp only at c0 c1 c2 c3 c4 c5
    go_wp2_with fail
    refine (CP.out _).mono ?_
    rintro e W3 ⟨rfl, bk⟩
    have hb3 := hb2.trans (bk.mono hb2.size)
    have HI3 := Lib.hid (HI2.out.step bk)
    clear bk HI2 HG2 CP hb2 c0 c1 c2 c3 c4 c5
    go_wp2_with fail
    refine (CR.out _ HI3.out).mono ?_
    rintro e W4 ⟨rfl, bk⟩
    have hb4 := hb3.trans (bk.mono hb3.size)
    clear bk HI3 CR hb3
    go_wp2_with fail
    refine (heawake_of C _).mono ?_
    rintro e W5 ⟨rfl, bk⟩
    go_wp2_with fail
    go_ret
    exact ⟨rfl, hb4.trans (bk.mono hb4.size)⟩
end Go.Proofs.Ytjemikbnncfonaa
