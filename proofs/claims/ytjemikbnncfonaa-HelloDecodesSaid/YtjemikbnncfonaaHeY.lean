/- A message's body and its bytes: the reference's. -/
import Derived.Test.YtjemikbnncfonaaHeS
namespace Go.Proofs.Ytjemikbnncfonaa
open Go.RowKit Go.Sort
set_option maxRecDepth 100000
set_option linter.unusedSimpArgs false
set_option linter.unusedVariables false

theorem okM_suited1 (m : HMsg) (h : m.k = 1) : okM m = (suited m 4 && blankM m true false false) := by rw [okM, if_pos h]; rfl
theorem okM_suited2 (m : HMsg) (h : m.k = 2) : okM m = (suited m 1 && blankM m true false false) := by rw [okM, if_neg (by rw [h]; decide), if_pos h]; rfl
theorem okM_bare (m : HMsg) (h : m.k = 8 ∨ m.k = 13) : okM m = blankM m false false false := by
  rcases h with h | h <;> simp [okM, h, blankM]
theorem okM_cert (m : HMsg) (h : m.k = 11) : okM m = (decide (1 ≤ m.da.size) && decide (m.da.size ≤ 1000) && blankM m false true false) := by simp [okM, h, blankM]
theorem okM_verify (m : HMsg) (h : m.k = 15) : okM m = (decide (m.da.size = 64) && blankM m false true false) := by simp [okM, h, blankM]
theorem okM_finished (m : HMsg) (h : m.k = 20) : okM m = (decide (m.da.size = 32) && blankM m false true false) := by simp [okM, h, blankM]
theorem okM_update (m : HMsg) (h : m.k = 24) : okM m = blankM m false false m.ask := by
  cases ha : m.ask <;> simp [okM, h, blankM, ha]
theorem okM_none (m : HMsg) (h : m.k ≠ 1 ∧ m.k ≠ 2 ∧ m.k ≠ 8 ∧ m.k ≠ 11 ∧ m.k ≠ 13 ∧ m.k ≠ 15 ∧ m.k ≠ 20 ∧ m.k ≠ 24) : okM m = false := by simp [okM, h]
theorem c2_size (s : ByteArray) : (c2 s).size = 2 + s.size := by rw [c2, ByteArray.size_append, toB_size]; rfl
theorem c3_size (s : ByteArray) : (c3 s).size = 3 + s.size := by rw [c3, ByteArray.size_append, toB_size]; rfl
set_option maxHeartbeats 1000000 in
theorem rbody8 (m : HMsg) (ao : Option Addr) (n c : Nat) (w : World) (hk : m.k = 8) (hn : m.su.length = n) (hm : n ≤ 1000) (h1 : m.rn.size ≤ 100000) (h2 : m.sh.size ≤ 100000) (h3 : m.da.size ≤ 100000) (hz : ∀ k, -9223372036854775808 ≤ m.su.getD k 0 ∧ m.su.getD k 0 ≤ 9223372036854775807) (hI : IntsAt w ao m.su) :
    Calls Try.prog 17 #[.agg (msC m (.slice ao n c))] w fun e w' => e = .returned (.tuple #[.string (bodB m), .bool (okM m)]) ∧ Below w.heap.size w w' := by
  obtain ⟨mk, rn, sh, su, da, ask⟩ := m
  dsimp only at hn h1 h2 h3 hz hI hk
  obtain rfl : mk = 8 := hk
  have HB0 := Lib.hid (below_new w (.cells (msC ⟨8, rn, sh, su, da, ask⟩ (.slice ao n c)) 31))
  obtain ⟨c0, c1, c2', c3', c4, c5⟩ := ms_cells (blk_new w (.cells (msC ⟨8, rn, sh, su, da, ask⟩ (.slice ao n c)) 31))
  have HI := Lib.hid (hI.step (below_new w (.cells (msC ⟨8, rn, sh, su, da, ask⟩ (.slice ao n c)) 31)))
  have hsz : w.heap.size ≤ (w.alloc (.cells (msC ⟨8, rn, sh, su, da, ask⟩ (.slice ao n c)) 31)).heap.size := HB0.out.size
  dsimp only at c0 c1 c2' c3' c4 c5
  have CB := Lib.hid (fun W => rblank_any ⟨8, rn, sh, su, da, ask⟩ ao n c false false false W hn (by decide))
  have HV : Hid (bodB ⟨8, rn, sh, su, da, ask⟩ = toB [0, 0] ∧ okM ⟨8, rn, sh, su, da, ask⟩ = blankM ⟨8, rn, sh, su, da, ask⟩ false false false) := Lib.hid ⟨by simp [bodB], by rw [okM_bare _ (.inl rfl)]⟩
  generalize blankM ⟨8, rn, sh, su, da, ask⟩ false false false = r at *
  clear hI hz hn hm h1 h2 h3
  go_enter Try.func17, Try.ntmps17
  go_wp2_with fail
  refine (CB.out _).mono ?_
  rintro e W1 ⟨rfl, hb1⟩
  go_wp2_with fail
  go_ret2
  exact ⟨by rw [HV.out.1, HV.out.2]; rfl, HB0.out.trans (hb1.mono hsz)⟩
set_option maxHeartbeats 1000000 in
theorem rbody13 (m : HMsg) (ao : Option Addr) (n c : Nat) (w : World) (hk : m.k = 13) (hn : m.su.length = n) (hm : n ≤ 1000) (h1 : m.rn.size ≤ 100000) (h2 : m.sh.size ≤ 100000) (h3 : m.da.size ≤ 100000) (hz : ∀ k, -9223372036854775808 ≤ m.su.getD k 0 ∧ m.su.getD k 0 ≤ 9223372036854775807) (hI : IntsAt w ao m.su) :
    Calls Try.prog 17 #[.agg (msC m (.slice ao n c))] w fun e w' => e = .returned (.tuple #[.string (bodB m), .bool (okM m)]) ∧ Below w.heap.size w w' := by
  obtain ⟨mk, rn, sh, su, da, ask⟩ := m
  dsimp only at hn h1 h2 h3 hz hI hk
  obtain rfl : mk = 13 := hk
  have HB0 := Lib.hid (below_new w (.cells (msC ⟨13, rn, sh, su, da, ask⟩ (.slice ao n c)) 31))
  obtain ⟨c0, c1, c2', c3', c4, c5⟩ := ms_cells (blk_new w (.cells (msC ⟨13, rn, sh, su, da, ask⟩ (.slice ao n c)) 31))
  have HI := Lib.hid (hI.step (below_new w (.cells (msC ⟨13, rn, sh, su, da, ask⟩ (.slice ao n c)) 31)))
  have hsz : w.heap.size ≤ (w.alloc (.cells (msC ⟨13, rn, sh, su, da, ask⟩ (.slice ao n c)) 31)).heap.size := HB0.out.size
  dsimp only at c0 c1 c2' c3' c4 c5
  have CB := Lib.hid (fun W => rblank_any ⟨13, rn, sh, su, da, ask⟩ ao n c false false false W hn (by decide))
  have HV : Hid (bodB ⟨13, rn, sh, su, da, ask⟩ = toB [0, 0, 8, 0, 13, 0, 4, 0, 2, 8, 7] ∧ okM ⟨13, rn, sh, su, da, ask⟩ = blankM ⟨13, rn, sh, su, da, ask⟩ false false false) := Lib.hid ⟨by simp [bodB], by rw [okM_bare _ (.inr rfl)]⟩
  generalize blankM ⟨13, rn, sh, su, da, ask⟩ false false false = r at *
  clear hI hz hn hm h1 h2 h3
  go_enter Try.func17, Try.ntmps17
  go_wp2_with fail
  refine (CB.out _).mono ?_
  rintro e W1 ⟨rfl, hb1⟩
  go_wp2_with fail
  go_ret2
  exact ⟨by rw [HV.out.1, HV.out.2]; rfl, HB0.out.trans (hb1.mono hsz)⟩
set_option maxHeartbeats 1000000 in
theorem rbody24t (m : HMsg) (ao : Option Addr) (n c : Nat) (w : World) (hk : m.k = 24 ∧ m.ask = true) (hn : m.su.length = n) (hm : n ≤ 1000) (h1 : m.rn.size ≤ 100000) (h2 : m.sh.size ≤ 100000) (h3 : m.da.size ≤ 100000) (hz : ∀ k, -9223372036854775808 ≤ m.su.getD k 0 ∧ m.su.getD k 0 ≤ 9223372036854775807) (hI : IntsAt w ao m.su) :
    Calls Try.prog 17 #[.agg (msC m (.slice ao n c))] w fun e w' => e = .returned (.tuple #[.string (bodB m), .bool (okM m)]) ∧ Below w.heap.size w w' := by
  obtain ⟨mk, rn, sh, su, da, ask⟩ := m
  dsimp only at hn h1 h2 h3 hz hI hk
  obtain rfl : mk = 24 := hk.1
  obtain rfl : ask = true := hk.2
  have HB0 := Lib.hid (below_new w (.cells (msC ⟨24, rn, sh, su, da, true⟩ (.slice ao n c)) 31))
  obtain ⟨c0, c1, c2', c3', c4, c5⟩ := ms_cells (blk_new w (.cells (msC ⟨24, rn, sh, su, da, true⟩ (.slice ao n c)) 31))
  have HI := Lib.hid (hI.step (below_new w (.cells (msC ⟨24, rn, sh, su, da, true⟩ (.slice ao n c)) 31)))
  have hsz : w.heap.size ≤ (w.alloc (.cells (msC ⟨24, rn, sh, su, da, true⟩ (.slice ao n c)) 31)).heap.size := HB0.out.size
  dsimp only at c0 c1 c2' c3' c4 c5
  have CB := Lib.hid (fun W => rblank_any ⟨24, rn, sh, su, da, true⟩ ao n c false false true W hn (by decide))
  have HV : Hid (bodB ⟨24, rn, sh, su, da, true⟩ = toB [1] ∧ okM ⟨24, rn, sh, su, da, true⟩ = blankM ⟨24, rn, sh, su, da, true⟩ false false true) := Lib.hid ⟨by simp [bodB], by rw [okM_update _ rfl]⟩
  generalize blankM ⟨24, rn, sh, su, da, true⟩ false false true = r at *
  clear hI hz hn hm h1 h2 h3 hk
  go_enter Try.func17, Try.ntmps17
  go_wp2_with fail
  refine (CB.out _).mono ?_
  rintro e W1 ⟨rfl, hb1⟩
  go_wp2_with fail
  go_ret2
  exact ⟨by rw [HV.out.1, HV.out.2]; rfl, HB0.out.trans (hb1.mono hsz)⟩
set_option maxHeartbeats 1000000 in
theorem rbody24f (m : HMsg) (ao : Option Addr) (n c : Nat) (w : World) (hk : m.k = 24 ∧ m.ask = false) (hn : m.su.length = n) (hm : n ≤ 1000) (h1 : m.rn.size ≤ 100000) (h2 : m.sh.size ≤ 100000) (h3 : m.da.size ≤ 100000) (hz : ∀ k, -9223372036854775808 ≤ m.su.getD k 0 ∧ m.su.getD k 0 ≤ 9223372036854775807) (hI : IntsAt w ao m.su) :
    Calls Try.prog 17 #[.agg (msC m (.slice ao n c))] w fun e w' => e = .returned (.tuple #[.string (bodB m), .bool (okM m)]) ∧ Below w.heap.size w w' := by
  obtain ⟨mk, rn, sh, su, da, ask⟩ := m
  dsimp only at hn h1 h2 h3 hz hI hk
  obtain rfl : mk = 24 := hk.1
  obtain rfl : ask = false := hk.2
  have HB0 := Lib.hid (below_new w (.cells (msC ⟨24, rn, sh, su, da, false⟩ (.slice ao n c)) 31))
  obtain ⟨c0, c1, c2', c3', c4, c5⟩ := ms_cells (blk_new w (.cells (msC ⟨24, rn, sh, su, da, false⟩ (.slice ao n c)) 31))
  have HI := Lib.hid (hI.step (below_new w (.cells (msC ⟨24, rn, sh, su, da, false⟩ (.slice ao n c)) 31)))
  have hsz : w.heap.size ≤ (w.alloc (.cells (msC ⟨24, rn, sh, su, da, false⟩ (.slice ao n c)) 31)).heap.size := HB0.out.size
  dsimp only at c0 c1 c2' c3' c4 c5
  have CB := Lib.hid (fun W => rblank_any ⟨24, rn, sh, su, da, false⟩ ao n c false false false W hn (by decide))
  have HV : Hid (bodB ⟨24, rn, sh, su, da, false⟩ = toB [0] ∧ okM ⟨24, rn, sh, su, da, false⟩ = blankM ⟨24, rn, sh, su, da, false⟩ false false false) := Lib.hid ⟨by simp [bodB], by rw [okM_update _ rfl]⟩
  generalize blankM ⟨24, rn, sh, su, da, false⟩ false false false = r at *
  clear hI hz hn hm h1 h2 h3 hk
  go_enter Try.func17, Try.ntmps17
  go_wp2_with fail
  refine (CB.out _).mono ?_
  rintro e W1 ⟨rfl, hb1⟩
  go_wp2_with fail
  go_ret2
  exact ⟨by rw [HV.out.1, HV.out.2]; rfl, HB0.out.trans (hb1.mono hsz)⟩
end Go.Proofs.Ytjemikbnncfonaa
