/- A message's body and its bytes: the reference's. -/
import Derived.Test.YtjemikbnncfonaaHeY
namespace Go.Proofs.Ytjemikbnncfonaa
open Go.RowKit Go.Sort
set_option maxRecDepth 100000
set_option linter.unusedSimpArgs false
set_option linter.unusedVariables false

theorem rblankL (k : Int) (rn sh : ByteArray) (su : List Int) (da : ByteArray) (ask : Bool) (ao : Option Addr) (n c : Nat) (h d a : Bool) (w : World) (hn : su.length = n) (hc : (h = true ∧ d = false ∧ a = false) ∨ (h = false ∧ d = false ∧ a = false) ∨ (h = false ∧ d = true ∧ a = false) ∨ (h = false ∧ d = false ∧ a = true)) :
    Calls Try.prog 32 #[.agg #[.int .i64 k, .string rn, .string sh, .slice ao n c, .string da, .bool ask], .bool h, .bool d, .bool a] w fun e w' => e = .returned (.bool (blankM ⟨k, rn, sh, su, da, ask⟩ h d a)) ∧ Below w.heap.size w w' := rblank_any ⟨k, rn, sh, su, da, ask⟩ ao n c h d a w hn hc
theorem rsuitedL (k : Int) (rn sh : ByteArray) (su : List Int) (da : ByteArray) (ask : Bool) (ao : Option Addr) (n c most : Nat) (z : Int) (w : World) (hzm : z = (most : Int)) (hn : su.length = n) (hm : n ≤ 1000000) (hmost : most ≤ 1000) (hI : IntsAt w ao su) :
    Calls Try.prog 31 #[.agg #[.int .i64 k, .string rn, .string sh, .slice ao n c, .string da, .bool ask], .int .i64 z] w fun e w' => e = .returned (.bool (suited ⟨k, rn, sh, su, da, ask⟩ most)) ∧ Below w.heap.size w w' := by
  subst hzm
  exact rsuited_any ⟨k, rn, sh, su, da, ask⟩ ao n c most w hn hm hmost hI
set_option maxHeartbeats 1000000 in
theorem rbody15 (m : HMsg) (ao : Option Addr) (n c : Nat) (w : World) (hk : m.k = 15) (hn : m.su.length = n) (hm : n ≤ 1000) (h1 : m.rn.size ≤ 100000) (h2 : m.sh.size ≤ 100000) (h3 : m.da.size ≤ 100000) (hz : ∀ k, -9223372036854775808 ≤ m.su.getD k 0 ∧ m.su.getD k 0 ≤ 9223372036854775807) (hI : IntsAt w ao m.su) :
    Calls Try.prog 17 #[.agg (msC m (.slice ao n c))] w fun e w' => e = .returned (.tuple #[.string (bodB m), .bool (okM m)]) ∧ Below w.heap.size w w' := by
  obtain ⟨mk, rn, sh, su, da, ask⟩ := m
  dsimp only at hn h1 h2 h3 hz hI hk
  obtain rfl : mk = 15 := hk
  have HB0 := Lib.hid (below_new w (.cells (msC ⟨15, rn, sh, su, da, ask⟩ (.slice ao n c)) 31))
  obtain ⟨c0, c1, c2', c3', c4, c5⟩ := ms_cells (blk_new w (.cells (msC ⟨15, rn, sh, su, da, ask⟩ (.slice ao n c)) 31))
  have HI := Lib.hid (hI.step (below_new w (.cells (msC ⟨15, rn, sh, su, da, ask⟩ (.slice ao n c)) 31)))
  have hsz : w.heap.size ≤ (w.alloc (.cells (msC ⟨15, rn, sh, su, da, ask⟩ (.slice ao n c)) 31)).heap.size := HB0.out.size
  dsimp only at c0 c1 c2' c3' c4 c5
  have CB := Lib.hid (fun W => rblankL 15 rn sh su da ask ao n c false true false W hn (by decide))
  have CC := Lib.hid (fun W => rc2_any da W (by omega))
  have hcs := c2_size da
  have HX : Hid (bodB ⟨15, rn, sh, su, da, ask⟩ = ⟨#[8, 7]⟩ ++ c2 da) := Lib.hid rfl
  have HO := Lib.hid (okM_verify ⟨15, rn, sh, su, da, ask⟩ rfl)
  generalize blankM ⟨15, rn, sh, su, da, ask⟩ false true false = r at *
  generalize c2 da = t at *
  have ht : 2 + t.size ≤ 9223372036854775807 := by omega
  clear hI hz hn hm h1 h2 h3 hcs
  by_cases h64 : da.size = 64
  · have e1 : ((da.size : Int) == 64) = true := by rw [beq_iff_eq]; omega
    have HV : Hid ((Value.tuple #[.string (bodB ⟨15, rn, sh, su, da, ask⟩), .bool (okM ⟨15, rn, sh, su, da, ask⟩)]) = .tuple #[.string (⟨#[8, 7]⟩ ++ t), .bool r]) := Lib.hid (by rw [HX.out, HO.out]; simp [h64])
    clear h64
    go_enter Try.func17, Try.ntmps17
    go_wp2_with fail
    have k0 := cell_regrown c0; have k1 := cell_regrown c1; have k2 := cell_regrown c2'; have k3 := cell_regrown c3'; have k4 := cell_regrown c4; have k5 := cell_regrown c5
    refine wp_region_reads (by kernel_rfl) (by kernel_rfl) ?_
    repeat (first | go_big_quiet_step ((first | with_reducible exact Calls.regrown_of (CC.out _) | with_reducible exact Calls.regrown_of (CB.out _))) | quiet_step ((first | with_reducible exact Calls.regrown_of (CC.out _) | with_reducible exact Calls.regrown_of (CB.out _))))
    refine wpQuiet_nil ?_
    intro W1 hb1
    clear k0 k1 k2 k3 k4 k5
    go_wp2_with fail
    go_ret2
    exact ⟨by rw [HV.out]; rfl, HB0.out.trans (hb1.mono hsz)⟩
  · have e1 : ((da.size : Int) == 64) = false := by rw [beq_eq_false_iff_ne]; omega
    have HV : Hid ((Value.tuple #[.string (bodB ⟨15, rn, sh, su, da, ask⟩), .bool (okM ⟨15, rn, sh, su, da, ask⟩)]) = .tuple #[.string (⟨#[8, 7]⟩ ++ t), .bool false]) := Lib.hid (by rw [HX.out, HO.out]; simp [h64])
    clear h64
    go_enter Try.func17, Try.ntmps17
    go_wp2_with fail
    have k0 := cell_regrown c0; have k1 := cell_regrown c1; have k2 := cell_regrown c2'; have k3 := cell_regrown c3'; have k4 := cell_regrown c4; have k5 := cell_regrown c5
    refine wp_region_reads (by kernel_rfl) (by kernel_rfl) ?_
    repeat (first | go_big_quiet_step ((first | with_reducible exact Calls.regrown_of (CC.out _) | with_reducible exact Calls.regrown_of (CB.out _))) | quiet_step ((first | with_reducible exact Calls.regrown_of (CC.out _) | with_reducible exact Calls.regrown_of (CB.out _))))
    refine wpQuiet_nil ?_
    intro W1 hb1
    clear k0 k1 k2 k3 k4 k5
    go_wp2_with fail
    go_ret2
    exact ⟨by rw [HV.out]; rfl, HB0.out.trans (hb1.mono hsz)⟩
set_option maxHeartbeats 1000000 in
theorem rbody20 (m : HMsg) (ao : Option Addr) (n c : Nat) (w : World) (hk : m.k = 20) (hn : m.su.length = n) (hm : n ≤ 1000) (h1 : m.rn.size ≤ 100000) (h2 : m.sh.size ≤ 100000) (h3 : m.da.size ≤ 100000) (hz : ∀ k, -9223372036854775808 ≤ m.su.getD k 0 ∧ m.su.getD k 0 ≤ 9223372036854775807) (hI : IntsAt w ao m.su) :
    Calls Try.prog 17 #[.agg (msC m (.slice ao n c))] w fun e w' => e = .returned (.tuple #[.string (bodB m), .bool (okM m)]) ∧ Below w.heap.size w w' := by
  obtain ⟨mk, rn, sh, su, da, ask⟩ := m
  dsimp only at hn h1 h2 h3 hz hI hk
  obtain rfl : mk = 20 := hk
  have HB0 := Lib.hid (below_new w (.cells (msC ⟨20, rn, sh, su, da, ask⟩ (.slice ao n c)) 31))
  obtain ⟨c0, c1, c2', c3', c4, c5⟩ := ms_cells (blk_new w (.cells (msC ⟨20, rn, sh, su, da, ask⟩ (.slice ao n c)) 31))
  have HI := Lib.hid (hI.step (below_new w (.cells (msC ⟨20, rn, sh, su, da, ask⟩ (.slice ao n c)) 31)))
  have hsz : w.heap.size ≤ (w.alloc (.cells (msC ⟨20, rn, sh, su, da, ask⟩ (.slice ao n c)) 31)).heap.size := HB0.out.size
  dsimp only at c0 c1 c2' c3' c4 c5
  have CB := Lib.hid (fun W => rblankL 20 rn sh su da ask ao n c false true false W hn (by decide))
  have HX : Hid (bodB ⟨20, rn, sh, su, da, ask⟩ = da) := Lib.hid rfl
  have HO := Lib.hid (okM_finished ⟨20, rn, sh, su, da, ask⟩ rfl)
  generalize blankM ⟨20, rn, sh, su, da, ask⟩ false true false = r at *
  clear hI hz hn hm h1 h2 h3
  by_cases h64 : da.size = 32
  · have e1 : ((da.size : Int) == 32) = true := by rw [beq_iff_eq]; omega
    have HV : Hid ((Value.tuple #[.string (bodB ⟨20, rn, sh, su, da, ask⟩), .bool (okM ⟨20, rn, sh, su, da, ask⟩)]) = .tuple #[.string da, .bool r]) := Lib.hid (by rw [HX.out, HO.out]; simp [h64])
    clear h64
    go_enter Try.func17, Try.ntmps17
    go_wp2_with fail
    have k0 := cell_regrown c0; have k1 := cell_regrown c1; have k2 := cell_regrown c2'; have k3 := cell_regrown c3'; have k4 := cell_regrown c4; have k5 := cell_regrown c5
    refine wp_region_reads (by kernel_rfl) (by kernel_rfl) ?_
    repeat (first | go_big_quiet_step ((first | with_reducible exact Calls.regrown_of (CB.out _))) | quiet_step ((first | with_reducible exact Calls.regrown_of (CB.out _))))
    refine wpQuiet_nil ?_
    intro W1 hb1
    clear k0 k1 k2 k3 k4 k5
    go_wp2_with fail
    go_ret2
    exact ⟨by rw [HV.out]; rfl, HB0.out.trans (hb1.mono hsz)⟩
  · have e1 : ((da.size : Int) == 32) = false := by rw [beq_eq_false_iff_ne]; omega
    have HV : Hid ((Value.tuple #[.string (bodB ⟨20, rn, sh, su, da, ask⟩), .bool (okM ⟨20, rn, sh, su, da, ask⟩)]) = .tuple #[.string da, .bool false]) := Lib.hid (by rw [HX.out, HO.out]; simp [h64])
    clear h64
    go_enter Try.func17, Try.ntmps17
    go_wp2_with fail
    have k0 := cell_regrown c0; have k1 := cell_regrown c1; have k2 := cell_regrown c2'; have k3 := cell_regrown c3'; have k4 := cell_regrown c4; have k5 := cell_regrown c5
    refine wp_region_reads (by kernel_rfl) (by kernel_rfl) ?_
    repeat (first | go_big_quiet_step ((first | with_reducible exact Calls.regrown_of (CB.out _))) | quiet_step ((first | with_reducible exact Calls.regrown_of (CB.out _))))
    refine wpQuiet_nil ?_
    intro W1 hb1
    clear k0 k1 k2 k3 k4 k5
    go_wp2_with fail
    go_ret2
    exact ⟨by rw [HV.out]; rfl, HB0.out.trans (hb1.mono hsz)⟩
set_option maxHeartbeats 1000000 in
theorem rbody11 (m : HMsg) (ao : Option Addr) (n c : Nat) (w : World) (hk : m.k = 11) (hn : m.su.length = n) (hm : n ≤ 1000) (h1 : m.rn.size ≤ 100000) (h2 : m.sh.size ≤ 100000) (h3 : m.da.size ≤ 100000) (hz : ∀ k, -9223372036854775808 ≤ m.su.getD k 0 ∧ m.su.getD k 0 ≤ 9223372036854775807) (hI : IntsAt w ao m.su) :
    Calls Try.prog 17 #[.agg (msC m (.slice ao n c))] w fun e w' => e = .returned (.tuple #[.string (bodB m), .bool (okM m)]) ∧ Below w.heap.size w w' := by
  obtain ⟨mk, rn, sh, su, da, ask⟩ := m
  dsimp only at hn h1 h2 h3 hz hI hk
  obtain rfl : mk = 11 := hk
  have HB0 := Lib.hid (below_new w (.cells (msC ⟨11, rn, sh, su, da, ask⟩ (.slice ao n c)) 31))
  obtain ⟨c0, c1, c2', c3', c4, c5⟩ := ms_cells (blk_new w (.cells (msC ⟨11, rn, sh, su, da, ask⟩ (.slice ao n c)) 31))
  have HI := Lib.hid (hI.step (below_new w (.cells (msC ⟨11, rn, sh, su, da, ask⟩ (.slice ao n c)) 31)))
  have hsz : w.heap.size ≤ (w.alloc (.cells (msC ⟨11, rn, sh, su, da, ask⟩ (.slice ao n c)) 31)).heap.size := HB0.out.size
  dsimp only at c0 c1 c2' c3' c4 c5
  have CB := Lib.hid (fun W => rblankL 11 rn sh su da ask ao n c false true false W hn (by decide))
  have CC := Lib.hid (fun W => rc3_any da W (by omega))
  have hcs := c3_size da
  have HX : Hid (bodB ⟨11, rn, sh, su, da, ask⟩ = ⟨#[0]⟩ ++ c3 (c3 da ++ ⟨#[0, 0]⟩)) := Lib.hid rfl
  have HO := Lib.hid (okM_cert ⟨11, rn, sh, su, da, ask⟩ rfl)
  generalize blankM ⟨11, rn, sh, su, da, ask⟩ false true false = r at *
  generalize c3 da = t at *
  have hu : (t ++ (⟨#[0, 0]⟩ : ByteArray)).size = t.size + 2 := by rw [ByteArray.size_append]; rfl
  have CD := Lib.hid (fun W => rc3_any (t ++ ⟨#[0, 0]⟩) W (by omega))
  have hcs2 := c3_size (t ++ ⟨#[0, 0]⟩)
  have ht : t.size + 2 ≤ 9223372036854775807 := by omega
  generalize c3 (t ++ ⟨#[0, 0]⟩) = t2 at *
  have ht2 : 1 + t2.size ≤ 9223372036854775807 := by omega
  clear hI hz hn hm h1 h2 h3 hcs hcs2 hu
  by_cases g1 : 1 ≤ da.size
  case neg =>
    have e1 : decide ((1 : Int) ≤ (da.size : Int)) = false := by simp; omega
    have HV : Hid ((Value.tuple #[.string (bodB ⟨11, rn, sh, su, da, ask⟩), .bool (okM ⟨11, rn, sh, su, da, ask⟩)]) = .tuple #[.string (⟨#[0]⟩ ++ t2), .bool false]) := Lib.hid (by rw [HX.out, HO.out]; simp [g1])
    clear g1
    go_enter Try.func17, Try.ntmps17
    go_wp2_with fail
    have k0 := cell_regrown c0; have k1 := cell_regrown c1; have k2 := cell_regrown c2'; have k3 := cell_regrown c3'; have k4 := cell_regrown c4; have k5 := cell_regrown c5
    refine wp_region_reads (by kernel_rfl) (by kernel_rfl) ?_
    repeat (first | go_big_quiet_step ((first | with_reducible exact Calls.regrown_of (CC.out _) | with_reducible exact Calls.regrown_of (CD.out _) | with_reducible exact Calls.regrown_of (CB.out _))) | quiet_step ((first | with_reducible exact Calls.regrown_of (CC.out _) | with_reducible exact Calls.regrown_of (CD.out _) | with_reducible exact Calls.regrown_of (CB.out _))))
    refine wpQuiet_nil ?_
    intro W1 hb1
    clear k0 k1 k2 k3 k4 k5
    go_wp2_with fail
    go_ret2
    exact ⟨by rw [HV.out]; rfl, HB0.out.trans (hb1.mono hsz)⟩
  have e1 : decide ((1 : Int) ≤ (da.size : Int)) = true := by simp; omega
  by_cases g2 : da.size ≤ 1000
  case neg =>
    have e2 : decide ((da.size : Int) ≤ 1000) = false := by simp; omega
    have HV : Hid ((Value.tuple #[.string (bodB ⟨11, rn, sh, su, da, ask⟩), .bool (okM ⟨11, rn, sh, su, da, ask⟩)]) = .tuple #[.string (⟨#[0]⟩ ++ t2), .bool false]) := Lib.hid (by rw [HX.out, HO.out]; simp [g2])
    clear g1 g2
    go_enter Try.func17, Try.ntmps17
    go_wp2_with fail
    have k0 := cell_regrown c0; have k1 := cell_regrown c1; have k2 := cell_regrown c2'; have k3 := cell_regrown c3'; have k4 := cell_regrown c4; have k5 := cell_regrown c5
    refine wp_region_reads (by kernel_rfl) (by kernel_rfl) ?_
    repeat (first | go_big_quiet_step ((first | with_reducible exact Calls.regrown_of (CC.out _) | with_reducible exact Calls.regrown_of (CD.out _) | with_reducible exact Calls.regrown_of (CB.out _))) | quiet_step ((first | with_reducible exact Calls.regrown_of (CC.out _) | with_reducible exact Calls.regrown_of (CD.out _) | with_reducible exact Calls.regrown_of (CB.out _))))
    refine wpQuiet_nil ?_
    intro W1 hb1
    clear k0 k1 k2 k3 k4 k5
    go_wp2_with fail
    go_ret2
    exact ⟨by rw [HV.out]; rfl, HB0.out.trans (hb1.mono hsz)⟩
  have e2 : decide ((da.size : Int) ≤ 1000) = true := by simp; omega
  have HV : Hid ((Value.tuple #[.string (bodB ⟨11, rn, sh, su, da, ask⟩), .bool (okM ⟨11, rn, sh, su, da, ask⟩)]) = .tuple #[.string (⟨#[0]⟩ ++ t2), .bool r]) := Lib.hid (by rw [HX.out, HO.out]; simp [g1, g2])
  clear g1 g2
  go_enter Try.func17, Try.ntmps17
  go_wp2_with fail
  have k0 := cell_regrown c0; have k1 := cell_regrown c1; have k2 := cell_regrown c2'; have k3 := cell_regrown c3'; have k4 := cell_regrown c4; have k5 := cell_regrown c5
  refine wp_region_reads (by kernel_rfl) (by kernel_rfl) ?_
  repeat (first | go_big_quiet_step ((first | with_reducible exact Calls.regrown_of (CC.out _) | with_reducible exact Calls.regrown_of (CD.out _) | with_reducible exact Calls.regrown_of (CB.out _))) | quiet_step ((first | with_reducible exact Calls.regrown_of (CC.out _) | with_reducible exact Calls.regrown_of (CD.out _) | with_reducible exact Calls.regrown_of (CB.out _))))
  refine wpQuiet_nil ?_
  intro W1 hb1
  clear k0 k1 k2 k3 k4 k5
  go_wp2_with fail
  go_ret2
  exact ⟨by rw [HV.out]; rfl, HB0.out.trans (hb1.mono hsz)⟩
set_option maxHeartbeats 1000000 in
theorem rbody1 (m : HMsg) (ao : Option Addr) (n c : Nat) (w : World) (hk : m.k = 1) (hn : m.su.length = n) (hm : n ≤ 1000) (h1 : m.rn.size ≤ 100000) (h2 : m.sh.size ≤ 100000) (h3 : m.da.size ≤ 100000) (hz : ∀ k, -9223372036854775808 ≤ m.su.getD k 0 ∧ m.su.getD k 0 ≤ 9223372036854775807) (hI : IntsAt w ao m.su) :
    Calls Try.prog 17 #[.agg (msC m (.slice ao n c))] w fun e w' => e = .returned (.tuple #[.string (bodB m), .bool (okM m)]) ∧ Below w.heap.size w w' := by
  obtain ⟨mk, rn, sh, su, da, ask⟩ := m
  dsimp only at hn h1 h2 h3 hz hI hk
  obtain rfl : mk = 1 := hk
  have HB0 := Lib.hid (below_new w (.cells (msC ⟨1, rn, sh, su, da, ask⟩ (.slice ao n c)) 31))
  obtain ⟨c0, c1, c2', c3', c4, c5⟩ := ms_cells (blk_new w (.cells (msC ⟨1, rn, sh, su, da, ask⟩ (.slice ao n c)) 31))
  have HI := Lib.hid (hI.step (below_new w (.cells (msC ⟨1, rn, sh, su, da, ask⟩ (.slice ao n c)) 31)))
  have hsz : w.heap.size ≤ (w.alloc (.cells (msC ⟨1, rn, sh, su, da, ask⟩ (.slice ao n c)) 31)).heap.size := HB0.out.size
  dsimp only at c0 c1 c2' c3' c4 c5
  have CB := Lib.hid (fun W => rblankL 1 rn sh su da ask ao n c true false false W hn (by decide))
  have CU := Lib.hid (fun d os => Calls.regrown_of (rsuites_any ao n c su (grow (redrawn (w.alloc (.cells (msC ⟨1, rn, sh, su, da, ask⟩ (.slice ao n c)) 31)) d) os) hn (by omega) hz (HI.out.step (below_regrown (w.alloc (.cells (msC ⟨1, rn, sh, su, da, ask⟩ (.slice ao n c)) 31)) d os))))
  have CT := Lib.hid (fun d os => Calls.regrown_of (rsuitedL 1 rn sh su da ask ao n c 4 4 (grow (redrawn (w.alloc (.cells (msC ⟨1, rn, sh, su, da, ask⟩ (.slice ao n c)) 31)) d) os) rfl hn (by omega) (by decide) (HI.out.step (below_regrown (w.alloc (.cells (msC ⟨1, rn, sh, su, da, ask⟩ (.slice ao n c)) 31)) d os))))
  have hus : (toB (suL su)).size = 2 * su.length := by rw [toB_size, suL_length]
  have CC := Lib.hid (fun W => rc2_any (toB (suL su)) W (by omega))
  have hcs := c2_size (toB (suL su))
  have hes : ((⟨#[0, 43, 0, 3, 2, 3, 4, 0, 10, 0, 4, 0, 2, 0, 29, 0, 13, 0, 4, 0, 2, 8, 7, 0, 51, 0, 38, 0, 36, 0, 29, 0, 32]⟩ : ByteArray) ++ sh).size = 33 + sh.size := by rw [ByteArray.size_append]; rfl
  have CD := Lib.hid (fun W => rc2_any (⟨#[0, 43, 0, 3, 2, 3, 4, 0, 10, 0, 4, 0, 2, 0, 29, 0, 13, 0, 4, 0, 2, 8, 7, 0, 51, 0, 38, 0, 36, 0, 29, 0, 32]⟩ ++ sh) W (by omega))
  have hds := c2_size (⟨#[0, 43, 0, 3, 2, 3, 4, 0, 10, 0, 4, 0, 2, 0, 29, 0, 13, 0, 4, 0, 2, 8, 7, 0, 51, 0, 38, 0, 36, 0, 29, 0, 32]⟩ ++ sh)
  have HX : Hid (bodB ⟨1, rn, sh, su, da, ask⟩ = ⟨#[3, 3]⟩ ++ rn ++ ⟨#[0]⟩ ++ c2 (toB (suL su)) ++ ⟨#[1, 0]⟩ ++ c2 (⟨#[0, 43, 0, 3, 2, 3, 4, 0, 10, 0, 4, 0, 2, 0, 29, 0, 13, 0, 4, 0, 2, 8, 7, 0, 51, 0, 38, 0, 36, 0, 29, 0, 32]⟩ ++ sh)) := Lib.hid rfl
  have HO := Lib.hid (okM_suited1 ⟨1, rn, sh, su, da, ask⟩ rfl)
  generalize blankM ⟨1, rn, sh, su, da, ask⟩ true false false = r at *
  generalize c2 (toB (suL su)) = uu at *
  generalize toB (suL su) = vv at *
  generalize c2 (⟨#[0, 43, 0, 3, 2, 3, 4, 0, 10, 0, 4, 0, 2, 0, 29, 0, 13, 0, 4, 0, 2, 8, 7, 0, 51, 0, 38, 0, 36, 0, 29, 0, 32]⟩ ++ sh) = xx at *
  have l0 : 33 + sh.size ≤ 9223372036854775807 := by omega
  have l1 : 2 + rn.size ≤ 9223372036854775807 := by omega
  have l2 : 2 + rn.size + 1 ≤ 9223372036854775807 := by omega
  have l3 : 2 + rn.size + 1 + uu.size ≤ 9223372036854775807 := by omega
  have l4 : 2 + rn.size + 1 + uu.size + 2 ≤ 9223372036854775807 := by omega
  have l5 : 2 + rn.size + 1 + uu.size + 2 + xx.size ≤ 9223372036854775807 := by omega
  generalize suited ⟨1, rn, sh, su, da, ask⟩ 4 = q at *
  clear hI hz hn hm h1 h2 h3 hus hes hds hcs
  cases q with
  | false =>
    have HV : Hid ((Value.tuple #[.string (bodB ⟨1, rn, sh, su, da, ask⟩), .bool (okM ⟨1, rn, sh, su, da, ask⟩)]) = .tuple #[.string (⟨#[3, 3]⟩ ++ rn ++ ⟨#[0]⟩ ++ uu ++ ⟨#[1, 0]⟩ ++ xx), .bool false]) := Lib.hid (by rw [HX.out, HO.out]; simp)
    go_enter Try.func17, Try.ntmps17
    go_wp2_with fail
    have k0 := cell_regrown c0; have k1 := cell_regrown c1; have k2 := cell_regrown c2'; have k3 := cell_regrown c3'; have k4 := cell_regrown c4; have k5 := cell_regrown c5
    refine wp_region_reads (by kernel_rfl) (by kernel_rfl) ?_
    repeat (first | go_big_quiet_step ((first | with_reducible exact CU.out _ _ | with_reducible exact CT.out _ _ | with_reducible exact Calls.regrown_of (CB.out _) | with_reducible exact Calls.regrown_of (CD.out _) | with_reducible exact Calls.regrown_of (CC.out _))) | quiet_step ((first | with_reducible exact CU.out _ _ | with_reducible exact CT.out _ _ | with_reducible exact Calls.regrown_of (CB.out _) | with_reducible exact Calls.regrown_of (CD.out _) | with_reducible exact Calls.regrown_of (CC.out _))))
    refine wpQuiet_nil ?_
    intro W1 hb1
    clear k0 k1 k2 k3 k4 k5
    go_wp2_with fail
    go_ret2
    exact ⟨by rw [HV.out]; rfl, HB0.out.trans (hb1.mono hsz)⟩
  | true =>
    have HV : Hid ((Value.tuple #[.string (bodB ⟨1, rn, sh, su, da, ask⟩), .bool (okM ⟨1, rn, sh, su, da, ask⟩)]) = .tuple #[.string (⟨#[3, 3]⟩ ++ rn ++ ⟨#[0]⟩ ++ uu ++ ⟨#[1, 0]⟩ ++ xx), .bool r]) := Lib.hid (by rw [HX.out, HO.out]; simp)
    go_enter Try.func17, Try.ntmps17
    go_wp2_with fail
    have k0 := cell_regrown c0; have k1 := cell_regrown c1; have k2 := cell_regrown c2'; have k3 := cell_regrown c3'; have k4 := cell_regrown c4; have k5 := cell_regrown c5
    refine wp_region_reads (by kernel_rfl) (by kernel_rfl) ?_
    repeat (first | go_big_quiet_step ((first | with_reducible exact CU.out _ _ | with_reducible exact CT.out _ _ | with_reducible exact Calls.regrown_of (CB.out _) | with_reducible exact Calls.regrown_of (CD.out _) | with_reducible exact Calls.regrown_of (CC.out _))) | quiet_step ((first | with_reducible exact CU.out _ _ | with_reducible exact CT.out _ _ | with_reducible exact Calls.regrown_of (CB.out _) | with_reducible exact Calls.regrown_of (CD.out _) | with_reducible exact Calls.regrown_of (CC.out _))))
    refine wpQuiet_nil ?_
    intro W1 hb1
    clear k0 k1 k2 k3 k4 k5
    go_wp2_with fail
    go_ret2
    exact ⟨by rw [HV.out]; rfl, HB0.out.trans (hb1.mono hsz)⟩
set_option maxHeartbeats 1000000 in
theorem rbody2 (m : HMsg) (ao : Option Addr) (n c : Nat) (w : World) (hk : m.k = 2) (hn : m.su.length = n) (hm : n ≤ 1000) (h1 : m.rn.size ≤ 100000) (h2 : m.sh.size ≤ 100000) (h3 : m.da.size ≤ 100000) (hz : ∀ k, -9223372036854775808 ≤ m.su.getD k 0 ∧ m.su.getD k 0 ≤ 9223372036854775807) (hI : IntsAt w ao m.su) :
    Calls Try.prog 17 #[.agg (msC m (.slice ao n c))] w fun e w' => e = .returned (.tuple #[.string (bodB m), .bool (okM m)]) ∧ Below w.heap.size w w' := by
  obtain ⟨mk, rn, sh, su, da, ask⟩ := m
  dsimp only at hn h1 h2 h3 hz hI hk
  obtain rfl : mk = 2 := hk
  have HB0 := Lib.hid (below_new w (.cells (msC ⟨2, rn, sh, su, da, ask⟩ (.slice ao n c)) 31))
  obtain ⟨c0, c1, c2', c3', c4, c5⟩ := ms_cells (blk_new w (.cells (msC ⟨2, rn, sh, su, da, ask⟩ (.slice ao n c)) 31))
  have HI := Lib.hid (hI.step (below_new w (.cells (msC ⟨2, rn, sh, su, da, ask⟩ (.slice ao n c)) 31)))
  have hsz : w.heap.size ≤ (w.alloc (.cells (msC ⟨2, rn, sh, su, da, ask⟩ (.slice ao n c)) 31)).heap.size := HB0.out.size
  dsimp only at c0 c1 c2' c3' c4 c5
  have CB := Lib.hid (fun W => rblankL 2 rn sh su da ask ao n c true false false W hn (by decide))
  have CU := Lib.hid (fun d os => Calls.regrown_of (rsuites_any ao n c su (grow (redrawn (w.alloc (.cells (msC ⟨2, rn, sh, su, da, ask⟩ (.slice ao n c)) 31)) d) os) hn (by omega) hz (HI.out.step (below_regrown (w.alloc (.cells (msC ⟨2, rn, sh, su, da, ask⟩ (.slice ao n c)) 31)) d os))))
  have CT := Lib.hid (fun d os => Calls.regrown_of (rsuitedL 2 rn sh su da ask ao n c 1 1 (grow (redrawn (w.alloc (.cells (msC ⟨2, rn, sh, su, da, ask⟩ (.slice ao n c)) 31)) d) os) rfl hn (by omega) (by decide) (HI.out.step (below_regrown (w.alloc (.cells (msC ⟨2, rn, sh, su, da, ask⟩ (.slice ao n c)) 31)) d os))))
  have hus : (toB (suL su)).size = 2 * su.length := by rw [toB_size, suL_length]
  have hes : ((⟨#[0, 43, 0, 2, 3, 4, 0, 51, 0, 36, 0, 29, 0, 32]⟩ : ByteArray) ++ sh).size = 14 + sh.size := by rw [ByteArray.size_append]; rfl
  have CD := Lib.hid (fun W => rc2_any (⟨#[0, 43, 0, 2, 3, 4, 0, 51, 0, 36, 0, 29, 0, 32]⟩ ++ sh) W (by omega))
  have hds := c2_size (⟨#[0, 43, 0, 2, 3, 4, 0, 51, 0, 36, 0, 29, 0, 32]⟩ ++ sh)
  have HX : Hid (bodB ⟨2, rn, sh, su, da, ask⟩ = ⟨#[3, 3]⟩ ++ rn ++ ⟨#[0]⟩ ++ toB (suL su) ++ ⟨#[0]⟩ ++ c2 (⟨#[0, 43, 0, 2, 3, 4, 0, 51, 0, 36, 0, 29, 0, 32]⟩ ++ sh)) := Lib.hid rfl
  have HO := Lib.hid (okM_suited2 ⟨2, rn, sh, su, da, ask⟩ rfl)
  generalize blankM ⟨2, rn, sh, su, da, ask⟩ true false false = r at *
  generalize toB (suL su) = uu at *
  generalize c2 (⟨#[0, 43, 0, 2, 3, 4, 0, 51, 0, 36, 0, 29, 0, 32]⟩ ++ sh) = xx at *
  have l0 : 14 + sh.size ≤ 9223372036854775807 := by omega
  have l1 : 2 + rn.size ≤ 9223372036854775807 := by omega
  have l2 : 2 + rn.size + 1 ≤ 9223372036854775807 := by omega
  have l3 : 2 + rn.size + 1 + uu.size ≤ 9223372036854775807 := by omega
  have l4 : 2 + rn.size + 1 + uu.size + 1 ≤ 9223372036854775807 := by omega
  have l5 : 2 + rn.size + 1 + uu.size + 1 + xx.size ≤ 9223372036854775807 := by omega
  generalize suited ⟨2, rn, sh, su, da, ask⟩ 1 = q at *
  clear hI hz hn hm h1 h2 h3 hus hes hds
  cases q with
  | false =>
    have HV : Hid ((Value.tuple #[.string (bodB ⟨2, rn, sh, su, da, ask⟩), .bool (okM ⟨2, rn, sh, su, da, ask⟩)]) = .tuple #[.string (⟨#[3, 3]⟩ ++ rn ++ ⟨#[0]⟩ ++ uu ++ ⟨#[0]⟩ ++ xx), .bool false]) := Lib.hid (by rw [HX.out, HO.out]; simp)
    go_enter Try.func17, Try.ntmps17
    go_wp2_with fail
    have k0 := cell_regrown c0; have k1 := cell_regrown c1; have k2 := cell_regrown c2'; have k3 := cell_regrown c3'; have k4 := cell_regrown c4; have k5 := cell_regrown c5
    refine wp_region_reads (by kernel_rfl) (by kernel_rfl) ?_
    repeat (first | go_big_quiet_step ((first | with_reducible exact CU.out _ _ | with_reducible exact CT.out _ _ | with_reducible exact Calls.regrown_of (CB.out _) | with_reducible exact Calls.regrown_of (CD.out _))) | quiet_step ((first | with_reducible exact CU.out _ _ | with_reducible exact CT.out _ _ | with_reducible exact Calls.regrown_of (CB.out _) | with_reducible exact Calls.regrown_of (CD.out _))))
    refine wpQuiet_nil ?_
    intro W1 hb1
    clear k0 k1 k2 k3 k4 k5
    go_wp2_with fail
    go_ret2
    exact ⟨by rw [HV.out]; rfl, HB0.out.trans (hb1.mono hsz)⟩
  | true =>
    have HV : Hid ((Value.tuple #[.string (bodB ⟨2, rn, sh, su, da, ask⟩), .bool (okM ⟨2, rn, sh, su, da, ask⟩)]) = .tuple #[.string (⟨#[3, 3]⟩ ++ rn ++ ⟨#[0]⟩ ++ uu ++ ⟨#[0]⟩ ++ xx), .bool r]) := Lib.hid (by rw [HX.out, HO.out]; simp)
    go_enter Try.func17, Try.ntmps17
    go_wp2_with fail
    have k0 := cell_regrown c0; have k1 := cell_regrown c1; have k2 := cell_regrown c2'; have k3 := cell_regrown c3'; have k4 := cell_regrown c4; have k5 := cell_regrown c5
    refine wp_region_reads (by kernel_rfl) (by kernel_rfl) ?_
    repeat (first | go_big_quiet_step ((first | with_reducible exact CU.out _ _ | with_reducible exact CT.out _ _ | with_reducible exact Calls.regrown_of (CB.out _) | with_reducible exact Calls.regrown_of (CD.out _))) | quiet_step ((first | with_reducible exact CU.out _ _ | with_reducible exact CT.out _ _ | with_reducible exact Calls.regrown_of (CB.out _) | with_reducible exact Calls.regrown_of (CD.out _))))
    refine wpQuiet_nil ?_
    intro W1 hb1
    clear k0 k1 k2 k3 k4 k5
    go_wp2_with fail
    go_ret2
    exact ⟨by rw [HV.out]; rfl, HB0.out.trans (hb1.mono hsz)⟩
end Go.Proofs.Ytjemikbnncfonaa
