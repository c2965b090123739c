/- Package hello: bodyOf, encoding, Encode. -/
import Derived.Test.YtjemikbnncfonaaHpV
import Derived.Test.YtjemikbnncfonaaHeZ
namespace Go.Proofs.Ytjemikbnncfonaa
open Go.RowKit Go.Sort
set_option maxRecDepth 100000
set_option linter.unusedSimpArgs false
set_option linter.unusedVariables false

set_option maxHeartbeats 4000000 in
theorem body8 (rn sh : ByteArray) (su : List Int) (da : ByteArray) (ask : Bool) (ao : Option Addr) (n c : Nat) (w : World) (hn : su.length = n) (hm : n ≤ 1000) (h1 : rn.size ≤ 100000) (h2 : sh.size ≤ 100000) (h3 : da.size ≤ 100000) (hI : IntsAt w ao su) :
    Calls Try.prog 29 #[.agg (msC ⟨8, rn, sh, su, da, ask⟩ (.slice ao n c))] w fun e w' => e = .returned (.string (bodB ⟨8, rn, sh, su, da, ask⟩)) ∧ Below w.heap.size w w' := by
  have hb := below_new w (.cells (msC ⟨8, rn, sh, su, da, ask⟩ (.slice ao n c)) 24)
  obtain ⟨c0, c1, c2', c3', c4, c5⟩ := ms_cells (blk_new w (.cells (msC ⟨8, rn, sh, su, da, ask⟩ (.slice ao n c)) 24))
  have HI := Lib.hid (hI.step hb)
  dsimp only at c0 c1 c2' c3' c4 c5
  have HX : Hid (bodB ⟨8, rn, sh, su, da, ask⟩ = ⟨#[0, 0]⟩) := Lib.hid rfl
  clear hI hn hm h1 h2 h3
  go_enter Try.func29, Try.ntmps29
  go_wp2_with fail
  go_ret
  exact ⟨by rw [HX.out]; rfl, hb⟩
set_option maxHeartbeats 4000000 in
theorem body20 (rn sh : ByteArray) (su : List Int) (da : ByteArray) (ask : Bool) (ao : Option Addr) (n c : Nat) (w : World) (hn : su.length = n) (hm : n ≤ 1000) (h1 : rn.size ≤ 100000) (h2 : sh.size ≤ 100000) (h3 : da.size ≤ 100000) (hI : IntsAt w ao su) :
    Calls Try.prog 29 #[.agg (msC ⟨20, rn, sh, su, da, ask⟩ (.slice ao n c))] w fun e w' => e = .returned (.string (bodB ⟨20, rn, sh, su, da, ask⟩)) ∧ Below w.heap.size w w' := by
  have hb := below_new w (.cells (msC ⟨20, rn, sh, su, da, ask⟩ (.slice ao n c)) 24)
  obtain ⟨c0, c1, c2', c3', c4, c5⟩ := ms_cells (blk_new w (.cells (msC ⟨20, rn, sh, su, da, ask⟩ (.slice ao n c)) 24))
  have HI := Lib.hid (hI.step hb)
  dsimp only at c0 c1 c2' c3' c4 c5
  have HX : Hid (bodB ⟨20, rn, sh, su, da, ask⟩ = da) := Lib.hid rfl
  clear hI hn hm h1 h2 h3
  go_enter Try.func29, Try.ntmps29
  go_wp2_with fail
  go_ret
  exact ⟨by rw [HX.out]; rfl, hb⟩
set_option maxHeartbeats 4000000 in
theorem body24t (rn sh : ByteArray) (su : List Int) (da : ByteArray) (ao : Option Addr) (n c : Nat) (w : World) (hn : su.length = n) (hm : n ≤ 1000) (h1 : rn.size ≤ 100000) (h2 : sh.size ≤ 100000) (h3 : da.size ≤ 100000) (hI : IntsAt w ao su) :
    Calls Try.prog 29 #[.agg (msC ⟨24, rn, sh, su, da, true⟩ (.slice ao n c))] w fun e w' => e = .returned (.string (bodB ⟨24, rn, sh, su, da, true⟩)) ∧ Below w.heap.size w w' := by
  have hb := below_new w (.cells (msC ⟨24, rn, sh, su, da, true⟩ (.slice ao n c)) 24)
  obtain ⟨c0, c1, c2', c3', c4, c5⟩ := ms_cells (blk_new w (.cells (msC ⟨24, rn, sh, su, da, true⟩ (.slice ao n c)) 24))
  have HI := Lib.hid (hI.step hb)
  dsimp only at c0 c1 c2' c3' c4 c5
  have HX : Hid (bodB ⟨24, rn, sh, su, da, true⟩ = ⟨#[1]⟩) := Lib.hid rfl
  clear hI hn hm h1 h2 h3
  go_enter Try.func29, Try.ntmps29
  go_wp2_with fail
  go_ret
  exact ⟨by rw [HX.out]; rfl, hb⟩
set_option maxHeartbeats 4000000 in
theorem body24f (rn sh : ByteArray) (su : List Int) (da : ByteArray) (ao : Option Addr) (n c : Nat) (w : World) (hn : su.length = n) (hm : n ≤ 1000) (h1 : rn.size ≤ 100000) (h2 : sh.size ≤ 100000) (h3 : da.size ≤ 100000) (hI : IntsAt w ao su) :
    Calls Try.prog 29 #[.agg (msC ⟨24, rn, sh, su, da, false⟩ (.slice ao n c))] w fun e w' => e = .returned (.string (bodB ⟨24, rn, sh, su, da, false⟩)) ∧ Below w.heap.size w w' := by
  have hb := below_new w (.cells (msC ⟨24, rn, sh, su, da, false⟩ (.slice ao n c)) 24)
  obtain ⟨c0, c1, c2', c3', c4, c5⟩ := ms_cells (blk_new w (.cells (msC ⟨24, rn, sh, su, da, false⟩ (.slice ao n c)) 24))
  have HI := Lib.hid (hI.step hb)
  dsimp only at c0 c1 c2' c3' c4 c5
  have HX : Hid (bodB ⟨24, rn, sh, su, da, false⟩ = ⟨#[0]⟩) := Lib.hid rfl
  clear hI hn hm h1 h2 h3
  go_enter Try.func29, Try.ntmps29
  go_wp2_with fail
  go_ret
  exact ⟨by rw [HX.out]; rfl, hb⟩
set_option maxHeartbeats 4000000 in
theorem body13 (rn sh : ByteArray) (su : List Int) (da : ByteArray) (ask : Bool) (ao : Option Addr) (n c : Nat) (w : World) (hn : su.length = n) (hm : n ≤ 1000) (h1 : rn.size ≤ 100000) (h2 : sh.size ≤ 100000) (h3 : da.size ≤ 100000) (hI : IntsAt w ao su) :
    Calls Try.prog 29 #[.agg (msC ⟨13, rn, sh, su, da, ask⟩ (.slice ao n c))] w fun e w' => e = .returned (.string (bodB ⟨13, rn, sh, su, da, ask⟩)) ∧ Below w.heap.size w w' := by
  have hb := below_new w (.cells (msC ⟨13, rn, sh, su, da, ask⟩ (.slice ao n c)) 24)
  obtain ⟨c0, c1, c2', c3', c4, c5⟩ := ms_cells (blk_new w (.cells (msC ⟨13, rn, sh, su, da, ask⟩ (.slice ao n c)) 24))
  have HI := Lib.hid (hI.step hb)
  dsimp only at c0 c1 c2' c3' c4 c5
  have CC := Lib.hid (fun W => counted2_any ⟨#[0, 13, 0, 4, 0, 2, 8, 7]⟩ W (by decide))
  have HX : Hid (bodB ⟨13, rn, sh, su, da, ask⟩ = ⟨#[0]⟩ ++ c2 ⟨#[0, 13, 0, 4, 0, 2, 8, 7]⟩) := Lib.hid (by kernel_rfl)
  have hcs := c2_size ⟨#[0, 13, 0, 4, 0, 2, 8, 7]⟩
  generalize c2 ⟨#[0, 13, 0, 4, 0, 2, 8, 7]⟩ = t at *
  have ht : 1 + t.size ≤ 9223372036854775807 := by rw [hcs]; decide
  clear hcs
  clear hI hn hm h1 h2 h3
  go_enter Try.func29, Try.ntmps29
  go_wp2_with fail
  refine (CC.out _).mono ?_
  rintro e W1 ⟨rfl, bk⟩
  replace hb := hb.trans (bk.mono hb.size)
  clear bk CC
  go_wp2_with fail
  go_ret
  exact ⟨by rw [HX.out]; rfl, hb⟩
set_option maxHeartbeats 4000000 in
theorem body15 (rn sh : ByteArray) (su : List Int) (da : ByteArray) (ask : Bool) (ao : Option Addr) (n c : Nat) (w : World) (hn : su.length = n) (hm : n ≤ 1000) (h1 : rn.size ≤ 100000) (h2 : sh.size ≤ 100000) (h3 : da.size ≤ 100000) (hI : IntsAt w ao su) :
    Calls Try.prog 29 #[.agg (msC ⟨15, rn, sh, su, da, ask⟩ (.slice ao n c))] w fun e w' => e = .returned (.string (bodB ⟨15, rn, sh, su, da, ask⟩)) ∧ Below w.heap.size w w' := by
  have hb := below_new w (.cells (msC ⟨15, rn, sh, su, da, ask⟩ (.slice ao n c)) 24)
  obtain ⟨c0, c1, c2', c3', c4, c5⟩ := ms_cells (blk_new w (.cells (msC ⟨15, rn, sh, su, da, ask⟩ (.slice ao n c)) 24))
  have HI := Lib.hid (hI.step hb)
  dsimp only at c0 c1 c2' c3' c4 c5
  have CC := Lib.hid (fun W => counted2_any da W (by omega))
  have hcs := c2_size da
  have HX : Hid (bodB ⟨15, rn, sh, su, da, ask⟩ = ⟨#[8, 7]⟩ ++ c2 da) := Lib.hid rfl
  generalize c2 da = t at *
  have ht : 2 + t.size ≤ 9223372036854775807 := by omega
  clear hcs
  clear hI hn hm h1 h2 h3
  go_enter Try.func29, Try.ntmps29
  go_wp2_with fail
  refine (CC.out _).mono ?_
  rintro e W1 ⟨rfl, bk⟩
  replace hb := hb.trans (bk.mono hb.size)
  clear bk CC
  go_wp2_with fail
  go_ret
  exact ⟨by rw [HX.out]; rfl, hb⟩
set_option maxHeartbeats 4000000 in
theorem body11 (rn sh : ByteArray) (su : List Int) (da : ByteArray) (ask : Bool) (ao : Option Addr) (n c : Nat) (w : World) (hn : su.length = n) (hm : n ≤ 1000) (h1 : rn.size ≤ 100000) (h2 : sh.size ≤ 100000) (h3 : da.size ≤ 100000) (hI : IntsAt w ao su) :
    Calls Try.prog 29 #[.agg (msC ⟨11, rn, sh, su, da, ask⟩ (.slice ao n c))] w fun e w' => e = .returned (.string (bodB ⟨11, rn, sh, su, da, ask⟩)) ∧ Below w.heap.size w w' := by
  have hb := below_new w (.cells (msC ⟨11, rn, sh, su, da, ask⟩ (.slice ao n c)) 24)
  obtain ⟨c0, c1, c2', c3', c4, c5⟩ := ms_cells (blk_new w (.cells (msC ⟨11, rn, sh, su, da, ask⟩ (.slice ao n c)) 24))
  have HI := Lib.hid (hI.step hb)
  dsimp only at c0 c1 c2' c3' c4 c5
  have CC := Lib.hid (fun W => counted3_any da W (by omega))
  have hcs := c3_size da
  have HX : Hid (bodB ⟨11, rn, sh, su, da, ask⟩ = ⟨#[0]⟩ ++ c3 (c3 da ++ ⟨#[0, 0]⟩)) := Lib.hid rfl
  generalize c3 da = t at *
  have hu : (t ++ (⟨#[0, 0]⟩ : ByteArray)).size = t.size + 2 := by rw [ByteArray.size_append]; rfl
  have CD := Lib.hid (fun W => counted3_any (t ++ ⟨#[0, 0]⟩) W (by omega))
  have hcs2 := c3_size (t ++ ⟨#[0, 0]⟩)
  have ht : t.size + 2 ≤ 9223372036854775807 := by omega
  generalize c3 (t ++ ⟨#[0, 0]⟩) = t2 at *
  have ht2 : 1 + t2.size ≤ 9223372036854775807 := by omega
  clear hcs hcs2 hu
  clear hI hn hm h1 h2 h3
  go_enter Try.func29, Try.ntmps29
  go_wp2_with fail
  refine (CC.out _).mono ?_
  rintro e W1 ⟨rfl, bk⟩
  replace hb := hb.trans (bk.mono hb.size)
  clear bk CC
  go_wp2_with fail
  refine (CD.out _).mono ?_
  rintro e W1 ⟨rfl, bk⟩
  replace hb := hb.trans (bk.mono hb.size)
  clear bk CD
  go_wp2_with fail
  go_ret
  exact ⟨by rw [HX.out]; rfl, hb⟩
set_option maxHeartbeats 4000000 in
theorem body1 (rn sh : ByteArray) (su : List Int) (da : ByteArray) (ask : Bool) (ao : Option Addr) (n c : Nat) (w : World) (hn : su.length = n) (hm : n ≤ 1000) (h1 : rn.size ≤ 100000) (h2 : sh.size ≤ 100000) (h3 : da.size ≤ 100000) (hI : IntsAt w ao su) (hok : suitsOk su = true) :
    Calls Try.prog 29 #[.agg (msC ⟨1, rn, sh, su, da, ask⟩ (.slice ao n c))] w fun e w' => e = .returned (.string (bodB ⟨1, rn, sh, su, da, ask⟩)) ∧ Below w.heap.size w w' := by
  have hb := below_new w (.cells (msC ⟨1, rn, sh, su, da, ask⟩ (.slice ao n c)) 24)
  obtain ⟨c0, c1, c2', c3', c4, c5⟩ := ms_cells (blk_new w (.cells (msC ⟨1, rn, sh, su, da, ask⟩ (.slice ao n c)) 24))
  have HI := Lib.hid (hI.step hb)
  dsimp only at c0 c1 c2' c3' c4 c5
  have CU := Lib.hid (fun d os => Calls.regrown_of (suiteBytes_any ao n c su (grow (redrawn (w.alloc (.cells (msC ⟨1, rn, sh, su, da, ask⟩ (.slice ao n c)) 24)) d) os) hn (by omega) hok (HI.out.step (below_regrown (w.alloc (.cells (msC ⟨1, rn, sh, su, da, ask⟩ (.slice ao n c)) 24)) d os))))
  have hus : (toB (suL su)).size = 2 * su.length := by rw [toB_size, suL_length]
  have CC := Lib.hid (fun W => counted2_any (toB (suL su)) W (by omega))
  have hcs := c2_size (toB (suL su))
  have hes : ((⟨#[0, 43, 0, 3, 2, 3, 4, 0, 10, 0, 4, 0, 2, 0, 29, 0, 13, 0, 4, 0, 2, 8, 7, 0, 51, 0, 38, 0, 36, 0, 29, 0, 32]⟩ : ByteArray) ++ sh).size = 33 + sh.size := by rw [ByteArray.size_append]; rfl
  have CD := Lib.hid (fun W => counted2_any (⟨#[0, 43, 0, 3, 2, 3, 4, 0, 10, 0, 4, 0, 2, 0, 29, 0, 13, 0, 4, 0, 2, 8, 7, 0, 51, 0, 38, 0, 36, 0, 29, 0, 32]⟩ ++ sh) W (by omega))
  have hds := c2_size (⟨#[0, 43, 0, 3, 2, 3, 4, 0, 10, 0, 4, 0, 2, 0, 29, 0, 13, 0, 4, 0, 2, 8, 7, 0, 51, 0, 38, 0, 36, 0, 29, 0, 32]⟩ ++ sh)
  have HX : Hid (bodB ⟨1, rn, sh, su, da, ask⟩ = ⟨#[3, 3]⟩ ++ rn ++ ⟨#[0]⟩ ++ c2 (toB (suL su)) ++ ⟨#[1, 0]⟩ ++ c2 (⟨#[0, 43, 0, 3, 2, 3, 4, 0, 10, 0, 4, 0, 2, 0, 29, 0, 13, 0, 4, 0, 2, 8, 7, 0, 51, 0, 38, 0, 36, 0, 29, 0, 32]⟩ ++ sh)) := Lib.hid rfl
  generalize c2 (toB (suL su)) = uu at *
  generalize toB (suL su) = vv at *
  generalize c2 (⟨#[0, 43, 0, 3, 2, 3, 4, 0, 10, 0, 4, 0, 2, 0, 29, 0, 13, 0, 4, 0, 2, 8, 7, 0, 51, 0, 38, 0, 36, 0, 29, 0, 32]⟩ ++ sh) = xx at *
  have l0 : 33 + sh.size ≤ 9223372036854775807 := by omega
  have l1 : 2 + rn.size ≤ 9223372036854775807 := by omega
  have l2 : 2 + rn.size + 1 ≤ 9223372036854775807 := by omega
  have l3 : 2 + rn.size + 1 + uu.size ≤ 9223372036854775807 := by omega
  have l4 : 2 + rn.size + 1 + uu.size + 2 ≤ 9223372036854775807 := by omega
  have l5 : 2 + rn.size + 1 + uu.size + 2 + xx.size ≤ 9223372036854775807 := by omega
  clear hus hes hds hcs hok
  clear hI hn hm h1 h2 h3
  go_enter Try.func29, Try.ntmps29
  go_wp2_with fail
  have k0 := cell_regrown c0; have k1 := cell_regrown c1; have k2 := cell_regrown c2'; have k3 := cell_regrown c3'; have k4 := cell_regrown c4; have k5 := cell_regrown c5
  refine wp_region_reads (by kernel_rfl) (by kernel_rfl) ?_
  repeat (first | go_big_quiet_step ((first | with_reducible exact CU.out _ _ | with_reducible exact Calls.regrown_of (CD.out _) | with_reducible exact Calls.regrown_of (CC.out _))) | quiet_step ((first | with_reducible exact CU.out _ _ | with_reducible exact Calls.regrown_of (CD.out _) | with_reducible exact Calls.regrown_of (CC.out _))))
  refine wpQuiet_nil ?_
  intro W1 hb1
  clear k0 k1 k2 k3 k4 k5
  replace hb := hb.trans (hb1.mono hb.size)
  go_wp2_with fail
  go_ret
  exact ⟨by rw [HX.out]; rfl, hb⟩
set_option maxHeartbeats 4000000 in
theorem body2 (rn sh : ByteArray) (su : List Int) (da : ByteArray) (ask : Bool) (ao : Option Addr) (n c : Nat) (w : World) (hn : su.length = n) (hm : n ≤ 1000) (h1 : rn.size ≤ 100000) (h2 : sh.size ≤ 100000) (h3 : da.size ≤ 100000) (hI : IntsAt w ao su) (hok : suitsOk su = true) :
    Calls Try.prog 29 #[.agg (msC ⟨2, rn, sh, su, da, ask⟩ (.slice ao n c))] w fun e w' => e = .returned (.string (bodB ⟨2, rn, sh, su, da, ask⟩)) ∧ Below w.heap.size w w' := by
  have hb := below_new w (.cells (msC ⟨2, rn, sh, su, da, ask⟩ (.slice ao n c)) 24)
  obtain ⟨c0, c1, c2', c3', c4, c5⟩ := ms_cells (blk_new w (.cells (msC ⟨2, rn, sh, su, da, ask⟩ (.slice ao n c)) 24))
  have HI := Lib.hid (hI.step hb)
  dsimp only at c0 c1 c2' c3' c4 c5
  have CU := Lib.hid (fun d os => Calls.regrown_of (suiteBytes_any ao n c su (grow (redrawn (w.alloc (.cells (msC ⟨2, rn, sh, su, da, ask⟩ (.slice ao n c)) 24)) d) os) hn (by omega) hok (HI.out.step (below_regrown (w.alloc (.cells (msC ⟨2, rn, sh, su, da, ask⟩ (.slice ao n c)) 24)) d os))))
  have hus : (toB (suL su)).size = 2 * su.length := by rw [toB_size, suL_length]
  have hes : ((⟨#[0, 43, 0, 2, 3, 4, 0, 51, 0, 36, 0, 29, 0, 32]⟩ : ByteArray) ++ sh).size = 14 + sh.size := by rw [ByteArray.size_append]; rfl
  have CD := Lib.hid (fun W => counted2_any (⟨#[0, 43, 0, 2, 3, 4, 0, 51, 0, 36, 0, 29, 0, 32]⟩ ++ sh) W (by omega))
  have hds := c2_size (⟨#[0, 43, 0, 2, 3, 4, 0, 51, 0, 36, 0, 29, 0, 32]⟩ ++ sh)
  have HX : Hid (bodB ⟨2, rn, sh, su, da, ask⟩ = ⟨#[3, 3]⟩ ++ rn ++ ⟨#[0]⟩ ++ toB (suL su) ++ ⟨#[0]⟩ ++ c2 (⟨#[0, 43, 0, 2, 3, 4, 0, 51, 0, 36, 0, 29, 0, 32]⟩ ++ sh)) := Lib.hid rfl
  generalize toB (suL su) = uu at *
  generalize c2 (⟨#[0, 43, 0, 2, 3, 4, 0, 51, 0, 36, 0, 29, 0, 32]⟩ ++ sh) = xx at *
  have l0 : 14 + sh.size ≤ 9223372036854775807 := by omega
  have l1 : 2 + rn.size ≤ 9223372036854775807 := by omega
  have l2 : 2 + rn.size + 1 ≤ 9223372036854775807 := by omega
  have l3 : 2 + rn.size + 1 + uu.size ≤ 9223372036854775807 := by omega
  have l4 : 2 + rn.size + 1 + uu.size + 1 ≤ 9223372036854775807 := by omega
  have l5 : 2 + rn.size + 1 + uu.size + 1 + xx.size ≤ 9223372036854775807 := by omega
  clear hus hes hds hok
  clear hI hn hm h1 h2 h3
  go_enter Try.func29, Try.ntmps29
  go_wp2_with fail
  have k0 := cell_regrown c0; have k1 := cell_regrown c1; have k2 := cell_regrown c2'; have k3 := cell_regrown c3'; have k4 := cell_regrown c4; have k5 := cell_regrown c5
  refine wp_region_reads (by kernel_rfl) (by kernel_rfl) ?_
  repeat (first | go_big_quiet_step ((first | with_reducible exact CU.out _ _ | with_reducible exact Calls.regrown_of (CD.out _))) | quiet_step ((first | with_reducible exact CU.out _ _ | with_reducible exact Calls.regrown_of (CD.out _))))
  refine wpQuiet_nil ?_
  intro W1 hb1
  clear k0 k1 k2 k3 k4 k5
  replace hb := hb.trans (hb1.mono hb.size)
  go_wp2_with fail
  go_ret
  exact ⟨by rw [HX.out]; rfl, hb⟩
theorem bodyL (k : Int) (rn sh : ByteArray) (su : List Int) (da : ByteArray) (ask : Bool) (ao : Option Addr) (n c : Nat) (w : World) (ho : okM ⟨k, rn, sh, su, da, ask⟩ = true) (hn : su.length = n) (hm : n ≤ 1000) (h1 : rn.size ≤ 100000) (h2 : sh.size ≤ 100000) (h3 : da.size ≤ 100000) (hI : IntsAt w ao su) :
    Calls Try.prog 29 #[.agg #[.int .i64 k, .string rn, .string sh, .slice ao n c, .string da, .bool ask]] w fun e w' => e = .returned (.string (bodB ⟨k, rn, sh, su, da, ask⟩)) ∧ Below w.heap.size w w' := by
  rcases okM_kinds ho with hk | hk | hk | hk | hk | hk | hk | hk <;> obtain rfl : k = _ := hk
  · exact body1 rn sh su da ask ao n c w hn hm h1 h2 h3 hI (suited_ok (okM_1 rfl ho).1).2.2.2.2
  · exact body2 rn sh su da ask ao n c w hn hm h1 h2 h3 hI (suited_ok (okM_2 rfl ho).1).2.2.2.2
  · exact body8 rn sh su da ask ao n c w hn hm h1 h2 h3 hI
  · exact body11 rn sh su da ask ao n c w hn hm h1 h2 h3 hI
  · exact body13 rn sh su da ask ao n c w hn hm h1 h2 h3 hI
  · exact body15 rn sh su da ask ao n c w hn hm h1 h2 h3 hI
  · exact body20 rn sh su da ask ao n c w hn hm h1 h2 h3 hI
  · cases ask with
    | true => exact body24t rn sh su da ao n c w hn hm h1 h2 h3 hI
    | false => exact body24f rn sh su da ao n c w hn hm h1 h2 h3 hI
theorem okM_sizes {m : HMsg} (h : okM m = true) : m.rn.size ≤ 100000 ∧ m.sh.size ≤ 100000 ∧ m.da.size ≤ 100000 ∧ m.su.length ≤ 1000 := by
  have e0 : emB.size = 0 := rfl
  rcases okM_kinds h with hk | hk | hk | hk | hk | hk | hk | hk
  · obtain ⟨a, b, -⟩ := okM_1 hk h; obtain ⟨p, q, -, s, -⟩ := suited_ok a; rw [b]; omega
  · obtain ⟨a, b, -⟩ := okM_2 hk h; obtain ⟨p, q, -, s, -⟩ := suited_ok a; rw [b]; omega
  · obtain ⟨a, b, -⟩ := okM_8 (.inl hk) h; obtain ⟨p, q, s⟩ := bare_ok a; rw [p, q, s, b]; simp [e0]
  · obtain ⟨a, -, b, -⟩ := okM_11 hk h; obtain ⟨p, q, s⟩ := bare_ok a; rw [p, q, s]; simp [e0]; omega
  · obtain ⟨a, b, -⟩ := okM_8 (.inr hk) h; obtain ⟨p, q, s⟩ := bare_ok a; rw [p, q, s, b]; simp [e0]
  · obtain ⟨a, b, -⟩ := okM_15 hk h; obtain ⟨p, q, s⟩ := bare_ok a; rw [p, q, s]; simp [e0]; omega
  · obtain ⟨a, b, -⟩ := okM_20 hk h; obtain ⟨p, q, s⟩ := bare_ok a; rw [p, q, s]; simp [e0]; omega
  · obtain ⟨a, b⟩ := okM_24 hk h; obtain ⟨p, q, s⟩ := bare_ok a; rw [p, q, s, b]; simp [e0]
set_option maxHeartbeats 4000000 in
theorem encoding_any (k : Int) (rn sh : ByteArray) (su : List Int) (da : ByteArray) (ask : Bool) (ao : Option Addr) (n c : Nat) (w : World) (ho : okM ⟨k, rn, sh, su, da, ask⟩ = true) (hn : su.length = n) (hI : IntsAt w ao su) :
    Calls Try.prog 16 #[.agg (msC ⟨k, rn, sh, su, da, ask⟩ (.slice ao n c))] w fun e w' => e = .returned (.string (encB ⟨k, rn, sh, su, da, ask⟩)) ∧ Below w.heap.size w w' := by
  obtain ⟨z1, z2, z3, z4⟩ := okM_sizes ho
  have hbs := bodB_size _ ho
  have hb := below_new w (.cells (msC ⟨k, rn, sh, su, da, ask⟩ (.slice ao n c)) 24)
  obtain ⟨c0, c1, c2', c3', c4, c5⟩ := ms_cells (blk_new w (.cells (msC ⟨k, rn, sh, su, da, ask⟩ (.slice ao n c)) 24))
  have HI := Lib.hid (hI.step hb)
  dsimp only at c0 c1 c2' c3' c4 c5 z1 z2 z3 z4
  have CB := Lib.hid (fun d os => Calls.regrown_of (bodyL k rn sh su da ask ao n c (grow (redrawn (w.alloc (.cells (msC ⟨k, rn, sh, su, da, ask⟩ (.slice ao n c)) 24)) d) os) ho hn (by omega) z1 z2 z3 (HI.out.step (below_regrown (w.alloc (.cells (msC ⟨k, rn, sh, su, da, ask⟩ (.slice ao n c)) 24)) d os))))
  have CE := Lib.hid (fun W => bigEnd_any 1 k W (by decide) (by decide))
  rw [show ((1 : Nat) : Int) = 1 from rfl] at CE
  have CC := Lib.hid (fun W => counted3_any (bodB ⟨k, rn, sh, su, da, ask⟩) W (by omega))
  have HX : Hid (encB ⟨k, rn, sh, su, da, ask⟩ = toB (beL 1 k) ++ c3 (bodB ⟨k, rn, sh, su, da, ask⟩)) := Lib.hid rfl
  have hz1 : (toB (beL 1 k)).size = 1 := by rw [toB_size, beL_length]
  have hz2 := c3_size (bodB ⟨k, rn, sh, su, da, ask⟩)
  have hz3 : (toB (beL 1 k)).size + (c3 (bodB ⟨k, rn, sh, su, da, ask⟩)).size ≤ 9223372036854775807 := by omega
  generalize encB ⟨k, rn, sh, su, da, ask⟩ = en at *
  generalize c3 (bodB ⟨k, rn, sh, su, da, ask⟩) = y at *
  generalize bodB ⟨k, rn, sh, su, da, ask⟩ = bo at *
  generalize toB (beL 1 k) = x at *
  clear hI hn ho z1 z2 z3 z4 hbs hz1 hz2
  go_enter Try.func16, Try.ntmps16
  go_wp2_with fail
  have k0 := cell_regrown c0; have k1 := cell_regrown c1; have k2 := cell_regrown c2'; have k3 := cell_regrown c3'; have k4 := cell_regrown c4; have k5 := cell_regrown c5
  refine wp_region_reads (by kernel_rfl) (by kernel_rfl) ?_
  repeat (first | go_big_quiet_step ((first | with_reducible exact CB.out _ _ | with_reducible exact Calls.regrown_of (CE.out _) | with_reducible exact Calls.regrown_of (CC.out _))) | quiet_step ((first | with_reducible exact CB.out _ _ | with_reducible exact Calls.regrown_of (CE.out _) | with_reducible exact Calls.regrown_of (CC.out _))))
  refine wpQuiet_nil ?_
  intro W1 hb1
  clear k0 k1 k2 k3 k4 k5
  replace hb := hb.trans (hb1.mono hb.size)
  go_wp2_with fail
  go_ret
  exact ⟨by rw [HX.out]; rfl, hb⟩
theorem encodingL (k : Int) (rn sh : ByteArray) (su : List Int) (da : ByteArray) (ask : Bool) (ao : Option Addr) (n c : Nat) (w : World) (ho : okM ⟨k, rn, sh, su, da, ask⟩ = true) (hn : su.length = n) (hI : IntsAt w ao su) :
    Calls Try.prog 16 #[.agg #[.int .i64 k, .string rn, .string sh, .slice ao n c, .string da, .bool ask]] w fun e w' => e = .returned (.string (encB ⟨k, rn, sh, su, da, ask⟩)) ∧ Below w.heap.size w w' := encoding_any k rn sh su da ask ao n c w ho hn hI
theorem validL (k : Int) (rn sh : ByteArray) (su : List Int) (da : ByteArray) (ask : Bool) (ao : Option Addr) (n c : Nat) (w : World) (hn : su.length = n) (hm : n ≤ 1000000) (hI : IntsAt w ao su) :
    Calls Try.prog 15 #[.agg #[.int .i64 k, .string rn, .string sh, .slice ao n c, .string da, .bool ask]] w fun e w' => e = .returned (.bool (okM ⟨k, rn, sh, su, da, ask⟩)) ∧ Below w.heap.size w w' := isValid_any ⟨k, rn, sh, su, da, ask⟩ ao n c w hn hm hI
set_option maxHeartbeats 4000000 in
theorem encode_any (k : Int) (rn sh : ByteArray) (su : List Int) (da : ByteArray) (ask : Bool) (ao : Option Addr) (n c : Nat) (w : World) (hn : su.length = n) (hm : n ≤ 1000) (hI : IntsAt w ao su) :
    Calls Try.prog 9 #[.agg (msC ⟨k, rn, sh, su, da, ask⟩ (.slice ao n c))] w fun e w' => e = .returned (.tuple #[.string (encX ⟨k, rn, sh, su, da, ask⟩), .int .i64 (encE ⟨k, rn, sh, su, da, ask⟩)]) ∧ Below w.heap.size w w' := by
  have hb := below_new w (.cells (msC ⟨k, rn, sh, su, da, ask⟩ (.slice ao n c)) 24)
  have HG := Lib.hid (blk_new w (.cells (msC ⟨k, rn, sh, su, da, ask⟩ (.slice ao n c)) 24))
  have HI := Lib.hid (hI.step hb)
  obtain ⟨c0, c1, c2', c3', c4, c5⟩ := ms_cells HG.out
  dsimp only at c0 c1 c2' c3' c4 c5
  have CV := Lib.hid (fun W hi => isValid_any ⟨k, rn, sh, su, da, ask⟩ ao n c W hn (by omega) hi)
  cases ho : okM ⟨k, rn, sh, su, da, ask⟩ with
  | false =>
    rw [ho] at CV
    have HX : Hid (encX ⟨k, rn, sh, su, da, ask⟩ = ⟨#[]⟩ ∧ encE ⟨k, rn, sh, su, da, ask⟩ = 1) := Lib.hid ⟨by rw [encX, ho]; rfl, by rw [encE, ho]; rfl⟩
    clear hI hn hm ho
    go_enter Try.func9, Try.ntmps9
    go_wp2_with fail
    refine (CV.out _ HI.out).mono ?_
    rintro e W1 ⟨rfl, bk⟩
    replace hb := hb.trans (bk.mono hb.size)
    clear bk CV
    go_wp2_with fail
    go_ret2
    exact ⟨by rw [HX.out.1, HX.out.2]; rfl, hb⟩
  | true =>
    rw [ho] at CV
    have CE := Lib.hid (fun W hi => encodingL k rn sh su da ask ao n c W ho hn hi)
    have HX : Hid (encX ⟨k, rn, sh, su, da, ask⟩ = encB ⟨k, rn, sh, su, da, ask⟩ ∧ encE ⟨k, rn, sh, su, da, ask⟩ = 0) := Lib.hid ⟨by rw [encX, ho]; rfl, by rw [encE, ho]; rfl⟩
    generalize encB ⟨k, rn, sh, su, da, ask⟩ = en at *
    clear hI hn hm ho
    go_enter Try.func9, Try.ntmps9
    go_wp2_with fail
    refine (CV.out _ HI.out).mono ?_
    rintro e W1 ⟨rfl, bk⟩
    have hb1 := hb.trans (bk.mono hb.size)
    have HG1 := Lib.hid (blk_below bk (blk_lt HG.out) HG.out)
    have HI1 := Lib.hid (HI.out.step bk)
    clear bk CV HG HI c0 c1 c2' c3' c4 c5 hb
    obtain ⟨c0, c1, c2', c3', c4, c5⟩ := ms_cells HG1.out
    dsimp only at c0 c1 c2' c3' c4 c5
    go_wp2_with fail
    refine (CE.out _ HI1.out).mono ?_
    rintro e W2 ⟨rfl, bk⟩
    replace hb1 := hb1.trans (bk.mono hb1.size)
    clear bk CE
    go_wp2_with fail
    go_ret2
    exact ⟨by rw [HX.out.1, HX.out.2]; rfl, hb1⟩
end Go.Proofs.Ytjemikbnncfonaa
