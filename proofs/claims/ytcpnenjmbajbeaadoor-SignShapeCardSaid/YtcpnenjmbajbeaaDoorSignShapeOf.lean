/- SignShape over whatever the program's calls are. -/
import Derived.Test.YtcpnenjmbajbeaaDoorSgTop
import Derived.Test.YtcpnenjmbajbeaaDoorScaP
namespace Go.Proofs.YtcpnenjmbajbeaaDoor
open Go.RowKit Go.Sort
set_option maxRecDepth 100000
set_option linter.unusedSimpArgs false
set_option linter.unusedVariables false

theorem second_half (a b : ByteArray) (ha : a.size = 32) (hb : b.size = 32) : (a ++ b).extract 32 64 = b := by
  have h : ((a ++ b).extract 32 64).data.toList = b.data.toList := by
    rw [Lib.extract_data, ByteArray.data_append, Array.toList_append, List.drop_left' (by rw [← Lib.size_eq]; exact ha), List.take_of_length_le (by rw [← Lib.size_eq]; omega)]
  apply ByteArray.ext
  exact Array.toList_inj.1 h
theorem ok_txtN (x : Nat) (h : x < lF) : okR (txtN x) = true := by
  rw [okR, txtN_list, nV_leF, Nat.mod_eq_of_lt (Nat.lt_trans h lF_256)]
  simp [txtN_size, h]
theorem sgnT_second (s t : ByteArray) : (sgnT s t).size = 64 ∧ okR ((sgnT s t).extract 32 (sgnT s t).size) = true := by
  have hm : maX (kT (timT (rT s t)) (pubT s) t) (sclT s) (rT s t) = txtN ((nV (kT (timT (rT s t)) (pubT s) t).data.toList * nV (sclT s).data.toList + nV (rT s t).data.toList) % lF) := if_pos ⟨wdT_size _, sclT_size s, wdT_size _⟩
  have hz : (sgnT s t).size = 64 := by rw [sgnT, ByteArray.size_append, timT_size, hm, txtN_size]
  refine ⟨hz, ?_⟩
  rw [hz]
  have he : (sgnT s t).extract 32 64 = txtN ((nV (kT (timT (rT s t)) (pubT s) t).data.toList * nV (sclT s).data.toList + nV (rT s t).data.toList) % lF) := by
    rw [sgnT, hm]
    exact second_half _ _ (timT_size _) (txtN_size _)
  rw [he]
  exact ok_txtN _ (Nat.mod_lt _ lF_pos)
theorem verE_bad (p t g : ByteArray) (h : g.size ≠ 64) : verE p t g = 22 ∨ verE p t g = 21 := by
  rw [verE]
  by_cases hp : ofET p = 0
  · rw [if_pos hp, if_neg (fun k => h k.1)]; exact .inl rfl
  · rw [if_neg hp]; exact .inr rfl
set_option maxHeartbeats 8000000 in
theorem signShape_of (C : SgCalls) (HA0 : ∀ W : World, SgnQ W → Calls Tryd.prog 4 #[] W fun e w' => e = .returned (.bool true) ∧ Below W.heap.size W w') (s : ByteArray) (t : ByteArray) (g : ByteArray) (w : World) (hT : SgnQ w) :
    Calls Tryd.prog 3 #[.string s, .string t, .string g] w fun e w' => e = .returned (.bool true) ∧ Below w.heap.size w w' := by
  have HA := Lib.hid HA0
  have HP := Lib.hid hT
  have hb := Below.refl w.heap.size w
  clear hT HA0
  by_cases h : t.size > 500
  · have d1 : decide (500 < (t.size : Int)) = true := by simp; omega
    go_enter Tryd.func3, Tryd.ntmps3
    go_wp2_with fail
    refine (HA.out w HP.out).mono ?_
    rintro e W1 ⟨rfl, bk⟩
    replace hb := hb.trans (bk.mono hb.size)
    replace HP := Lib.hid (HP.out.step bk)
    clear bk
    go_wp2_with fail
    go_ret
    exact ⟨rfl, hb⟩
  have d1 : decide (500 < (t.size : Int)) = false := by simp; omega
  by_cases h2 : g.size = 64
  · have d2 : ((g.size : Int) == 64) = true := by simp; omega
    go_enter Tryd.func3, Tryd.ntmps3
    go_wp2_with fail
    refine (HA.out w HP.out).mono ?_
    rintro e W1 ⟨rfl, bk⟩
    replace hb := hb.trans (bk.mono hb.size)
    replace HP := Lib.hid (HP.out.step bk)
    clear bk
    go_wp2_with fail
    go_ret
    exact ⟨rfl, hb⟩
  have d2 : ((g.size : Int) == 64) = false := by simp; omega
  have C1 := Lib.hid (C.pub s)
  have C2 := Lib.hid (fun W hW => C.sgn s t W (by omega) hW)
  by_cases h3 : s.size = 32
  · have d3 : ((s.size : Int) != 32) = false := by simp; omega
    obtain ⟨z1, z2⟩ := sgnT_second s t
    have z3 := pubT_size s
    rw [show pubX s = pubT s from if_pos h3, show seedE s = 0 from if_pos h3] at C1
    rw [show sgnX s t = sgnT s t from if_pos h3, show seedE s = 0 from if_pos h3] at C2
    have C3 := Lib.hid (fun W hW => C.ver (pubT s) t g W (by omega) hW)
    have hv := verE_bad (pubT s) t g h2
    have CR := Lib.hid (fun W (hW : SgnQ W) => right_any ((sgnT s t).extract 32 (sgnT s t).size) W hW.2.2.2)
    rw [z2] at CR
    generalize verE (pubT s) t g = v at *
    generalize sgnT s t = sg at *
    generalize pubT s = pb at *
    have y1 : ((pb.size : Int) == 32) = true := by rw [z3]; rfl
    have y2 : ((sg.size : Int) == 64) = true := by rw [z1]; rfl
    have y3 : (32 : Int) ≤ (sg.size : Int) := by omega
    have x1 : (sg.toList == sg.toList) = true := by simp
    clear z1 z2 z3 h h2 h3
    rcases hv with rfl | rfl
    · go_enter Tryd.func3, Tryd.ntmps3
      go_wp2_with fail
      refine (C1.out w HP.out).mono ?_
      rintro e W1 ⟨rfl, bk⟩
      replace hb := hb.trans (bk.mono hb.size)
      replace HP := Lib.hid (HP.out.step bk)
      clear bk
      go_wp2_with fail
      refine (C2.out W1 HP.out).mono ?_
      rintro e W2 ⟨rfl, bk⟩
      replace hb := hb.trans (bk.mono hb.size)
      replace HP := Lib.hid (HP.out.step bk)
      clear bk
      go_wp2_with fail
      refine (C2.out W2 HP.out).mono ?_
      rintro e W3 ⟨rfl, bk⟩
      replace hb := hb.trans (bk.mono hb.size)
      replace HP := Lib.hid (HP.out.step bk)
      clear bk
      go_wp2_with fail
      refine (C3.out W3 HP.out).mono ?_
      rintro e W4 ⟨rfl, bk⟩
      replace hb := hb.trans (bk.mono hb.size)
      replace HP := Lib.hid (HP.out.step bk)
      clear bk
      go_wp2_with fail
      refine (CR.out W4 HP.out).mono ?_
      rintro e W5 ⟨rfl, bk⟩
      replace hb := hb.trans (bk.mono hb.size)
      replace HP := Lib.hid (HP.out.step bk)
      clear bk
      go_wp2_with fail
      refine (HA.out W5 HP.out).mono ?_
      rintro e W6 ⟨rfl, bk⟩
      replace hb := hb.trans (bk.mono hb.size)
      replace HP := Lib.hid (HP.out.step bk)
      clear bk
      go_wp2_with fail
      go_ret
      exact ⟨rfl, hb⟩
    · go_enter Tryd.func3, Tryd.ntmps3
      go_wp2_with fail
      refine (C1.out w HP.out).mono ?_
      rintro e W1 ⟨rfl, bk⟩
      replace hb := hb.trans (bk.mono hb.size)
      replace HP := Lib.hid (HP.out.step bk)
      clear bk
      go_wp2_with fail
      refine (C2.out W1 HP.out).mono ?_
      rintro e W2 ⟨rfl, bk⟩
      replace hb := hb.trans (bk.mono hb.size)
      replace HP := Lib.hid (HP.out.step bk)
      clear bk
      go_wp2_with fail
      refine (C2.out W2 HP.out).mono ?_
      rintro e W3 ⟨rfl, bk⟩
      replace hb := hb.trans (bk.mono hb.size)
      replace HP := Lib.hid (HP.out.step bk)
      clear bk
      go_wp2_with fail
      refine (C3.out W3 HP.out).mono ?_
      rintro e W4 ⟨rfl, bk⟩
      replace hb := hb.trans (bk.mono hb.size)
      replace HP := Lib.hid (HP.out.step bk)
      clear bk
      go_wp2_with fail
      refine (CR.out W4 HP.out).mono ?_
      rintro e W5 ⟨rfl, bk⟩
      replace hb := hb.trans (bk.mono hb.size)
      replace HP := Lib.hid (HP.out.step bk)
      clear bk
      go_wp2_with fail
      refine (HA.out W5 HP.out).mono ?_
      rintro e W6 ⟨rfl, bk⟩
      replace hb := hb.trans (bk.mono hb.size)
      replace HP := Lib.hid (HP.out.step bk)
      clear bk
      go_wp2_with fail
      go_ret
      exact ⟨rfl, hb⟩
  · have d3 : ((s.size : Int) != 32) = true := by simp; omega
    rw [show pubX s = ⟨#[]⟩ from if_neg h3, show seedE s = 21 from if_neg h3] at C1
    rw [show sgnX s t = ⟨#[]⟩ from if_neg h3, show seedE s = 21 from if_neg h3] at C2
    clear h h2 h3
    go_enter Tryd.func3, Tryd.ntmps3
    go_wp2_with fail
    refine (C1.out w HP.out).mono ?_
    rintro e W1 ⟨rfl, bk⟩
    replace hb := hb.trans (bk.mono hb.size)
    replace HP := Lib.hid (HP.out.step bk)
    clear bk
    go_wp2_with fail
    refine (C2.out W1 HP.out).mono ?_
    rintro e W2 ⟨rfl, bk⟩
    replace hb := hb.trans (bk.mono hb.size)
    replace HP := Lib.hid (HP.out.step bk)
    clear bk
    go_wp2_with fail
    refine (C2.out W2 HP.out).mono ?_
    rintro e W3 ⟨rfl, bk⟩
    replace hb := hb.trans (bk.mono hb.size)
    replace HP := Lib.hid (HP.out.step bk)
    clear bk
    go_wp2_with fail
    refine (HA.out W3 HP.out).mono ?_
    rintro e W4 ⟨rfl, bk⟩
    replace hb := hb.trans (bk.mono hb.size)
    replace HP := Lib.hid (HP.out.step bk)
    clear bk
    go_wp2_with fail
    go_ret
    exact ⟨rfl, hb⟩
end Go.Proofs.YtcpnenjmbajbeaaDoor
