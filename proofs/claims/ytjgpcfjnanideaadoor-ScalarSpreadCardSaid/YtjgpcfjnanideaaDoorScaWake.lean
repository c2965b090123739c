/- The chapter's examples. -/
import Derived.Test.YtjgpcfjnanideaaDoorScaTop
import Derived.Test.YtjgpcfjnanideaaDoorScaSmall
namespace Go.Proofs.YtjgpcfjnanideaaDoor
open Go.RowKit Go.Sort
set_option maxRecDepth 100000
set_option linter.unusedSimpArgs false
set_option linter.unusedVariables false

theorem nV_app : ∀ a b : List UInt8, nV (a ++ b) = nV a + 256 ^ a.length * nV b
  | [], b => by simp [nV]
  | x :: a, b => by
    rw [List.cons_append, nV, nV_app a b, nV, List.length_cons, Nat.pow_succ, Nat.mul_add, Nat.mul_comm (256 ^ a.length) 256, Nat.mul_assoc]
    omega
theorem nV_txt (x : Nat) (h : x < 256 ^ 32) : nV (txtN x).data.toList = x := by rw [txtN_list, nV_leF, Nat.mod_eq_of_lt h]
/-- Behind 32 bytes as many noughts: the same number. -/
theorem wide_join (s : ByteArray) (h : s.size = 32) : wideX (s ++ txtN 0) = txtN (nV s.data.toList % lF) ∧ wideE (s ++ txtN 0) = 0 := by
  have hs : (s ++ txtN 0).size = 64 := by rw [ByteArray.size_append, h, txtN_size]
  rw [wideX, wideE, if_pos hs, if_pos hs, ByteArray.data_append, Array.toList_append, nV_app, nV_txt 0 (by decide), Nat.mul_zero, Nat.add_zero]
  exact ⟨rfl, rfl⟩
def ordT : ByteArray := ⟨#[237, 211, 245, 92, 26, 99, 18, 88, 214, 156, 247, 162, 222, 249, 222, 20, 0, 0, 0, 0, 0, 0, 0, 0, 0, 0, 0, 0, 0, 0, 0, 16]⟩
theorem ordT_eq : ordT = txtN lF := by decide +kernel
theorem order10_any (w : World) : Calls Tryd.prog 23 #[] w fun e w' => e = .returned (.string (txtN lF)) ∧ w' = w := by
  have h : Hid (txtN lF = ordT) := Lib.hid ordT_eq.symm
  go_enter Tryd.func23, Tryd.ntmps23
  go_wp2_with fail
  go_ret
  exact ⟨by rw [h.out]; rfl, rfl⟩
theorem ma_of (a b c : ByteArray) (ha : a.size = 32) (hb : b.size = 32) (hc : c.size = 32) : maX a b c = txtN ((nV a.data.toList * nV b.data.toList + nV c.data.toList) % lF) ∧ maE a b c = 0 := by
  rw [maX, maE, if_pos ⟨ha, hb, hc⟩, if_pos ⟨ha, hb, hc⟩]
  exact ⟨rfl, rfl⟩
theorem ex_two : maX (txtN 1) (txtN 1) (txtN 1) = txtN 2 ∧ maE (txtN 1) (txtN 1) (txtN 1) = 0 := by
  have h := ma_of (txtN 1) (txtN 1) (txtN 1) (txtN_size 1) (txtN_size 1) (txtN_size 1)
  rw [nV_txt 1 (by decide)] at h
  rw [h.1, h.2]
  exact ⟨by decide +kernel, rfl⟩
theorem ex_wide : wideX (txtN lF ++ txtN 0) = txtN 0 ∧ wideE (txtN lF ++ txtN 0) = 0 := by
  have h := wide_join (txtN lF) (txtN_size lF)
  rw [nV_txt lF lF_256, Nat.mod_self] at h
  exact h
theorem ok_txt (x : Nat) (h : x < 256 ^ 32) : okR (txtN x) = decide (x < lF) := by rw [okR, nV_txt x h, txtN_size]; simp
theorem same_txt (s : ByteArray) : (s.toList == s.toList) = true := by simp

set_option maxHeartbeats 4000000 in
theorem scawake_any (w : World) (hT : OrdQ w) :
    Calls Tryd.prog 11 #[] w fun e w' => e = .returned (.bool true) ∧ Below w.heap.size w w' := by
  have HP := Lib.hid hT
  have hb := Below.refl w.heap.size w
  have S0 := Lib.hid (fun W => small10_any 0 W (by decide))
  have S1 := Lib.hid (fun W => small10_any 1 W (by decide))
  have S2 := Lib.hid (fun W => small10_any 2 W (by decide))
  have S9 := Lib.hid (fun W => small10_any 9 W (by decide))
  have CO := Lib.hid (fun W => order10_any W)
  have CM := Lib.hid (fun W hW => mulAdd_any (txtN 1) (txtN 1) (txtN 1) W hW)
  have CW := Lib.hid (fun W hW => wide_any (txtN lF ++ txtN 0) W hW)
  have CR := Lib.hid (fun W hW => right_any (txtN lF) W hW)
  have C9 := Lib.hid (fun W hW => right_any (txtN 9) W hW)
  rw [ex_two.1, ex_two.2] at CM
  rw [ex_wide.1, ex_wide.2] at CW
  rw [ok_txt lF lF_256, decide_eq_false (Nat.lt_irrefl _)] at CR
  rw [ok_txt 9 (by decide), decide_eq_true (show 9 < lF by decide)] at C9
  have z0 := txtN_size 0; have zo := txtN_size lF
  generalize txtN 0 = t0 at *
  generalize txtN 1 = t1 at *
  generalize txtN 2 = t2 at *
  generalize txtN 9 = t9 at *
  generalize txtN lF = to at *
  generalize hw : to ++ t0 = tw at *
  have e0 := same_txt t0; have e2 := same_txt t2
  clear hT
  go_enter Tryd.func11, Tryd.ntmps11
  go_wp2_with fail
  refine (S1.out w).mono ?_
  rintro e W1 ⟨rfl, bk⟩
  replace hb := hb.trans (bk.mono hb.size)
  replace HP := Lib.hid (HP.out.step bk)
  clear bk
  go_wp2_with fail
  refine (S1.out W1).mono ?_
  rintro e W2 ⟨rfl, bk⟩
  replace hb := hb.trans (bk.mono hb.size)
  replace HP := Lib.hid (HP.out.step bk)
  clear bk
  go_wp2_with fail
  refine (S1.out W2).mono ?_
  rintro e W3 ⟨rfl, bk⟩
  replace hb := hb.trans (bk.mono hb.size)
  replace HP := Lib.hid (HP.out.step bk)
  clear bk
  go_wp2_with fail
  refine (CM.out W3 HP.out).mono ?_
  rintro e W4 ⟨rfl, bk⟩
  replace hb := hb.trans (bk.mono hb.size)
  replace HP := Lib.hid (HP.out.step bk)
  clear bk
  go_wp2_with fail
  refine (CO.out W4).mono ?_
  rintro e W5 ⟨rfl, rfl⟩
  go_wp2_with fail
  refine (S0.out W5).mono ?_
  rintro e W6 ⟨rfl, bk⟩
  replace hb := hb.trans (bk.mono hb.size)
  replace HP := Lib.hid (HP.out.step bk)
  clear bk
  go_wp2_with fail
  refine (CW.out W6 HP.out).mono ?_
  rintro e W7 ⟨rfl, bk⟩
  replace hb := hb.trans (bk.mono hb.size)
  replace HP := Lib.hid (HP.out.step bk)
  clear bk
  go_wp2_with fail
  refine (S2.out W7).mono ?_
  rintro e W8 ⟨rfl, bk⟩
  replace hb := hb.trans (bk.mono hb.size)
  replace HP := Lib.hid (HP.out.step bk)
  clear bk
  go_wp2_with fail
  refine (S0.out W8).mono ?_
  rintro e W9 ⟨rfl, bk⟩
  replace hb := hb.trans (bk.mono hb.size)
  replace HP := Lib.hid (HP.out.step bk)
  clear bk
  go_wp2_with fail
  refine (CO.out W9).mono ?_
  rintro e W10 ⟨rfl, rfl⟩
  go_wp2_with fail
  refine (CR.out W10 HP.out).mono ?_
  rintro e W11 ⟨rfl, bk⟩
  replace hb := hb.trans (bk.mono hb.size)
  replace HP := Lib.hid (HP.out.step bk)
  clear bk
  go_wp2_with fail
  refine (S9.out W11).mono ?_
  rintro e W12 ⟨rfl, bk⟩
  replace hb := hb.trans (bk.mono hb.size)
  replace HP := Lib.hid (HP.out.step bk)
  clear bk
  go_wp2_with fail
  refine (C9.out W12 HP.out).mono ?_
  rintro e W13 ⟨rfl, bk⟩
  replace hb := hb.trans (bk.mono hb.size)
  replace HP := Lib.hid (HP.out.step bk)
  clear bk
  go_wp2_with fail
  go_ret
  exact ⟨rfl, hb⟩
end Go.Proofs.YtjgpcfjnanideaaDoor
