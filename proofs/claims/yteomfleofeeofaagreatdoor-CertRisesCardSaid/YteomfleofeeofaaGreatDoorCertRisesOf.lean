/- CertRises over whatever the program's calls are. -/
import Derived.Test.YteomfleofeeofaaGreatDoorCtL
namespace Go.Proofs.YteomfleofeeofaaGreatDoor
section
open Go.RowKit Go.Sort
set_option maxRecDepth 100000
set_option linter.unusedSimpArgs false
set_option linter.unusedVariables false

set_option maxHeartbeats 16000000 in
theorem certRises_of {Q : World → Prop} (C : TmCalls Q) (m : Int) (g0 : -9223372036854775808 ≤ m) (g1 : m ≤ 9223372036854775807) (n : Int) (h0 : -9223372036854775808 ≤ n) (h1 : n ≤ 9223372036854775807) (w : World) (hQ : Q w) :
    Calls Tryz.prog 8 #[.int .i64 m, .int .i64 n] w fun e w' => e = .returned (.bool true) ∧ Below w.heap.size w w' := by
  have HC := Lib.hid C
  have HQ := Lib.hid hQ
  have HA := Lib.hid (fun W hW => ctwake_of C W hW)
  have hb := Below.refl w.heap.size w
  clear hQ
  have C1 := Lib.hid (fun W hW => C.time m W g0 g1 hW)
  have C2 := Lib.hid (fun W hW => C.time n W h0 h1 hW)
  clear g0 g1 h0 h1 C
  by_cases hm : isTm m = true
  · have em : timE m = 0 := if_pos hm
    have xm : timX m = timB m.toNat := if_pos hm
    rw [em, xm] at C1
    by_cases hn : isTm n = true
    · have en : timE n = 0 := if_pos hn
      have xn : timX n = timB n.toNat := if_pos hn
      rw [en, xn] at C2
      obtain ⟨m0, m1⟩ := (isTm_iff m).1 hm
      obtain ⟨n0, n1⟩ := (isTm_iff n).1 hn
      have y1 : (timB m.toNat).size = 15 := timB_size _
      have y2 : (timB n.toNat).size = 15 := timB_size _
      have z1 : (((timB m.toNat).size : Int) == 15) = true := by rw [y1]; rfl
      have z2 : (((timB n.toNat).size : Int) == 15) = true := by rw [y2]; rfl
      have l1 := timB_less m.toNat n.toNat (by omega) (by omega)
      have l2 : decide (m.toNat < n.toNat) = decide (m < n) := by rw [Bool.eq_iff_iff, decide_eq_true_eq, decide_eq_true_eq]; omega
      rw [l2] at l1
      have q1 : ((timB m.toNat).toList == (timB n.toNat).toList) = (m == n) := by
        rw [str_eq, Bool.eq_iff_iff, decide_eq_true_eq, beq_iff_eq]
        exact ⟨fun h => by have := timB_inj _ _ (by omega) (by omega) h; omega, fun h => by rw [h]⟩
      rw [← Lib.toList_data, ← Lib.toList_data] at l1
      clear em xm en xn hm hn m0 m1 n0 n1 y1 y2 l2
      generalize timB m.toNat = tm at *
      generalize timB n.toNat = tn at *
      obtain ⟨lb, hlb⟩ : ∃ b, decide (m < n) = b := ⟨_, rfl⟩
      obtain ⟨eb, heb⟩ : ∃ b, (m == n) = b := ⟨_, rfl⟩
      rw [hlb] at l1
      rw [heb] at q1
      have u1 : (lb == lb) = true := by simp
      have u2 : (eb == eb) = true := by simp
      go_enter Tryz.func8, Tryz.ntmps8
      go_wp2_with fail
      refine (C1.out _ HQ.out).mono ?_
      rintro ee W1 ⟨rfl, bk⟩
      replace HQ := Lib.hid (HC.out.step _ _ HQ.out bk)
      replace hb := hb.trans (bk.mono hb.size)
      clear bk
      go_wp2_with fail
      refine (C2.out _ HQ.out).mono ?_
      rintro ee W2 ⟨rfl, bk⟩
      replace HQ := Lib.hid (HC.out.step _ _ HQ.out bk)
      replace hb := hb.trans (bk.mono hb.size)
      clear bk
      go_wp2_with fail
      refine (HA.out _ HQ.out).mono ?_
      rintro ee W3 ⟨rfl, bk⟩
      replace HQ := Lib.hid (HC.out.step _ _ HQ.out bk)
      replace hb := hb.trans (bk.mono hb.size)
      clear bk
      go_wp2_with fail
      go_ret
      exact ⟨rfl, hb⟩
    · have en : timE n = 1 := if_neg hn
      have xn : timX n = ⟨#[]⟩ := if_neg hn
      rw [en, xn] at C2
      clear em xm en xn hm hn
      generalize timB m.toNat = tm at *
      go_enter Tryz.func8, Tryz.ntmps8
      go_wp2_with fail
      refine (C1.out _ HQ.out).mono ?_
      rintro ee W1 ⟨rfl, bk⟩
      replace HQ := Lib.hid (HC.out.step _ _ HQ.out bk)
      replace hb := hb.trans (bk.mono hb.size)
      clear bk
      go_wp2_with fail
      refine (C2.out _ HQ.out).mono ?_
      rintro ee W2 ⟨rfl, bk⟩
      replace HQ := Lib.hid (HC.out.step _ _ HQ.out bk)
      replace hb := hb.trans (bk.mono hb.size)
      clear bk
      go_wp2_with fail
      refine (HA.out _ HQ.out).mono ?_
      rintro ee W3 ⟨rfl, bk⟩
      replace HQ := Lib.hid (HC.out.step _ _ HQ.out bk)
      replace hb := hb.trans (bk.mono hb.size)
      clear bk
      go_wp2_with fail
      go_ret
      exact ⟨rfl, hb⟩
  · have em : timE m = 1 := if_neg hm
    have xm : timX m = ⟨#[]⟩ := if_neg hm
    rw [em, xm] at C1
    by_cases hn : isTm n = true
    · have en : timE n = 0 := if_pos hn
      rw [en] at C2
      clear em xm en hm hn
      generalize timX n = tn at *
      go_enter Tryz.func8, Tryz.ntmps8
      go_wp2_with fail
      refine (C1.out _ HQ.out).mono ?_
      rintro ee W1 ⟨rfl, bk⟩
      replace HQ := Lib.hid (HC.out.step _ _ HQ.out bk)
      replace hb := hb.trans (bk.mono hb.size)
      clear bk
      go_wp2_with fail
      refine (C2.out _ HQ.out).mono ?_
      rintro ee W2 ⟨rfl, bk⟩
      replace HQ := Lib.hid (HC.out.step _ _ HQ.out bk)
      replace hb := hb.trans (bk.mono hb.size)
      clear bk
      go_wp2_with fail
      refine (HA.out _ HQ.out).mono ?_
      rintro ee W3 ⟨rfl, bk⟩
      replace HQ := Lib.hid (HC.out.step _ _ HQ.out bk)
      replace hb := hb.trans (bk.mono hb.size)
      clear bk
      go_wp2_with fail
      go_ret
      exact ⟨rfl, hb⟩
    · have en : timE n = 1 := if_neg hn
      have xn : timX n = ⟨#[]⟩ := if_neg hn
      rw [en, xn] at C2
      clear em xm en xn hm hn
      go_enter Tryz.func8, Tryz.ntmps8
      go_wp2_with fail
      refine (C1.out _ HQ.out).mono ?_
      rintro ee W1 ⟨rfl, bk⟩
      replace HQ := Lib.hid (HC.out.step _ _ HQ.out bk)
      replace hb := hb.trans (bk.mono hb.size)
      clear bk
      go_wp2_with fail
      refine (C2.out _ HQ.out).mono ?_
      rintro ee W2 ⟨rfl, bk⟩
      replace HQ := Lib.hid (HC.out.step _ _ HQ.out bk)
      replace hb := hb.trans (bk.mono hb.size)
      clear bk
      go_wp2_with fail
      refine (HA.out _ HQ.out).mono ?_
      rintro ee W3 ⟨rfl, bk⟩
      replace HQ := Lib.hid (HC.out.step _ _ HQ.out bk)
      replace hb := hb.trans (bk.mono hb.size)
      clear bk
      go_wp2_with fail
      go_ret
      exact ⟨rfl, hb⟩
end
end Go.Proofs.YteomfleofeeofaaGreatDoor
