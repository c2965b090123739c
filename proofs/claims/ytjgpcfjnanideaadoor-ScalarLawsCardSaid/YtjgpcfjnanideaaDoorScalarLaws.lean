/- ScalarLaws: for every three texts of 32 bytes: what MulAdd and Wide answer is Right; a product goes in any order; a number once is it, and as it is where it is below the order; texts of another size are passed over; the chapter's examples hold. No condition; the order of package scalar lies as the program's text lays it. -/
import Derived.Test.YtjgpcfjnanideaaDoorCards
import Derived.Test.YtjgpcfjnanideaaDoorTie
import Derived.SevenTiedAt
import Derived.Test.YtjgpcfjnanideaaDoorScaLaid
import Derived.Test.YtjgpcfjnanideaaDoorScaWake
namespace Go.Proofs.YtjgpcfjnanideaaDoor
open Go.ChangeShapes Go.WideShapes Go.ChangeAt Go.WideMaps Go.WideElems Go.RowKit
open Go.ChangeMaps (open_string shut_string)
set_option maxRecDepth 100000
set_option linter.unusedSimpArgs false
set_option linter.unusedVariables false

set_option maxHeartbeats 4000000 in
theorem scalarLaws_any (a : ByteArray) (b : ByteArray) (c : ByteArray) (w : World) (_ : a.size ≤ maxLen) (_ : b.size ≤ maxLen) (_ : c.size ≤ maxLen) (hT : OrdQ w) :
    Calls Tryd.prog 6 #[.string a, .string b, .string c] w fun e w' => e = .returned (.bool true) ∧ Below w.heap.size w w' := by
  by_cases ha : a.size ≠ 32
  · have d0 : ((a.size : Int) != 32) = true := by simp; omega
    clear ha
    have HA := Lib.hid (fun W hW => scawake_any W hW)
    have HP := Lib.hid hT
    have hb := Below.refl w.heap.size w
    clear hT
    go_enter Tryd.func6, Tryd.ntmps6
    go_wp2_with fail
    refine (HA.out w HP.out).mono ?_
    rintro e W1 ⟨rfl, bk⟩
    replace hb := hb.trans (bk.mono hb.size)
    replace HP := Lib.hid (HP.out.step bk)
    clear bk
    go_wp2_with fail
    go_ret
    exact ⟨rfl, hb⟩
  replace ha : a.size = 32 := Classical.not_not.1 ha
  by_cases hb0 : b.size ≠ 32
  · have d0 : ((a.size : Int) != 32) = false := by simp; omega
    have d1 : ((b.size : Int) != 32) = true := by simp; omega
    clear ha hb0
    have HA := Lib.hid (fun W hW => scawake_any W hW)
    have HP := Lib.hid hT
    have hb := Below.refl w.heap.size w
    clear hT
    go_enter Tryd.func6, Tryd.ntmps6
    go_wp2_with fail
    refine (HA.out w HP.out).mono ?_
    rintro e W1 ⟨rfl, bk⟩
    replace hb := hb.trans (bk.mono hb.size)
    replace HP := Lib.hid (HP.out.step bk)
    clear bk
    go_wp2_with fail
    go_ret
    exact ⟨rfl, hb⟩
  replace hb0 : b.size = 32 := Classical.not_not.1 hb0
  by_cases hc : c.size ≠ 32
  · have d0 : ((a.size : Int) != 32) = false := by simp; omega
    have d1 : ((b.size : Int) != 32) = false := by simp; omega
    have d2 : ((c.size : Int) != 32) = true := by simp; omega
    clear ha hb0 hc
    have HA := Lib.hid (fun W hW => scawake_any W hW)
    have HP := Lib.hid hT
    have hb := Below.refl w.heap.size w
    clear hT
    go_enter Tryd.func6, Tryd.ntmps6
    go_wp2_with fail
    refine (HA.out w HP.out).mono ?_
    rintro e W1 ⟨rfl, bk⟩
    replace hb := hb.trans (bk.mono hb.size)
    replace HP := Lib.hid (HP.out.step bk)
    clear bk
    go_wp2_with fail
    go_ret
    exact ⟨rfl, hb⟩
  replace hc : c.size = 32 := Classical.not_not.1 hc
  have d0 : ((a.size : Int) != 32) = false := by simp; omega
  have d1 : ((b.size : Int) != 32) = false := by simp; omega
  have d2 : ((c.size : Int) != 32) = false := by simp; omega
  have S0 := Lib.hid (fun W => small10_any 0 W (by decide))
  have S1 := Lib.hid (fun W => small10_any 1 W (by decide))
  have hX : (nV a.data.toList * nV b.data.toList + nV c.data.toList) % lF < lF := Nat.mod_lt _ lF_pos
  have m1 := ma_of a b c ha hb0 hc
  have m2 := ma_of b a c hb0 ha hc
  rw [Nat.mul_comm (nV b.data.toList)] at m2
  have m3 := ma_of (txtN 1) (txtN ((nV a.data.toList * nV b.data.toList + nV c.data.toList) % lF)) (txtN 0) (txtN_size _) (txtN_size _) (txtN_size _)
  rw [nV_txt 1 (by decide), nV_txt 0 (by decide), nV_txt _ (Nat.lt_trans hX lF_256), Nat.one_mul, Nat.add_zero, Nat.mod_mod] at m3
  have m4 := wide_join a ha
  have m5 := ma_of a (txtN 1) (txtN 0) ha (txtN_size _) (txtN_size _)
  rw [nV_txt 1 (by decide), nV_txt 0 (by decide), Nat.mul_one, Nat.add_zero] at m5
  have hA : nV a.data.toList % lF < lF := Nat.mod_lt _ lF_pos
  have r1 := ok_txt _ (Nat.lt_trans hX lF_256)
  rw [decide_eq_true hX] at r1
  have r2 := ok_txt _ (Nat.lt_trans hA lF_256)
  rw [decide_eq_true hA] at r2
  have r3 : ((txtN (nV a.data.toList % lF)).toList == a.toList) = okR a := by
    rw [Lib.toList_data, Lib.toList_data, txtN_list, right_same _ (by rw [← Lib.size_eq]; exact ha), okR, ha]
    simp
  have C1 := Lib.hid (fun W hW => mulAdd_any a b c W hW)
  have C2 := Lib.hid (fun W hW => mulAdd_any b a c W hW)
  have C3 := Lib.hid (fun W hW => mulAdd_any (txtN 1) (txtN ((nV a.data.toList * nV b.data.toList + nV c.data.toList) % lF)) (txtN 0) W hW)
  have C4 := Lib.hid (fun W hW => wide_any (a ++ txtN 0) W hW)
  have C5 := Lib.hid (fun W hW => mulAdd_any a (txtN 1) (txtN 0) W hW)
  have C6 := Lib.hid (fun W hW => right_any (txtN ((nV a.data.toList * nV b.data.toList + nV c.data.toList) % lF)) W hW)
  have C7 := Lib.hid (fun W hW => right_any (txtN (nV a.data.toList % lF)) W hW)
  have C8 := Lib.hid (fun W hW => right_any a W hW)
  rw [m1.1, m1.2] at C1
  rw [m2.1, m2.2] at C2
  rw [m3.1, m3.2] at C3
  rw [m4.1, m4.2] at C4
  rw [m5.1, m5.2] at C5
  rw [r1] at C6
  rw [r2] at C7
  have z0 := txtN_size 0
  clear m1 m2 m3 m4 m5 r1 r2 hX hA hb0 hc
  generalize txtN ((nV a.data.toList * nV b.data.toList + nV c.data.toList) % lF) = x at *
  generalize txtN (nV a.data.toList % lF) = v at *
  generalize txtN 0 = t0 at *
  generalize txtN 1 = t1 at *
  generalize okR a = q at *
  have ex := same_txt x; have ev := same_txt v; have eq : (q == q) = true := by simp
  generalize hat : a ++ t0 = at0 at *
  have HA := Lib.hid (fun W hW => scawake_any W hW)
  have HP := Lib.hid hT
  have hb := Below.refl w.heap.size w
  clear hT
  go_enter Tryd.func6, Tryd.ntmps6
  go_wp2_with fail
  refine (C1.out w HP.out).mono ?_
  rintro e W1 ⟨rfl, bk⟩
  replace hb := hb.trans (bk.mono hb.size)
  replace HP := Lib.hid (HP.out.step bk)
  clear bk
  go_wp2_with fail
  refine (C2.out W1 HP.out).mono ?_
  rintro e W2 ⟨rfl, bk⟩
  replace hb := hb.trans (bk.mono hb.size)
  replace HP := Lib.hid (HP.out.step bk)
  clear bk
  go_wp2_with fail
  refine (S1.out W2).mono ?_
  rintro e W3 ⟨rfl, bk⟩
  replace hb := hb.trans (bk.mono hb.size)
  replace HP := Lib.hid (HP.out.step bk)
  clear bk
  go_wp2_with fail
  refine (S0.out W3).mono ?_
  rintro e W4 ⟨rfl, bk⟩
  replace hb := hb.trans (bk.mono hb.size)
  replace HP := Lib.hid (HP.out.step bk)
  clear bk
  go_wp2_with fail
  refine (C3.out W4 HP.out).mono ?_
  rintro e W5 ⟨rfl, bk⟩
  replace hb := hb.trans (bk.mono hb.size)
  replace HP := Lib.hid (HP.out.step bk)
  clear bk
  go_wp2_with fail
  refine (S0.out W5).mono ?_
  rintro e W6 ⟨rfl, bk⟩
  replace hb := hb.trans (bk.mono hb.size)
  replace HP := Lib.hid (HP.out.step bk)
  clear bk
  go_wp2_with fail
  refine (C4.out W6 HP.out).mono ?_
  rintro e W7 ⟨rfl, bk⟩
  replace hb := hb.trans (bk.mono hb.size)
  replace HP := Lib.hid (HP.out.step bk)
  clear bk
  go_wp2_with fail
  refine (S1.out W7).mono ?_
  rintro e W8 ⟨rfl, bk⟩
  replace hb := hb.trans (bk.mono hb.size)
  replace HP := Lib.hid (HP.out.step bk)
  clear bk
  go_wp2_with fail
  refine (S0.out W8).mono ?_
  rintro e W9 ⟨rfl, bk⟩
  replace hb := hb.trans (bk.mono hb.size)
  replace HP := Lib.hid (HP.out.step bk)
  clear bk
  go_wp2_with fail
  refine (C5.out W9 HP.out).mono ?_
  rintro e W10 ⟨rfl, bk⟩
  replace hb := hb.trans (bk.mono hb.size)
  replace HP := Lib.hid (HP.out.step bk)
  clear bk
  go_wp2_with fail
  refine (C6.out W10 HP.out).mono ?_
  rintro e W11 ⟨rfl, bk⟩
  replace hb := hb.trans (bk.mono hb.size)
  replace HP := Lib.hid (HP.out.step bk)
  clear bk
  go_wp2_with fail
  refine (C7.out W11 HP.out).mono ?_
  rintro e W12 ⟨rfl, bk⟩
  replace hb := hb.trans (bk.mono hb.size)
  replace HP := Lib.hid (HP.out.step bk)
  clear bk
  go_wp2_with fail
  refine (C8.out W12 HP.out).mono ?_
  rintro e W13 ⟨rfl, bk⟩
  replace hb := hb.trans (bk.mono hb.size)
  replace HP := Lib.hid (HP.out.step bk)
  clear bk
  go_wp2_with fail
  refine (HA.out W13 HP.out).mono ?_
  rintro e W14 ⟨rfl, bk⟩
  replace hb := hb.trans (bk.mono hb.size)
  replace HP := Lib.hid (HP.out.step bk)
  clear bk
  go_wp2_with fail
  go_ret
  exact ⟨rfl, hb⟩

theorem scalarLaws_lifted (os : Os) (started : os.Started) (H : Type) (enc : TypeId × Value → H) :
    ReturnsInHanded {} Tryd.checked os 6 .any (fun w args => (Rows.scalarLawsSpec.pre enc Tryd.prog Tryd.f6 [] false w args ∧ laidMetH Tryd.prog laid1 w) ∧ sizedMet enc Tryd.prog Tryd.f6 (OpenSpec.ofChange Rows.scalarLawsSpec) false w args)
      (Rows.scalarLawsSpec.post enc Tryd.prog Tryd.f6 false true false false) := by
  refine returnsInHanded_of_change_and (C := Tryd.checked) (X := fun w _ => laidMetH Tryd.prog laid1 w) (fun _ _ _ hh h => h.of_heap hh) own1 started (by kernel_rfl) Tryd.func6
    (ChangeSpec.witness_shaped (enc := enc) (C := Tryd.checked) (os := os) (X := fun w _ => laidMetH Tryd.prog laid1 w) false (World.doorLaid Tryd.prog 400 os) #[.string ⟨#[]⟩, .string ⟨#[]⟩, .string ⟨#[]⟩] 8 rfl (World.shaped_of_RefB (by kernel_rfl) (by kernel_rfl)) (by kernel_rfl) (by kernel_rfl) (by kernel_rfl) (door_met1 os _)) ?_
  intro W base args ds gs before hval0 hW _ _ hL _
  have hval : ∀ (j : Nat) t v, Tryd.f6.params[j]? = some t → args[j]? = some v → Value.okWide Tryd.prog W .any base t v := hval0
  have hW' := hW
  obtain ⟨p, q, hA0, hV, rfl, hfz, hnd⟩ := hW
  have hA : DataW.TrodAll enc Tryd.prog W 0 (fun _ => true) true Tryd.f6.params.toList args.toList ds p := hA0
  rw [Tryd.params6] at hA hval
  obtain ⟨v0, v1, v2, d0, d1, d2, p0, p1, p2, rfl, rfl, rfl, h0, h1, h2⟩ := trodAll_three hA
  obtain ⟨rfl, rfl⟩ := trodVars_none hV
  obtain ⟨s0, rfl, rfl, rfl, w0⟩ := open_string Tryd.underlying9 (hval 0 9 v0 rfl rfl) h0
  obtain ⟨s1, rfl, rfl, rfl, w1⟩ := open_string Tryd.underlying9 (hval 1 9 v1 rfl rfl) h1
  obtain ⟨s2, rfl, rfl, rfl, w2⟩ := open_string Tryd.underlying9 (hval 2 9 v2 rfl rfl) h2
  have hT := of_laid1 hL
  clear hA0 hval0
  simp only [List.append_nil] at hW'
  refine (scalarLaws_any s0 s1 s2 W w0 w1 w2 hT).mono fun e W' ⟨he, hb⟩ => ?_
  subst he
  refine ⟨_, rfl, _, _, _, [], [], [], hW', ?_, ?_, rfl, hb.frame _, fun h => by cases h⟩
  · exact trodAll_mk1 (shut_bool Tryd.underlying4 _)
  · exact trodAll_mk3 (shut_string Tryd.underlying9 w0) (shut_string Tryd.underlying9 w1) (shut_string Tryd.underlying9 w2)

theorem scalarLaws_holds : Rows.ScalarLawsSaid :=
  OpenClaim.holds_of_wide 6 Tryd.f6 rfl rfl rfl rfl rfl rfl rfl ⟨rfl, rfl, rfl, rfl, rfl⟩ rfl rfl rfl rfl rfl (by kernel_rfl) Tryd.func6 (by kernel_rfl)
    (of_decide_eq_true (by kernel_rfl)) (by unfold Func.isWrapper; first | (rw [if_pos (by decide +kernel)]; kernel_rfl) | (rw [if_neg (by decide +kernel)]; exact ⟨rfl, rfl⟩))
    (fun os started H enc _ => scalarLaws_lifted os started H enc)

theorem scalarLaws_card : Rows.ScalarLawsCardSaid :=
  Claim7.holds_tied_plain_at .later [] [.wider] true (true, "d8297783da29cf5dfe9470e6a35883c7b3cef3cd3de2b7bd2120ff54c150f2b4") false
    scalarLaws_holds (fun _ h => by cases h) (by kernel_rfl) (fun _ h => by cases h) scalarLaws_row_tie rfl ⟨rfl, rfl⟩ (by kernel_rfl) rfl
    (fun f fn hf hfn => by
      obtain rfl : f = 6 := Option.some.inj ((show Tryd.prog.funcNamed "cresset/cressetlaw10.ScalarLaws" = some 6 by kernel_rfl).symm.trans hf) |>.symm
      obtain rfl : fn = Tryd.f6 := (Option.some.inj (Tryd.func6.symm.trans hfn)).symm
      exact ⟨by kernel_rfl, fun j t ht => by
        rw [Tryd.params6] at ht
        have hm : t ∈ [9, 9, 9] := by simpa using Array.mem_of_getElem? ht
        have hall : ([9, 9, 9].all fun u => !Tryd.prog.wantsStandIn u) = true := by kernel_rfl
        exact (show Tryd.prog.wantsStandIn t = false by simpa using List.all_eq_true.1 hall t hm)⟩)
    (by kernel_rfl)
#print axioms scalarLaws_card
end Go.Proofs.YtjgpcfjnanideaaDoor
