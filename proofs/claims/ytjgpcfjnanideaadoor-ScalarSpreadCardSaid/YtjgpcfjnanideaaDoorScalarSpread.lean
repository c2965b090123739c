/- ScalarSpread: for every three texts of 32 bytes a product goes over a sum; texts of another size are passed over; the chapter's examples hold. No condition; the order of package scalar lies as the program's text lays it. -/
import Derived.Test.YtjgpcfjnanideaaDoorCards
import Derived.Test.YtjgpcfjnanideaaDoorTie
import Derived.SevenTiedAt
import Derived.Test.YtjgpcfjnanideaaDoorScaLaid
import Derived.Test.YtjgpcfjnanideaaDoorScaWake
namespace Go.Proofs.YtjgpcfjnanideaaDoor
open Go.ChangeShapes Go.WideShapes Go.ChangeAt Go.WideMaps Go.WideElems Go.RowKit
open Go.ChangeMaps (open_string shut_string)
set_option maxRecDepth 100000
set_option linter.unusedSimpArgs false
set_option linter.unusedVariables false

set_option maxHeartbeats 4000000 in
theorem scalarSpread_any (a : ByteArray) (b : ByteArray) (c : ByteArray) (w : World) (_ : a.size ≤ maxLen) (_ : b.size ≤ maxLen) (_ : c.size ≤ maxLen) (hT : OrdQ w) :
    Calls Tryd.prog 7 #[.string a, .string b, .string c] w fun e w' => e = .returned (.bool true) ∧ Below w.heap.size w w' := by
  by_cases ha : a.size ≠ 32
  · have d0 : ((a.size : Int) != 32) = true := by simp; omega
    clear ha
    have HA := Lib.hid (fun W hW => scawake_any W hW)
    have HP := Lib.hid hT
    have hb := Below.refl w.heap.size w
    clear hT
    go_enter Tryd.func7, Tryd.ntmps7
    go_wp2_with fail
    refine (HA.out w HP.out).mono ?_
    rintro e W1 ⟨rfl, bk⟩
    replace hb := hb.trans (bk.mono hb.size)
    replace HP := Lib.hid (HP.out.step bk)
    clear bk
    go_wp2_with fail
    go_ret
    exact ⟨rfl, hb⟩
  replace ha : a.size = 32 := Classical.not_not.1 ha
  by_cases hb0 : b.size ≠ 32
  · have d0 : ((a.size : Int) != 32) = false := by simp; omega
    have d1 : ((b.size : Int) != 32) = true := by simp; omega
    clear ha hb0
    have HA := Lib.hid (fun W hW => scawake_any W hW)
    have HP := Lib.hid hT
    have hb := Below.refl w.heap.size w
    clear hT
    go_enter Tryd.func7, Tryd.ntmps7
    go_wp2_with fail
    refine (HA.out w HP.out).mono ?_
    rintro e W1 ⟨rfl, bk⟩
    replace hb := hb.trans (bk.mono hb.size)
    replace HP := Lib.hid (HP.out.step bk)
    clear bk
    go_wp2_with fail
    go_ret
    exact ⟨rfl, hb⟩
  replace hb0 : b.size = 32 := Classical.not_not.1 hb0
  by_cases hc : c.size ≠ 32
  · have d0 : ((a.size : Int) != 32) = false := by simp; omega
    have d1 : ((b.size : Int) != 32) = false := by simp; omega
    have d2 : ((c.size : Int) != 32) = true := by simp; omega
    clear ha hb0 hc
    have HA := Lib.hid (fun W hW => scawake_any W hW)
    have HP := Lib.hid hT
    have hb := Below.refl w.heap.size w
    clear hT
    go_enter Tryd.func7, Tryd.ntmps7
    go_wp2_with fail
    refine (HA.out w HP.out).mono ?_
    rintro e W1 ⟨rfl, bk⟩
    replace hb := hb.trans (bk.mono hb.size)
    replace HP := Lib.hid (HP.out.step bk)
    clear bk
    go_wp2_with fail
    go_ret
    exact ⟨rfl, hb⟩
  replace hc : c.size = 32 := Classical.not_not.1 hc
  have d0 : ((a.size : Int) != 32) = false := by simp; omega
  have d1 : ((b.size : Int) != 32) = false := by simp; omega
  have d2 : ((c.size : Int) != 32) = false := by simp; omega
  have S0 := Lib.hid (fun W => small10_any 0 W (by decide))
  have S1 := Lib.hid (fun W => small10_any 1 W (by decide))
  have m1 := ma_of b (txtN 1) c hb0 (txtN_size _) hc
  rw [nV_txt 1 (by decide), Nat.mul_one] at m1
  have hS : (nV b.data.toList + nV c.data.toList) % lF < lF := Nat.mod_lt _ lF_pos
  have hC : nV a.data.toList * nV c.data.toList % lF < lF := Nat.mod_lt _ lF_pos
  have m2 := ma_of a (txtN ((nV b.data.toList + nV c.data.toList) % lF)) (txtN 0) ha (txtN_size _) (txtN_size _)
  rw [nV_txt 0 (by decide), nV_txt _ (Nat.lt_trans hS lF_256), Nat.add_zero, Nat.mul_mod_mod, Nat.mul_add] at m2
  have m3 := ma_of a c (txtN 0) ha hc (txtN_size _)
  rw [nV_txt 0 (by decide), Nat.add_zero] at m3
  have m4 := ma_of a b (txtN (nV a.data.toList * nV c.data.toList % lF)) ha hb0 (txtN_size _)
  rw [nV_txt _ (Nat.lt_trans hC lF_256), Nat.add_mod_mod] at m4
  have C1 := Lib.hid (fun W hW => mulAdd_any b (txtN 1) c W hW)
  have C2 := Lib.hid (fun W hW => mulAdd_any a (txtN ((nV b.data.toList + nV c.data.toList) % lF)) (txtN 0) W hW)
  have C3 := Lib.hid (fun W hW => mulAdd_any a c (txtN 0) W hW)
  have C4 := Lib.hid (fun W hW => mulAdd_any a b (txtN (nV a.data.toList * nV c.data.toList % lF)) W hW)
  rw [m1.1, m1.2] at C1
  rw [m2.1, m2.2] at C2
  rw [m3.1, m3.2] at C3
  rw [m4.1, m4.2] at C4
  clear m1 m2 m3 m4 hS hC ha hb0 hc
  generalize txtN ((nV a.data.toList * nV b.data.toList + nV a.data.toList * nV c.data.toList) % lF) = x at *
  generalize txtN ((nV b.data.toList + nV c.data.toList) % lF) = y at *
  generalize txtN (nV a.data.toList * nV c.data.toList % lF) = z at *
  generalize txtN 0 = t0 at *
  generalize txtN 1 = t1 at *
  have ex := same_txt x
  have HA := Lib.hid (fun W hW => scawake_any W hW)
  have HP := Lib.hid hT
  have hb := Below.refl w.heap.size w
  clear hT
  go_enter Tryd.func7, Tryd.ntmps7
  go_wp2_with fail
  refine (S1.out w).mono ?_
  rintro e W1 ⟨rfl, bk⟩
  replace hb := hb.trans (bk.mono hb.size)
  replace HP := Lib.hid (HP.out.step bk)
  clear bk
  go_wp2_with fail
  refine (C1.out W1 HP.out).mono ?_
  rintro e W2 ⟨rfl, bk⟩
  replace hb := hb.trans (bk.mono hb.size)
  replace HP := Lib.hid (HP.out.step bk)
  clear bk
  go_wp2_with fail
  refine (S0.out W2).mono ?_
  rintro e W3 ⟨rfl, bk⟩
  replace hb := hb.trans (bk.mono hb.size)
  replace HP := Lib.hid (HP.out.step bk)
  clear bk
  go_wp2_with fail
  refine (C2.out W3 HP.out).mono ?_
  rintro e W4 ⟨rfl, bk⟩
  replace hb := hb.trans (bk.mono hb.size)
  replace HP := Lib.hid (HP.out.step bk)
  clear bk
  go_wp2_with fail
  refine (S0.out W4).mono ?_
  rintro e W5 ⟨rfl, bk⟩
  replace hb := hb.trans (bk.mono hb.size)
  replace HP := Lib.hid (HP.out.step bk)
  clear bk
  go_wp2_with fail
  refine (C3.out W5 HP.out).mono ?_
  rintro e W6 ⟨rfl, bk⟩
  replace hb := hb.trans (bk.mono hb.size)
  replace HP := Lib.hid (HP.out.step bk)
  clear bk
  go_wp2_with fail
  refine (C4.out W6 HP.out).mono ?_
  rintro e W7 ⟨rfl, bk⟩
  replace hb := hb.trans (bk.mono hb.size)
  replace HP := Lib.hid (HP.out.step bk)
  clear bk
  go_wp2_with fail
  refine (HA.out W7 HP.out).mono ?_
  rintro e W8 ⟨rfl, bk⟩
  replace hb := hb.trans (bk.mono hb.size)
  replace HP := Lib.hid (HP.out.step bk)
  clear bk
  go_wp2_with fail
  go_ret
  exact ⟨rfl, hb⟩

theorem scalarSpread_lifted (os : Os) (started : os.Started) (H : Type) (enc : TypeId × Value → H) :
    ReturnsInHanded {} Tryd.checked os 7 .any (fun w args => (Rows.scalarSpreadSpec.pre enc Tryd.prog Tryd.f7 [] false w args ∧ laidMetH Tryd.prog laid1 w) ∧ sizedMet enc Tryd.prog Tryd.f7 (OpenSpec.ofChange Rows.scalarSpreadSpec) false w args)
      (Rows.scalarSpreadSpec.post enc Tryd.prog Tryd.f7 false true false false) := by
  refine returnsInHanded_of_change_and (C := Tryd.checked) (X := fun w _ => laidMetH Tryd.prog laid1 w) (fun _ _ _ hh h => h.of_heap hh) own1 started (by kernel_rfl) Tryd.func7
    (ChangeSpec.witness_shaped (enc := enc) (C := Tryd.checked) (os := os) (X := fun w _ => laidMetH Tryd.prog laid1 w) false (World.doorLaid Tryd.prog 400 os) #[.string ⟨#[]⟩, .string ⟨#[]⟩, .string ⟨#[]⟩] 8 rfl (World.shaped_of_RefB (by kernel_rfl) (by kernel_rfl)) (by kernel_rfl) (by kernel_rfl) (by kernel_rfl) (door_met1 os _)) ?_
  intro W base args ds gs before hval0 hW _ _ hL _
  have hval : ∀ (j : Nat) t v, Tryd.f7.params[j]? = some t → args[j]? = some v → Value.okWide Tryd.prog W .any base t v := hval0
  have hW' := hW
  obtain ⟨p, q, hA0, hV, rfl, hfz, hnd⟩ := hW
  have hA : DataW.TrodAll enc Tryd.prog W 0 (fun _ => true) true Tryd.f7.params.toList args.toList ds p := hA0
  rw [Tryd.params7] at hA hval
  obtain ⟨v0, v1, v2, d0, d1, d2, p0, p1, p2, rfl, rfl, rfl, h0, h1, h2⟩ := trodAll_three hA
  obtain ⟨rfl, rfl⟩ := trodVars_none hV
  obtain ⟨s0, rfl, rfl, rfl, w0⟩ := open_string Tryd.underlying9 (hval 0 9 v0 rfl rfl) h0
  obtain ⟨s1, rfl, rfl, rfl, w1⟩ := open_string Tryd.underlying9 (hval 1 9 v1 rfl rfl) h1
  obtain ⟨s2, rfl, rfl, rfl, w2⟩ := open_string Tryd.underlying9 (hval 2 9 v2 rfl rfl) h2
  have hT := of_laid1 hL
  clear hA0 hval0
  simp only [List.append_nil] at hW'
  refine (scalarSpread_any s0 s1 s2 W w0 w1 w2 hT).mono fun e W' ⟨he, hb⟩ => ?_
  subst he
  refine ⟨_, rfl, _, _, _, [], [], [], hW', ?_, ?_, rfl, hb.frame _, fun h => by cases h⟩
  · exact trodAll_mk1 (shut_bool Tryd.underlying4 _)
  · exact trodAll_mk3 (shut_string Tryd.underlying9 w0) (shut_string Tryd.underlying9 w1) (shut_string Tryd.underlying9 w2)

theorem scalarSpread_holds : Rows.ScalarSpreadSaid :=
  OpenClaim.holds_of_wide 7 Tryd.f7 rfl rfl rfl rfl rfl rfl rfl ⟨rfl, rfl, rfl, rfl, rfl⟩ rfl rfl rfl rfl rfl (by kernel_rfl) Tryd.func7 (by kernel_rfl)
    (of_decide_eq_true (by kernel_rfl)) (by unfold Func.isWrapper; first | (rw [if_pos (by decide +kernel)]; kernel_rfl) | (rw [if_neg (by decide +kernel)]; exact ⟨rfl, rfl⟩))
    (fun os started H enc _ => scalarSpread_lifted os started H enc)

theorem scalarSpread_card : Rows.ScalarSpreadCardSaid :=
  Claim7.holds_tied_plain_at .later [] [.wider] true (true, "d8297783da29cf5dfe9470e6a35883c7b3cef3cd3de2b7bd2120ff54c150f2b4") false
    scalarSpread_holds (fun _ h => by cases h) (by kernel_rfl) (fun _ h => by cases h) scalarSpread_row_tie rfl ⟨rfl, rfl⟩ (by kernel_rfl) rfl
    (fun f fn hf hfn => by
      obtain rfl : f = 7 := Option.some.inj ((show Tryd.prog.funcNamed "cresset/cressetlaw10.ScalarSpread" = some 7 by kernel_rfl).symm.trans hf) |>.symm
      obtain rfl : fn = Tryd.f7 := (Option.some.inj (Tryd.func7.symm.trans hfn)).symm
      exact ⟨by kernel_rfl, fun j t ht => by
        rw [Tryd.params7] at ht
        have hm : t ∈ [9, 9, 9] := by simpa using Array.mem_of_getElem? ht
        have hall : ([9, 9, 9].all fun u => !Tryd.prog.wantsStandIn u) = true := by kernel_rfl
        exact (show Tryd.prog.wantsStandIn t = false by simpa using List.all_eq_true.1 hall t hm)⟩)
    (by kernel_rfl)
#print axioms scalarSpread_card
end Go.Proofs.YtjgpcfjnanideaaDoor
