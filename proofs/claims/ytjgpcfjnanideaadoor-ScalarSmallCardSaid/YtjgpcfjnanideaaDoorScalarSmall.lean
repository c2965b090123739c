/- ScalarSmall: for every three numbers from 0 to 2 to the 30 MulAdd of them as 32 bytes is the product and the sum as 32 bytes; other numbers are passed over; the chapter's examples hold. No condition; the order of package scalar lies as the program's text lays it. -/
import Derived.Test.YtjgpcfjnanideaaDoorCards
import Derived.Test.YtjgpcfjnanideaaDoorTie
import Derived.SevenTiedAt
import Derived.Test.YtjgpcfjnanideaaDoorScaLaid
import Derived.Test.YtjgpcfjnanideaaDoorScaWake
import Derived.Test.YtjgpcfjnanideaaDoorScaLong
namespace Go.Proofs.YtjgpcfjnanideaaDoor
open Go.ChangeShapes Go.WideShapes Go.ChangeAt Go.WideMaps Go.WideElems Go.RowKit
open Go.ChangeMaps (open_string shut_string)
set_option maxRecDepth 100000
set_option linter.unusedSimpArgs false
set_option linter.unusedVariables false

theorem nat_of (a : Int) (h : 0 ≤ a) : ∃ n : Nat, a = (n : Int) := ⟨a.toNat, by omega⟩
theorem small_fits (a b c : Nat) (ha : a ≤ 1073741824) (hb : b ≤ 1073741824) (hc : c ≤ 1073741824) : a * b ≤ 1152921504606846976 ∧ a * b + c < 4611686018427387904 := by
  have h : a * b ≤ 1073741824 * 1073741824 := Nat.mul_le_mul ha hb
  omega
set_option maxHeartbeats 4000000 in
theorem scalarSmall_any (a : Int) (b : Int) (c : Int) (w : World) (_ : (Lit.int .i64 a).wf = true) (_ : (Lit.int .i64 b).wf = true) (_ : (Lit.int .i64 c).wf = true) (hT : OrdQ w) :
    Calls Tryd.prog 8 #[.int .i64 a, .int .i64 b, .int .i64 c] w fun e w' => e = .returned (.bool true) ∧ Below w.heap.size w w' := by
  by_cases h0 : a < 0
  · have d0 : decide (a < 0) = true := decide_eq_true h0
    clear h0
    have HA := Lib.hid (fun W hW => scawake_any W hW)
    have HP := Lib.hid hT
    have hb := Below.refl w.heap.size w
    clear hT
    go_enter Tryd.func8, Tryd.ntmps8
    go_wp2_with fail
    refine (HA.out w HP.out).mono ?_
    rintro e W1 ⟨rfl, bk⟩
    replace hb := hb.trans (bk.mono hb.size)
    replace HP := Lib.hid (HP.out.step bk)
    clear bk
    go_wp2_with fail
    go_ret
    exact ⟨rfl, hb⟩
  by_cases h1 : b < 0
  · have d0 : decide (a < 0) = false := decide_eq_false h0
    have d1 : decide (b < 0) = true := decide_eq_true h1
    clear h0 h1
    have HA := Lib.hid (fun W hW => scawake_any W hW)
    have HP := Lib.hid hT
    have hb := Below.refl w.heap.size w
    clear hT
    go_enter Tryd.func8, Tryd.ntmps8
    go_wp2_with fail
    refine (HA.out w HP.out).mono ?_
    rintro e W1 ⟨rfl, bk⟩
    replace hb := hb.trans (bk.mono hb.size)
    replace HP := Lib.hid (HP.out.step bk)
    clear bk
    go_wp2_with fail
    go_ret
    exact ⟨rfl, hb⟩
  by_cases h2 : c < 0
  · have d0 : decide (a < 0) = false := decide_eq_false h0
    have d1 : decide (b < 0) = false := decide_eq_false h1
    have d2 : decide (c < 0) = true := decide_eq_true h2
    clear h0 h1 h2
    have HA := Lib.hid (fun W hW => scawake_any W hW)
    have HP := Lib.hid hT
    have hb := Below.refl w.heap.size w
    clear hT
    go_enter Tryd.func8, Tryd.ntmps8
    go_wp2_with fail
    refine (HA.out w HP.out).mono ?_
    rintro e W1 ⟨rfl, bk⟩
    replace hb := hb.trans (bk.mono hb.size)
    replace HP := Lib.hid (HP.out.step bk)
    clear bk
    go_wp2_with fail
    go_ret
    exact ⟨rfl, hb⟩
  by_cases h3 : 1073741824 < a
  · have d0 : decide (a < 0) = false := decide_eq_false h0
    have d1 : decide (b < 0) = false := decide_eq_false h1
    have d2 : decide (c < 0) = false := decide_eq_false h2
    have d3 : decide (1073741824 < a) = true := decide_eq_true h3
    clear h0 h1 h2 h3
    have HA := Lib.hid (fun W hW => scawake_any W hW)
    have HP := Lib.hid hT
    have hb := Below.refl w.heap.size w
    clear hT
    go_enter Tryd.func8, Tryd.ntmps8
    go_wp2_with fail
    refine (HA.out w HP.out).mono ?_
    rintro e W1 ⟨rfl, bk⟩
    replace hb := hb.trans (bk.mono hb.size)
    replace HP := Lib.hid (HP.out.step bk)
    clear bk
    go_wp2_with fail
    go_ret
    exact ⟨rfl, hb⟩
  by_cases h4 : 1073741824 < b
  · have d0 : decide (a < 0) = false := decide_eq_false h0
    have d1 : decide (b < 0) = false := decide_eq_false h1
    have d2 : decide (c < 0) = false := decide_eq_false h2
    have d3 : decide (1073741824 < a) = false := decide_eq_false h3
    have d4 : decide (1073741824 < b) = true := decide_eq_true h4
    clear h0 h1 h2 h3 h4
    have HA := Lib.hid (fun W hW => scawake_any W hW)
    have HP := Lib.hid hT
    have hb := Below.refl w.heap.size w
    clear hT
    go_enter Tryd.func8, Tryd.ntmps8
    go_wp2_with fail
    refine (HA.out w HP.out).mono ?_
    rintro e W1 ⟨rfl, bk⟩
    replace hb := hb.trans (bk.mono hb.size)
    replace HP := Lib.hid (HP.out.step bk)
    clear bk
    go_wp2_with fail
    go_ret
    exact ⟨rfl, hb⟩
  by_cases h5 : 1073741824 < c
  · have d0 : decide (a < 0) = false := decide_eq_false h0
    have d1 : decide (b < 0) = false := decide_eq_false h1
    have d2 : decide (c < 0) = false := decide_eq_false h2
    have d3 : decide (1073741824 < a) = false := decide_eq_false h3
    have d4 : decide (1073741824 < b) = false := decide_eq_false h4
    have d5 : decide (1073741824 < c) = true := decide_eq_true h5
    clear h0 h1 h2 h3 h4 h5
    have HA := Lib.hid (fun W hW => scawake_any W hW)
    have HP := Lib.hid hT
    have hb := Below.refl w.heap.size w
    clear hT
    go_enter Tryd.func8, Tryd.ntmps8
    go_wp2_with fail
    refine (HA.out w HP.out).mono ?_
    rintro e W1 ⟨rfl, bk⟩
    replace hb := hb.trans (bk.mono hb.size)
    replace HP := Lib.hid (HP.out.step bk)
    clear bk
    go_wp2_with fail
    go_ret
    exact ⟨rfl, hb⟩
  have d0 : decide (a < 0) = false := decide_eq_false h0
  have d1 : decide (b < 0) = false := decide_eq_false h1
  have d2 : decide (c < 0) = false := decide_eq_false h2
  have d3 : decide (1073741824 < a) = false := decide_eq_false h3
  have d4 : decide (1073741824 < b) = false := decide_eq_false h4
  have d5 : decide (1073741824 < c) = false := decide_eq_false h5
  obtain ⟨x, rfl⟩ := nat_of a (by omega)
  obtain ⟨y, rfl⟩ := nat_of b (by omega)
  obtain ⟨z, rfl⟩ := nat_of c (by omega)
  obtain ⟨f1, f2⟩ := small_fits x y z (by omega) (by omega) (by omega)
  have CX := Lib.hid (fun W => long_any x W (by omega))
  have CY := Lib.hid (fun W => long_any y W (by omega))
  have CZ := Lib.hid (fun W => long_any z W (by omega))
  have CR := Lib.hid (fun W => long_any (x * y + z) W f2)
  have hbig : 4611686018427387904 < lF := by decide
  have hbig2 : lF < 256 ^ 32 := lF_256
  have m1 := ma_of (txtN x) (txtN y) (txtN z) (txtN_size _) (txtN_size _) (txtN_size _)
  rw [nV_txt x (by omega), nV_txt y (by omega), nV_txt z (by omega), Nat.mod_eq_of_lt (show x * y + z < lF by omega)] at m1
  have CM := Lib.hid (fun W hW => mulAdd_any (txtN x) (txtN y) (txtN z) W hW)
  rw [m1.1, m1.2] at CM
  have hmul : (x : Int) * (y : Int) = ((x * y : Nat) : Int) := by simp
  have p0 : (0 : Int) ≤ (x : Int) * (y : Int) := by omega
  have p1 : (x : Int) * (y : Int) ≤ 1152921504606846976 := by omega
  have hz : (z : Int) ≤ 1073741824 := by omega
  have hsum : ((x * y + z : Nat) : Int) = (x : Int) * (y : Int) + (z : Int) := by omega
  rw [hsum] at CR
  clear m1 f1 f2 hbig hbig2 hmul hsum h0 h1 h2 h3 h4 h5
  generalize txtN (x * y + z) = t at *
  generalize txtN x = tx at *
  generalize txtN y = ty at *
  generalize txtN z = tz at *
  have et := same_txt t
  have HA := Lib.hid (fun W hW => scawake_any W hW)
  have HP := Lib.hid hT
  have hb := Below.refl w.heap.size w
  clear hT
  go_enter Tryd.func8, Tryd.ntmps8
  go_wp2_with fail
  refine (CX.out w).mono ?_
  rintro e W1 ⟨rfl, bk⟩
  replace hb := hb.trans (bk.mono hb.size)
  replace HP := Lib.hid (HP.out.step bk)
  clear bk
  go_wp2_with fail
  refine (CY.out W1).mono ?_
  rintro e W2 ⟨rfl, bk⟩
  replace hb := hb.trans (bk.mono hb.size)
  replace HP := Lib.hid (HP.out.step bk)
  clear bk
  go_wp2_with fail
  refine (CZ.out W2).mono ?_
  rintro e W3 ⟨rfl, bk⟩
  replace hb := hb.trans (bk.mono hb.size)
  replace HP := Lib.hid (HP.out.step bk)
  clear bk
  go_wp2_with fail
  refine (CM.out W3 HP.out).mono ?_
  rintro e W4 ⟨rfl, bk⟩
  replace hb := hb.trans (bk.mono hb.size)
  replace HP := Lib.hid (HP.out.step bk)
  clear bk
  go_wp2_with fail
  refine (CR.out W4).mono ?_
  rintro e W5 ⟨rfl, bk⟩
  replace hb := hb.trans (bk.mono hb.size)
  replace HP := Lib.hid (HP.out.step bk)
  clear bk
  go_wp2_with fail
  refine (HA.out W5 HP.out).mono ?_
  rintro e W6 ⟨rfl, bk⟩
  replace hb := hb.trans (bk.mono hb.size)
  replace HP := Lib.hid (HP.out.step bk)
  clear bk
  go_wp2_with fail
  go_ret
  exact ⟨rfl, hb⟩

theorem scalarSmall_lifted (os : Os) (started : os.Started) (H : Type) (enc : TypeId × Value → H) :
    ReturnsInHanded {} Tryd.checked os 8 .any (fun w args => (Rows.scalarSmallSpec.pre enc Tryd.prog Tryd.f8 [] false w args ∧ laidMetH Tryd.prog laid1 w) ∧ sizedMet enc Tryd.prog Tryd.f8 (OpenSpec.ofChange Rows.scalarSmallSpec) false w args)
      (Rows.scalarSmallSpec.post enc Tryd.prog Tryd.f8 false true false false) := by
  refine returnsInHanded_of_change_and (C := Tryd.checked) (X := fun w _ => laidMetH Tryd.prog laid1 w) (fun _ _ _ hh h => h.of_heap hh) own1 started (by kernel_rfl) Tryd.func8
    (ChangeSpec.witness_shaped (enc := enc) (C := Tryd.checked) (os := os) (X := fun w _ => laidMetH Tryd.prog laid1 w) false (World.doorLaid Tryd.prog 400 os) #[.int .i64 0, .int .i64 0, .int .i64 0] 8 rfl (World.shaped_of_RefB (by kernel_rfl) (by kernel_rfl)) (by kernel_rfl) (by kernel_rfl) (by kernel_rfl) (door_met1 os _)) ?_
  intro W base args ds gs before hval0 hW _ _ hL _
  have hval : ∀ (j : Nat) t v, Tryd.f8.params[j]? = some t → args[j]? = some v → Value.okWide Tryd.prog W .any base t v := hval0
  have hW' := hW
  obtain ⟨p, q, hA0, hV, rfl, hfz, hnd⟩ := hW
  have hA : DataW.TrodAll enc Tryd.prog W 0 (fun _ => true) true Tryd.f8.params.toList args.toList ds p := hA0
  rw [Tryd.params8] at hA hval
  obtain ⟨v0, v1, v2, d0, d1, d2, p0, p1, p2, rfl, rfl, rfl, h0, h1, h2⟩ := trodAll_three hA
  obtain ⟨rfl, rfl⟩ := trodVars_none hV
  obtain ⟨s0, rfl, rfl, rfl, w0⟩ := open_int Tryd.underlying3 (hval 0 3 v0 rfl rfl) h0
  obtain ⟨s1, rfl, rfl, rfl, w1⟩ := open_int Tryd.underlying3 (hval 1 3 v1 rfl rfl) h1
  obtain ⟨s2, rfl, rfl, rfl, w2⟩ := open_int Tryd.underlying3 (hval 2 3 v2 rfl rfl) h2
  have hT := of_laid1 hL
  clear hA0 hval0
  simp only [List.append_nil] at hW'
  refine (scalarSmall_any s0 s1 s2 W w0 w1 w2 hT).mono fun e W' ⟨he, hb⟩ => ?_
  subst he
  refine ⟨_, rfl, _, _, _, [], [], [], hW', ?_, ?_, rfl, hb.frame _, fun h => by cases h⟩
  · exact trodAll_mk1 (shut_bool Tryd.underlying4 _)
  · exact trodAll_mk3 (shut_int Tryd.underlying3 w0) (shut_int Tryd.underlying3 w1) (shut_int Tryd.underlying3 w2)

theorem scalarSmall_holds : Rows.ScalarSmallSaid :=
  OpenClaim.holds_of_wide 8 Tryd.f8 rfl rfl rfl rfl rfl rfl rfl ⟨rfl, rfl, rfl, rfl, rfl⟩ rfl rfl rfl rfl rfl (by kernel_rfl) Tryd.func8 (by kernel_rfl)
    (of_decide_eq_true (by kernel_rfl)) (by unfold Func.isWrapper; first | (rw [if_pos (by decide +kernel)]; kernel_rfl) | (rw [if_neg (by decide +kernel)]; exact ⟨rfl, rfl⟩))
    (fun os started H enc _ => scalarSmall_lifted os started H enc)

theorem scalarSmall_card : Rows.ScalarSmallCardSaid :=
  Claim7.holds_tied_plain_at .later [] [.wider] true (true, "d8297783da29cf5dfe9470e6a35883c7b3cef3cd3de2b7bd2120ff54c150f2b4") false
    scalarSmall_holds (fun _ h => by cases h) (by kernel_rfl) (fun _ h => by cases h) scalarSmall_row_tie rfl ⟨rfl, rfl⟩ (by kernel_rfl) rfl
    (fun f fn hf hfn => by
      obtain rfl : f = 8 := Option.some.inj ((show Tryd.prog.funcNamed "cresset/cressetlaw10.ScalarSmall" = some 8 by kernel_rfl).symm.trans hf) |>.symm
      obtain rfl : fn = Tryd.f8 := (Option.some.inj (Tryd.func8.symm.trans hfn)).symm
      exact ⟨by kernel_rfl, fun j t ht => by
        rw [Tryd.params8] at ht
        have hm : t ∈ [3, 3, 3] := by simpa using Array.mem_of_getElem? ht
        have hall : ([3, 3, 3].all fun u => !Tryd.prog.wantsStandIn u) = true := by kernel_rfl
        exact (show Tryd.prog.wantsStandIn t = false by simpa using List.all_eq_true.1 hall t hm)⟩)
    (by kernel_rfl)
#print axioms scalarSmall_card
end Go.Proofs.YtjgpcfjnanideaaDoor
