/- SealApart: unlike numbers from nought on have unlike nonces under any twelve bytes, and like ones like ones; the chapter's examples hold. No condition; the table of squares of package aes lies as the program's text lays it. -/
import Derived.Test.YtaodbhhdjehnnaaDoorCards
import Derived.Test.YtaodbhhdjehnnaaDoorTie
import Derived.SevenTiedAt
import Derived.Test.YtaodbhhdjehnnaaDoorSealWake
namespace Go.Proofs.YtaodbhhdjehnnaaDoor
open Go.ChangeShapes Go.WideShapes Go.ChangeAt Go.WideMaps Go.WideElems Go.RowKit
open Go.ChangeMaps (open_string shut_string)
set_option maxRecDepth 100000
set_option linter.unusedSimpArgs false
set_option linter.unusedVariables false

theorem i64_bounds {a : Int} (h : (Lit.int .i64 a).wf = true) : -9223372036854775808 ≤ a ∧ a ≤ 9223372036854775807 := by
  simp [Lit.wf, IntKind.min, IntKind.max, IntKind.bits, IntKind.signed] at h
  omega
set_option maxHeartbeats 2000000 in
theorem sealApart_any (iv : ByteArray) (m n : Int) (w : World) (_ : iv.size ≤ maxLen) (hm : (Lit.int .i64 m).wf = true) (hn : (Lit.int .i64 n).wf = true) (hT : TabQ w) :
    Calls Tryd.prog 5 #[.string iv, .int .i64 m, .int .i64 n] w fun e w' => e = .returned (.bool true) ∧ Below w.heap.size w w' := by
  have hm2 := (i64_bounds hm).2; have hn2 := (i64_bounds hn).2
  clear hm hn
  have HT := Lib.hid hT
  clear hT
  by_cases h1 : iv.size = 12
  · have d1 : ((iv.size : Int) != 12) = false := by simp; omega
    by_cases h2 : m < 0
    · have d2 : decide (m < 0) = true := by simp; omega
      clear h1 h2
      go_enter Tryd.func5, Tryd.ntmps5
      go_wp2_with fail
      refine (swake_any w HT.out).mono ?_
      rintro e W3 ⟨rfl, hb3⟩
      go_wp2_with fail
      go_ret
      exact ⟨rfl, hb3⟩
    · have d2 : decide (m < 0) = false := by simp; omega
      by_cases h3 : n < 0
      · have d3 : decide (n < 0) = true := by simp; omega
        clear h1 h2 h3
        go_enter Tryd.func5, Tryd.ntmps5
        go_wp2_with fail
        refine (swake_any w HT.out).mono ?_
        rintro e W3 ⟨rfl, hb3⟩
        go_wp2_with fail
        go_ret
        exact ⟨rfl, hb3⟩
      · have d3 : decide (n < 0) = false := by simp; omega
        obtain ⟨p, rfl⟩ : ∃ p : Nat, m = (p : Int) := ⟨m.toNat, by omega⟩
        obtain ⟨q, rfl⟩ : ∃ q : Nat, n = (q : Int) := ⟨n.toNat, by omega⟩
        have H1 := Lib.hid (fun W => sNonce_any iv p W h1 (by omega))
        have H2 := Lib.hid (fun W => sNonce_any iv q W h1 (by omega))
        have hl : iv.data.toList.length = 12 := by rw [← Lib.size_eq]; exact h1
        obtain ⟨x, hx⟩ : ∃ s : ByteArray, s = ⟨(nonS iv.data.toList p 8).toArray⟩ := ⟨_, rfl⟩
        obtain ⟨y, hy⟩ : ∃ s : ByteArray, s = ⟨(nonS iv.data.toList q 8).toArray⟩ := ⟨_, rfl⟩
        have hxy : (x.toList == y.toList) = ((p : Int) == (q : Int)) := by
          rw [Lib.toList_data, Lib.toList_data, hx, hy]
          show (nonS _ _ _ == nonS _ _ _) = _
          by_cases h : p = q
          · subst h; simp
          · have h4 : ¬ nonS iv.data.toList p 8 = nonS iv.data.toList q 8 := fun h5 => h (nonS_inj _ p q hl (by omega) (by omega) h5)
            have h6 : ¬ ((p : Int) = (q : Int)) := by omega
            rw [beq_eq_false_iff_ne.2 h4, beq_eq_false_iff_ne.2 h6]
        rw [← hx] at H1; rw [← hy] at H2
        clear hx hy hl h1 h2 h3 hm2 hn2
        obtain ⟨c, hc⟩ : ∃ c : Bool, c = ((p : Int) == (q : Int)) := ⟨_, rfl⟩
        rw [← hc] at hxy
        have hc2 := hc.symm
        clear hc
        go_enter Tryd.func5, Tryd.ntmps5
        go_wp2_with fail
        refine (H1.out w).mono ?_
        rintro e W1 ⟨rfl, hb1⟩
        go_wp2_with fail
        refine (H2.out W1).mono ?_
        rintro e W2 ⟨rfl, hb2⟩
        have hb3 := hb1.trans (hb2.mono hb1.size)
        have HT3 := Lib.hid (HT.out.step hb3)
        clear hb1 hb2 H1 H2 HT
        cases c
        · go_wp2_with fail
          refine (swake_any W2 HT3.out).mono ?_
          rintro e W3 ⟨rfl, hb4⟩
          go_wp2_with fail
          go_ret
          exact ⟨rfl, hb3.trans (hb4.mono hb3.size)⟩
        · go_wp2_with fail
          refine (swake_any W2 HT3.out).mono ?_
          rintro e W3 ⟨rfl, hb4⟩
          go_wp2_with fail
          go_ret
          exact ⟨rfl, hb3.trans (hb4.mono hb3.size)⟩
  · have d1 : ((iv.size : Int) != 12) = true := by simp; omega
    clear h1
    go_enter Tryd.func5, Tryd.ntmps5
    go_wp2_with fail
    refine (swake_any w HT.out).mono ?_
    rintro e W3 ⟨rfl, hb3⟩
    go_wp2_with fail
    go_ret
    exact ⟨rfl, hb3⟩

theorem sealApart_lifted (os : Os) (started : os.Started) (H : Type) (enc : TypeId × Value → H) :
    ReturnsInHanded {} Tryd.checked os 5 .any (fun w args => (Rows.sealApartSpec.pre enc Tryd.prog Tryd.f5 [] false w args ∧ laidMetH Tryd.prog laid1 w) ∧ sizedMet enc Tryd.prog Tryd.f5 (OpenSpec.ofChange Rows.sealApartSpec) false w args)
      (Rows.sealApartSpec.post enc Tryd.prog Tryd.f5 false true false false) := by
  refine returnsInHanded_of_change_and (C := Tryd.checked) (X := fun w _ => laidMetH Tryd.prog laid1 w) (fun _ _ _ hh h => h.of_heap hh) own1 started (by kernel_rfl) Tryd.func5
    (ChangeSpec.witness_shaped (enc := enc) (C := Tryd.checked) (os := os) (X := fun w _ => laidMetH Tryd.prog laid1 w) false (World.doorLaid Tryd.prog 400 os) #[.string ⟨#[]⟩, .int .i64 0, .int .i64 0] 8 rfl (World.shaped_of_RefB (by kernel_rfl) (by kernel_rfl)) (by kernel_rfl) (by kernel_rfl) (by kernel_rfl) (door_met1 os _)) ?_
  intro W base args ds gs before hval0 hW _ _ hL _
  have hval : ∀ (j : Nat) t v, Tryd.f5.params[j]? = some t → args[j]? = some v → Value.okWide Tryd.prog W .any base t v := hval0
  have hW' := hW
  obtain ⟨p, q, hA0, hV, rfl, hfz, hnd⟩ := hW
  have hA : DataW.TrodAll enc Tryd.prog W 0 (fun _ => true) true Tryd.f5.params.toList args.toList ds p := hA0
  rw [Tryd.params5] at hA hval
  obtain ⟨v0, v1, v2, d0, d1, d2, p0, p1, p2, rfl, rfl, rfl, h0, h1, h2⟩ := trodAll_three hA
  obtain ⟨rfl, rfl⟩ := trodVars_none hV
  obtain ⟨s0, rfl, rfl, rfl, w0⟩ := open_string Tryd.underlying9 (hval 0 9 v0 rfl rfl) h0
  obtain ⟨s1, rfl, rfl, rfl, w1⟩ := open_int Tryd.underlying3 (hval 1 3 v1 rfl rfl) h1
  obtain ⟨s2, rfl, rfl, rfl, w2⟩ := open_int Tryd.underlying3 (hval 2 3 v2 rfl rfl) h2
  have hT := of_laid1 hL
  clear hA0 hval0
  simp only [List.append_nil] at hW'
  refine (sealApart_any s0 s1 s2 W w0 w1 w2 hT).mono fun e W' ⟨he, hb⟩ => ?_
  subst he
  refine ⟨_, rfl, _, _, _, [], [], [], hW', ?_, ?_, rfl, hb.frame _, fun h => by cases h⟩
  · exact trodAll_mk1 (shut_bool Tryd.underlying4 _)
  · exact trodAll_mk3 (shut_string Tryd.underlying9 w0) (shut_int Tryd.underlying3 w1) (shut_int Tryd.underlying3 w2)

theorem sealApart_holds : Rows.SealApartSaid :=
  OpenClaim.holds_of_wide 5 Tryd.f5 rfl rfl rfl rfl rfl rfl rfl ⟨rfl, rfl, rfl, rfl, rfl⟩ rfl rfl rfl rfl rfl (by kernel_rfl) Tryd.func5 (by kernel_rfl)
    (of_decide_eq_true (by kernel_rfl)) (by unfold Func.isWrapper; first | (rw [if_pos (by decide +kernel)]; kernel_rfl) | (rw [if_neg (by decide +kernel)]; exact ⟨rfl, rfl⟩))
    (fun os started H enc _ => sealApart_lifted os started H enc)

theorem sealApart_card : Rows.SealApartCardSaid :=
  Claim7.holds_tied_plain_at .later [] [.data] true (true, "7874ff5d721e6f34371930b48cf698bc7c7c44a67f22c7a6c2cbabbdc6262590") false
    sealApart_holds (fun _ h => by cases h) (by kernel_rfl) (fun _ h => by cases h) sealApart_row_tie rfl ⟨rfl, rfl⟩ (by kernel_rfl) rfl
    (fun f fn hf hfn => by
      obtain rfl : f = 5 := Option.some.inj ((show Tryd.prog.funcNamed "cresset/cressetlaw07.SealApart" = some 5 by kernel_rfl).symm.trans hf) |>.symm
      obtain rfl : fn = Tryd.f5 := (Option.some.inj (Tryd.func5.symm.trans hfn)).symm
      exact ⟨by kernel_rfl, fun j t ht => by
        rw [Tryd.params5] at ht
        have hm : t ∈ [9, 3, 3] := by simpa using Array.mem_of_getElem? ht
        have hall : ([9, 3, 3].all fun u => !Tryd.prog.wantsStandIn u) = true := by kernel_rfl
        exact (show Tryd.prog.wantsStandIn t = false by simpa using List.all_eq_true.1 hall t hm)⟩)
    (by kernel_rfl)
#print axioms sealApart_card
end Go.Proofs.YtaodbhhdjehnnaaDoor
