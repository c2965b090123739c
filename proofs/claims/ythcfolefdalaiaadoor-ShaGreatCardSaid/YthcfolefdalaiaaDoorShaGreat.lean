/- ShaGreat: for every text of at most 50000 bytes the program's digest of 64 bytes is the reference's; the chapter's two examples hold. No condition; the two tables of package sha lie as the program's text lays them. -/
import Derived.Test.YthcfolefdalaiaaDoorFrame
import Derived.Test.YthcfolefdalaiaaDoorCards
import Derived.Test.YthcfolefdalaiaaDoorTie
import Derived.SevenTiedAt
import Derived.Test.YthcfolefdalaiaaDoorRefSum64
namespace Go.Proofs.YthcfolefdalaiaaDoor
open Go.ChangeShapes Go.WideShapes Go.ChangeAt Go.WideMaps Go.WideElems Go.RowKit
open Go.ChangeMaps (open_string shut_string)
set_option maxRecDepth 100000
set_option linter.unusedSimpArgs false
set_option linter.unusedVariables false

set_option maxHeartbeats 1000000 in
theorem shaGreat_any (s : ByteArray) (w : World) (hs : s.size ≤ maxLen) (hK : TabK w kf) (hH : TabH w hf) : Calls Tryd.prog 3 #[.string s] w fun e w' => e = .returned (.bool true) ∧ Below w.heap.size w w' := by
  unfold maxLen at hs
  by_cases hbig : 50000 < s.size
  · have hd : decide ((50000 : Int) < (s.size : Int)) = true := by simp; omega
    go_enter Tryd.func3, Tryd.ntmps3
    go_wp2_with fail
    refine (awake_any _ hK hH).mono ?_
    rintro e W1 ⟨rfl, hb1⟩
    go_wp2_with fail
    go_ret
    exact ⟨rfl, hb1⟩
  · have hd : decide ((50000 : Int) < (s.size : Int)) = false := by simp; omega
    have h1 := Lib.hid (sum512_any kf hf s w hK hH (by omega))
    generalize hx : (⟨(sha512L kf hf s.data.toList).toArray⟩ : ByteArray) = x at *
    have HX := Lib.hid hx
    clear hx
    go_enter Tryd.func3, Tryd.ntmps3
    go_wp2_with fail
    refine h1.out.mono ?_
    rintro e W1 ⟨rfl, hb1⟩
    have hK1 := hK.below hb1 hK.lt; have hH1 := hH.below hb1 hH.lt
    have h2 := refSum64_any s W1 (by omega)
    rw [HX.out] at h2
    have H2 := Lib.hid h2
    clear h2 hK hH h1
    go_wp2_with fail
    refine H2.out.mono ?_
    rintro e W2 ⟨rfl, hb2⟩
    have hK2 := hK1.below hb2 hK1.lt; have hH2 := hH1.below hb2 hH1.lt
    have hB2 : Below w.heap.size w W2 := hb1.trans (hb2.mono hb1.size)
    have hz2 : w.heap.size ≤ W2.heap.size := Nat.le_trans hb1.size hb2.size
    clear H2 hK1 hH1 hb1 hb2
    go_wp2_with fail
    refine (awake_any _ hK2 hH2).mono ?_
    rintro e W3 ⟨rfl, hb3⟩
    go_wp2_with fail
    go_ret
    exact ⟨rfl, hB2.trans (hb3.mono hz2)⟩

theorem shaGreat_lifted (os : Os) (started : os.Started) (H : Type) (enc : TypeId × Value → H) :
    ReturnsInHanded {} Tryd.checked os 3 .any (fun w args => (Rows.shaGreatSpec.pre enc Tryd.prog Tryd.f3 [] false w args ∧ laidMetH Tryd.prog laid2 w) ∧ sizedMet enc Tryd.prog Tryd.f3 (OpenSpec.ofChange Rows.shaGreatSpec) false w args)
      (Rows.shaGreatSpec.post enc Tryd.prog Tryd.f3 false true false false) := by
  refine returnsInHanded_of_change_and (C := Tryd.checked) (X := fun w _ => laidMetH Tryd.prog laid2 w) (fun _ _ _ hh h => h.of_heap hh) own started (by kernel_rfl) Tryd.func3
    (ChangeSpec.witness_shaped (enc := enc) (C := Tryd.checked) (os := os) (X := fun w _ => laidMetH Tryd.prog laid2 w) false (World.doorLaid Tryd.prog 400 os) #[.string ⟨#[]⟩] 8 rfl (World.shaped_of_RefB (by kernel_rfl) (by kernel_rfl)) (by kernel_rfl) (by kernel_rfl) (by kernel_rfl) (door_met os _)) ?_
  intro W base args ds gs before hval0 hW _ _ hL _
  have hval : ∀ (j : Nat) t v, Tryd.f3.params[j]? = some t → args[j]? = some v → Value.okWide Tryd.prog W .any base t v := hval0
  have hW' := hW
  obtain ⟨p, q, hA0, hV, rfl, hfz, hnd⟩ := hW
  have hA : DataW.TrodAll enc Tryd.prog W 0 (fun _ => true) true Tryd.f3.params.toList args.toList ds p := hA0
  rw [Tryd.params3] at hA hval
  obtain ⟨v0, d0, rfl, rfl, h0⟩ := trodAll_one hA
  obtain ⟨rfl, rfl⟩ := trodVars_none hV
  obtain ⟨s0, rfl, rfl, rfl, w0⟩ := open_string Tryd.underlying9 (hval 0 9 v0 rfl rfl) h0
  obtain ⟨hH, hK⟩ := of_laid hL
  clear hA0 hval0
  simp only [List.append_nil] at hW'
  refine (shaGreat_any s0 W w0 hK hH).mono fun e W' ⟨he, hb⟩ => ?_
  subst he
  refine ⟨_, rfl, _, _, _, [], [], [], hW', ?_, ?_, rfl, hb.frame _, fun h => by cases h⟩
  · exact trodAll_mk1 (shut_bool Tryd.underlying4 _)
  · exact trodAll_mk1 (shut_string Tryd.underlying9 w0)

theorem shaGreat_holds : Rows.ShaGreatSaid :=
  OpenClaim.holds_of_wide 3 Tryd.f3 rfl rfl rfl rfl rfl rfl rfl ⟨rfl, rfl, rfl, rfl, rfl⟩ rfl rfl rfl rfl rfl (by kernel_rfl) Tryd.func3 (by kernel_rfl)
    (of_decide_eq_true (by kernel_rfl)) (by unfold Func.isWrapper; first | (rw [if_pos (by decide +kernel)]; kernel_rfl) | (rw [if_neg (by decide +kernel)]; exact ⟨rfl, rfl⟩))
    (fun os started H enc _ => shaGreat_lifted os started H enc)

theorem shaGreat_card : Rows.ShaGreatCardSaid :=
  Claim7.holds_tied_plain_at .later [] [.data, .data] true (true, "225435dd55d283f3af50af713b04fb7b7711febad748264678e6632345c27f3b") false
    shaGreat_holds (fun _ h => by cases h) (by kernel_rfl) (fun _ h => by cases h) shaGreat_row_tie rfl ⟨rfl, rfl⟩ (by kernel_rfl) rfl
    (fun f fn hf hfn => by
      obtain rfl : f = 3 := Option.some.inj ((show Tryd.prog.funcNamed "cresset/cressetlaw01.ShaGreat" = some 3 by kernel_rfl).symm.trans hf) |>.symm
      obtain rfl : fn = Tryd.f3 := (Option.some.inj (Tryd.func3.symm.trans hfn)).symm
      exact ⟨by kernel_rfl, fun j t ht => by
        rw [Tryd.params3] at ht
        have hm : t ∈ [9] := by simpa using Array.mem_of_getElem? ht
        have hall : ([9].all fun u => !Tryd.prog.wantsStandIn u) = true := by kernel_rfl
        exact (show Tryd.prog.wantsStandIn t = false by simpa using List.all_eq_true.1 hall t hm)⟩)
    (by kernel_rfl)
#print axioms shaGreat_card
end Go.Proofs.YthcfolefdalaiaaDoor
