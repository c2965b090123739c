/- AesKeys: for every key the program's round keys are the reference's, the refusal of another key too; the chapter's examples hold. No condition; the table of squares of package aes lies as the program's text lays it. -/
import Derived.Test.YtlbhhnjchhncgaaDoorCards
import Derived.Test.YtlbhhnjchhncgaaDoorTie
import Derived.SevenTiedAt
import Derived.Test.YtlbhhnjchhncgaaDoorAesFrame
import Derived.Test.YtlbhhnjchhncgaaDoorAesRtop
namespace Go.Proofs.YtlbhhnjchhncgaaDoor
open Go.ChangeShapes Go.WideShapes Go.ChangeAt Go.WideMaps Go.WideElems Go.RowKit
open Go.ChangeMaps (open_string shut_string)
set_option maxRecDepth 100000
set_option linter.unusedSimpArgs false
set_option linter.unusedVariables false

theorem keysSame (k : ByteArray) : ∃ (n : Nat) (f : Nat → ByteArray) (q : Int), n ≤ 1000 ∧ (∀ W, TabQ W → Calls Tryd.prog 11 #[.string k] W fun e w' => (∃ ao cap, e = .returned (.tuple #[.slice ao n cap, .int .i64 q]) ∧ TextsAt w' ao n f) ∧ Below W.heap.size W w') ∧ (∀ W, Calls Tryd.prog 12 #[.string k] W fun e w' => (∃ ao cap, e = .returned (.tuple #[.slice ao n cap, .int .i64 q]) ∧ TextsAt w' ao n f) ∧ Below W.heap.size W w') := by
  by_cases h1 : k.size = 16
  · refine ⟨11, fun i => ⟨(rk k.data.toList i).toArray⟩, 0, by omega, fun W hT => (ownKeys_any k W h1 hT).mono ?_, fun W => (refKeysOk_any k W h1).mono ?_⟩
    · rintro e w' ⟨⟨ao, cap, rfl, hown⟩, hb⟩
      exact ⟨⟨ao, cap, rfl, texts_of_own hown⟩, hb⟩
    · rintro e w' ⟨⟨ao, cap, rfl, hown⟩, hb⟩
      exact ⟨⟨ao, cap, rfl, texts_of_own hown⟩, hb⟩
  · refine ⟨0, fun _ => ⟨#[]⟩, 21, by omega, fun W _ => (keysKey_any k W h1).mono ?_, fun W => (refKeysKey_any k W h1).mono ?_⟩
    · rintro e w' ⟨rfl, hb⟩
      exact ⟨⟨none, 0, rfl, fun j hj => by omega⟩, hb⟩
    · rintro e w' ⟨rfl, hb⟩
      exact ⟨⟨none, 0, rfl, fun j hj => by omega⟩, hb⟩
set_option maxHeartbeats 1000000 in
theorem aesKeys_any (k : ByteArray) (w : World) (_ : k.size ≤ maxLen) (hT : TabQ w) :
    Calls Tryd.prog 4 #[.string k] w fun e w' => e = .returned (.bool true) ∧ Below w.heap.size w w' := by
  obtain ⟨n, f, q, hn, x1, x2⟩ := keysSame k
  have H1 := Lib.hid x1; have H2 := Lib.hid x2; have HT := Lib.hid hT
  clear x1 x2 hT
  have eq : (q == q) = true := by simp
  go_enter Tryd.func4, Tryd.ntmps4
  go_wp2_with fail
  refine (H1.out w HT.out).mono ?_
  rintro e W1 ⟨⟨ao, ca, rfl, ha⟩, hb1⟩
  have hsz1 := hb1.size
  have HT1 := Lib.hid (HT.out.step hb1)
  have HA := Lib.hid ha
  clear H1 HT ha
  go_wp2_with fail
  refine (H2.out W1).mono ?_
  rintro e W2 ⟨⟨bo, cb, rfl, hb⟩, hb2⟩
  have HX := Lib.hid (texts_same ao bo n ca cb f W2 hn (HA.out.step hb2) hb)
  have hB2 : Below w.heap.size w W2 := hb1.trans (hb2.mono hsz1)
  have hsz2 := Nat.le_trans hsz1 hb2.size
  have HT2 := Lib.hid (HT1.out.step hb2)
  clear H2 hb2 hb1 HT1 HA hb
  go_wp2_with fail
  refine HX.out.mono ?_
  rintro e W4 ⟨rfl, hb4⟩
  have hB4 : Below w.heap.size w W4 := hB2.trans (hb4.mono hsz2)
  have hsz4 := Nat.le_trans hsz2 hb4.size
  have HT4 := Lib.hid (HT2.out.step hb4)
  clear HX hB2 hb4 HT2
  go_wp2_with fail
  refine (aawake_any W4 HT4.out).mono ?_
  rintro e W3 ⟨rfl, hb3⟩
  go_wp2_with fail
  go_ret
  exact ⟨rfl, hB4.trans (hb3.mono hsz4)⟩

theorem aesKeys_lifted (os : Os) (started : os.Started) (H : Type) (enc : TypeId × Value → H) :
    ReturnsInHanded {} Tryd.checked os 4 .any (fun w args => (Rows.aesKeysSpec.pre enc Tryd.prog Tryd.f4 [] false w args ∧ laidMetH Tryd.prog laid1 w) ∧ sizedMet enc Tryd.prog Tryd.f4 (OpenSpec.ofChange Rows.aesKeysSpec) false w args)
      (Rows.aesKeysSpec.post enc Tryd.prog Tryd.f4 false true false false) := by
  refine returnsInHanded_of_change_and (C := Tryd.checked) (X := fun w _ => laidMetH Tryd.prog laid1 w) (fun _ _ _ hh h => h.of_heap hh) own1 started (by kernel_rfl) Tryd.func4
    (ChangeSpec.witness_shaped (enc := enc) (C := Tryd.checked) (os := os) (X := fun w _ => laidMetH Tryd.prog laid1 w) false (World.doorLaid Tryd.prog 400 os) #[.string ⟨#[]⟩] 8 rfl (World.shaped_of_RefB (by kernel_rfl) (by kernel_rfl)) (by kernel_rfl) (by kernel_rfl) (by kernel_rfl) (door_met1 os _)) ?_
  intro W base args ds gs before hval0 hW _ _ hL _
  have hval : ∀ (j : Nat) t v, Tryd.f4.params[j]? = some t → args[j]? = some v → Value.okWide Tryd.prog W .any base t v := hval0
  have hW' := hW
  obtain ⟨p, q, hA0, hV, rfl, hfz, hnd⟩ := hW
  have hA : DataW.TrodAll enc Tryd.prog W 0 (fun _ => true) true Tryd.f4.params.toList args.toList ds p := hA0
  rw [Tryd.params4] at hA hval
  obtain ⟨v0, d0, rfl, rfl, h0⟩ := trodAll_one hA
  obtain ⟨rfl, rfl⟩ := trodVars_none hV
  obtain ⟨s0, rfl, rfl, rfl, w0⟩ := open_string Tryd.underlying9 (hval 0 9 v0 rfl rfl) h0
  have hT := of_laid1 hL
  clear hA0 hval0
  simp only [List.append_nil] at hW'
  refine (aesKeys_any s0 W w0 hT).mono fun e W' ⟨he, hb⟩ => ?_
  subst he
  refine ⟨_, rfl, _, _, _, [], [], [], hW', ?_, ?_, rfl, hb.frame _, fun h => by cases h⟩
  · exact trodAll_mk1 (shut_bool Tryd.underlying4 _)
  · exact trodAll_mk1 (shut_string Tryd.underlying9 w0)

theorem aesKeys_holds : Rows.AesKeysSaid :=
  OpenClaim.holds_of_wide 4 Tryd.f4 rfl rfl rfl rfl rfl rfl rfl ⟨rfl, rfl, rfl, rfl, rfl⟩ rfl rfl rfl rfl rfl (by kernel_rfl) Tryd.func4 (by kernel_rfl)
    (of_decide_eq_true (by kernel_rfl)) (by unfold Func.isWrapper; first | (rw [if_pos (by decide +kernel)]; kernel_rfl) | (rw [if_neg (by decide +kernel)]; exact ⟨rfl, rfl⟩))
    (fun os started H enc _ => aesKeys_lifted os started H enc)

theorem aesKeys_card : Rows.AesKeysCardSaid :=
  Claim7.holds_tied_plain_at .later [] [.data] true (true, "3870ea90e8ba3b78e694f39e2f7723a2c9cb9b13981a67c1f7b5d1b71bab7926") false
    aesKeys_holds (fun _ h => by cases h) (by kernel_rfl) (fun _ h => by cases h) aesKeys_row_tie rfl ⟨rfl, rfl⟩ (by kernel_rfl) rfl
    (fun f fn hf hfn => by
      obtain rfl : f = 4 := Option.some.inj ((show Tryd.prog.funcNamed "cresset/cressetlaw05.AesKeys" = some 4 by kernel_rfl).symm.trans hf) |>.symm
      obtain rfl : fn = Tryd.f4 := (Option.some.inj (Tryd.func4.symm.trans hfn)).symm
      exact ⟨by kernel_rfl, fun j t ht => by
        rw [Tryd.params4] at ht
        have hm : t ∈ [9] := by simpa using Array.mem_of_getElem? ht
        have hall : ([9].all fun u => !Tryd.prog.wantsStandIn u) = true := by kernel_rfl
        exact (show Tryd.prog.wantsStandIn t = false by simpa using List.all_eq_true.1 hall t hm)⟩)
    (by kernel_rfl)
#print axioms aesKeys_card
end Go.Proofs.YtlbhhnjchhncgaaDoor
