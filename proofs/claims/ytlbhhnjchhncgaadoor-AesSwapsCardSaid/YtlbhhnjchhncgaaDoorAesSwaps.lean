/- AesSwaps: for every byte the program's Swap is the reference's; the chapter's examples hold. No condition; the table of squares of package aes lies as the program's text lays it. -/
import Derived.Test.YtlbhhnjchhncgaaDoorCards
import Derived.Test.YtlbhhnjchhncgaaDoorTie
import Derived.SevenTiedAt
import Derived.Test.YtlbhhnjchhncgaaDoorAesFrame
import Derived.Test.YtlbhhnjchhncgaaDoorAesRef
namespace Go.Proofs.YtlbhhnjchhncgaaDoor
open Go.ChangeShapes Go.WideShapes Go.ChangeAt Go.WideMaps Go.WideElems Go.RowKit
open Go.ChangeMaps (open_string shut_string)
set_option maxRecDepth 100000
set_option linter.unusedSimpArgs false
set_option linter.unusedVariables false

set_option maxHeartbeats 1000000 in
theorem aesSwaps_any (b : Int) (w : World) (hb : (Lit.int .u8 b).wf = true) (hT : TabQ w) :
    Calls Tryd.prog 5 #[.int .u8 b] w fun e w' => e = .returned (.bool true) ∧ Below w.heap.size w w' := by
  obtain ⟨x, rfl⟩ : ∃ x : UInt8, b = (x.toNat : Int) := by
    have h : 0 ≤ b ∧ b < 256 := by
      simp [Lit.wf, IntKind.min, IntKind.max, IntKind.bits, IntKind.signed] at hb
      omega
    exact ⟨UInt8.ofNat b.toNat, by simp; omega⟩
  clear hb
  have H1 := Lib.hid (fun W hT => ownSwap_any x W hT)
  have H2 := Lib.hid (fun W => refSwap_any x W)
  have HT := Lib.hid hT
  clear hT
  have ex : (((sb x).toNat : Int) == ((sb x).toNat : Int)) = true := by simp
  generalize (sb x).toNat = y at *
  go_enter Tryd.func5, Tryd.ntmps5
  go_wp2_with fail
  refine (H1.out w HT.out).mono ?_
  rintro e W1 ⟨rfl, hb1⟩
  have hsz1 := hb1.size
  have HT1 := Lib.hid (HT.out.step hb1)
  clear H1 HT
  go_wp2_with fail
  refine (H2.out W1).mono ?_
  rintro e W2 ⟨rfl, hb2⟩
  have hB2 : Below w.heap.size w W2 := hb1.trans (hb2.mono hsz1)
  have hsz2 := Nat.le_trans hsz1 hb2.size
  have HT2 := Lib.hid (HT1.out.step hb2)
  clear H2 hb2 hb1 HT1
  go_wp2_with fail
  refine (aawake_any W2 HT2.out).mono ?_
  rintro e W3 ⟨rfl, hb3⟩
  go_wp2_with fail
  go_ret
  exact ⟨rfl, hB2.trans (hb3.mono hsz2)⟩

theorem aesSwaps_lifted (os : Os) (started : os.Started) (H : Type) (enc : TypeId × Value → H) :
    ReturnsInHanded {} Tryd.checked os 5 .any (fun w args => (Rows.aesSwapsSpec.pre enc Tryd.prog Tryd.f5 [] false w args ∧ laidMetH Tryd.prog laid1 w) ∧ sizedMet enc Tryd.prog Tryd.f5 (OpenSpec.ofChange Rows.aesSwapsSpec) false w args)
      (Rows.aesSwapsSpec.post enc Tryd.prog Tryd.f5 false true false false) := by
  refine returnsInHanded_of_change_and (C := Tryd.checked) (X := fun w _ => laidMetH Tryd.prog laid1 w) (fun _ _ _ hh h => h.of_heap hh) own1 started (by kernel_rfl) Tryd.func5
    (ChangeSpec.witness_shaped (enc := enc) (C := Tryd.checked) (os := os) (X := fun w _ => laidMetH Tryd.prog laid1 w) false (World.doorLaid Tryd.prog 400 os) #[.int .u8 0] 8 rfl (World.shaped_of_RefB (by kernel_rfl) (by kernel_rfl)) (by kernel_rfl) (by kernel_rfl) (by kernel_rfl) (door_met1 os _)) ?_
  intro W base args ds gs before hval0 hW _ _ hL _
  have hval : ∀ (j : Nat) t v, Tryd.f5.params[j]? = some t → args[j]? = some v → Value.okWide Tryd.prog W .any base t v := hval0
  have hW' := hW
  obtain ⟨p, q, hA0, hV, rfl, hfz, hnd⟩ := hW
  have hA : DataW.TrodAll enc Tryd.prog W 0 (fun _ => true) true Tryd.f5.params.toList args.toList ds p := hA0
  rw [Tryd.params5] at hA hval
  obtain ⟨v0, d0, rfl, rfl, h0⟩ := trodAll_one hA
  obtain ⟨rfl, rfl⟩ := trodVars_none hV
  obtain ⟨s0, rfl, rfl, rfl, w0⟩ := open_int Tryd.underlying5 (hval 0 5 v0 rfl rfl) h0
  have hT := of_laid1 hL
  clear hA0 hval0
  simp only [List.append_nil] at hW'
  refine (aesSwaps_any s0 W w0 hT).mono fun e W' ⟨he, hb⟩ => ?_
  subst he
  refine ⟨_, rfl, _, _, _, [], [], [], hW', ?_, ?_, rfl, hb.frame _, fun h => by cases h⟩
  · exact trodAll_mk1 (shut_bool Tryd.underlying4 _)
  · exact trodAll_mk1 (shut_int Tryd.underlying5 w0)

theorem aesSwaps_holds : Rows.AesSwapsSaid :=
  OpenClaim.holds_of_wide 5 Tryd.f5 rfl rfl rfl rfl rfl rfl rfl ⟨rfl, rfl, rfl, rfl, rfl⟩ rfl rfl rfl rfl rfl (by kernel_rfl) Tryd.func5 (by kernel_rfl)
    (of_decide_eq_true (by kernel_rfl)) (by unfold Func.isWrapper; first | (rw [if_pos (by decide +kernel)]; kernel_rfl) | (rw [if_neg (by decide +kernel)]; exact ⟨rfl, rfl⟩))
    (fun os started H enc _ => aesSwaps_lifted os started H enc)

theorem aesSwaps_card : Rows.AesSwapsCardSaid :=
  Claim7.holds_tied_plain_at .later [] [.data] true (true, "3870ea90e8ba3b78e694f39e2f7723a2c9cb9b13981a67c1f7b5d1b71bab7926") false
    aesSwaps_holds (fun _ h => by cases h) (by kernel_rfl) (fun _ h => by cases h) aesSwaps_row_tie rfl ⟨rfl, rfl⟩ (by kernel_rfl) rfl
    (fun f fn hf hfn => by
      obtain rfl : f = 5 := Option.some.inj ((show Tryd.prog.funcNamed "cresset/cressetlaw05.AesSwaps" = some 5 by kernel_rfl).symm.trans hf) |>.symm
      obtain rfl : fn = Tryd.f5 := (Option.some.inj (Tryd.func5.symm.trans hfn)).symm
      exact ⟨by kernel_rfl, fun j t ht => by
        rw [Tryd.params5] at ht
        have hm : t ∈ [5] := by simpa using Array.mem_of_getElem? ht
        have hall : ([5].all fun u => !Tryd.prog.wantsStandIn u) = true := by kernel_rfl
        exact (show Tryd.prog.wantsStandIn t = false by simpa using List.all_eq_true.1 hall t hm)⟩)
    (by kernel_rfl)
#print axioms aesSwaps_card
end Go.Proofs.YtlbhhnjchhncgaaDoor
