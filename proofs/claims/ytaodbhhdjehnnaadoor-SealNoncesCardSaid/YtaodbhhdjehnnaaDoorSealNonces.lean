/- SealNonces: the program's nonce of every number under any bytes is the reference's, its refusals too, and so is the size of every suite's keys; the chapter's examples hold. No condition; the table of squares of package aes lies as the program's text lays it. -/
import Derived.Test.YtaodbhhdjehnnaaDoorCards
import Derived.Test.YtaodbhhdjehnnaaDoorTie
import Derived.SevenTiedAt
import Derived.Test.YtaodbhhdjehnnaaDoorSealWake
import Derived.Test.YtaodbhhdjehnnaaDoorSealRefN
namespace Go.Proofs.YtaodbhhdjehnnaaDoor
open Go.ChangeShapes Go.WideShapes Go.ChangeAt Go.WideMaps Go.WideElems Go.RowKit
open Go.ChangeMaps (open_string shut_string)
set_option maxRecDepth 100000
set_option linter.unusedSimpArgs false
set_option linter.unusedVariables false

theorem i64_upper {a : Int} (h : (Lit.int .i64 a).wf = true) : a ≤ 9223372036854775807 := by
  simp [Lit.wf, IntKind.min, IntKind.max, IntKind.bits, IntKind.signed] at h
  omega
theorem nonceSame (iv : ByteArray) (n : Int) (hn : n ≤ 9223372036854775807) : ∃ (x : ByteArray) (q : Int), (∀ W, Calls Tryd.prog 7 #[.string iv, .int .i64 n] W fun e w' => e = .returned (.tuple #[.string x, .int .i64 q]) ∧ Below W.heap.size W w') ∧ (∀ W, Calls Tryd.prog 8 #[.string iv, .int .i64 n] W fun e w' => e = .returned (.tuple #[.string x, .int .i64 q]) ∧ Below W.heap.size W w') := by
  by_cases h1 : iv.size = 12
  · by_cases h2 : n < 0
    · exact ⟨_, _, fun W => below_eq (sNonceArg_any iv n W h1 h2), fun W => below_eq (rNonceArg_any iv n W h1 h2)⟩
    · obtain ⟨p, rfl⟩ : ∃ p : Nat, n = (p : Int) := ⟨n.toNat, by omega⟩
      exact ⟨_, _, fun W => sNonce_any iv p W h1 (by omega), fun W => rNonce_any iv p W h1 (by omega)⟩
  · exact ⟨_, _, fun W => below_eq (sNonceKey_any iv n W h1), fun W => below_eq (rNonceKey_any iv n W h1)⟩
set_option maxHeartbeats 2000000 in
theorem sealNonces_any (iv : ByteArray) (n su : Int) (w : World) (_ : iv.size ≤ maxLen) (hn : (Lit.int .i64 n).wf = true) (_ : (Lit.int .i64 su).wf = true) (hT : TabQ w) :
    Calls Tryd.prog 3 #[.string iv, .int .i64 n, .int .i64 su] w fun e w' => e = .returned (.bool true) ∧ Below w.heap.size w w' := by
  obtain ⟨x, q, x1, x2⟩ := nonceSame iv n (i64_upper hn)
  have H1 := Lib.hid x1; have H2 := Lib.hid x2
  have HT := Lib.hid hT
  have HS := Lib.hid (fun W => sSize_any su W)
  have HR := Lib.hid (fun W => rSize_any su W)
  clear x1 x2 hT hn
  have ex : (x.toList == x.toList) = true := by simp
  have eq : (q == q) = true := by simp
  generalize sizeS su = z at *
  have ez : (z == z) = true := by simp
  go_enter Tryd.func3, Tryd.ntmps3
  go_wp2_with fail
  refine (H1.out w).mono ?_
  rintro e W1 ⟨rfl, hb1⟩
  go_wp2_with fail
  refine (H2.out W1).mono ?_
  rintro e W2 ⟨rfl, hb2⟩
  have hb3 := hb1.trans (hb2.mono hb1.size)
  have HT3 := Lib.hid (HT.out.step hb3)
  clear hb1 hb2 H1 H2 HT
  go_wp2_with fail
  refine (HS.out W2).mono ?_
  rintro e W ⟨rfl, rfl⟩
  go_wp2_with fail
  refine (HR.out W2).mono ?_
  rintro e W ⟨rfl, rfl⟩
  go_wp2_with fail
  refine (swake_any W2 HT3.out).mono ?_
  rintro e W3 ⟨rfl, hb4⟩
  go_wp2_with fail
  go_ret
  exact ⟨rfl, hb3.trans (hb4.mono hb3.size)⟩

theorem sealNonces_lifted (os : Os) (started : os.Started) (H : Type) (enc : TypeId × Value → H) :
    ReturnsInHanded {} Tryd.checked os 3 .any (fun w args => (Rows.sealNoncesSpec.pre enc Tryd.prog Tryd.f3 [] false w args ∧ laidMetH Tryd.prog laid1 w) ∧ sizedMet enc Tryd.prog Tryd.f3 (OpenSpec.ofChange Rows.sealNoncesSpec) false w args)
      (Rows.sealNoncesSpec.post enc Tryd.prog Tryd.f3 false true false false) := by
  refine returnsInHanded_of_change_and (C := Tryd.checked) (X := fun w _ => laidMetH Tryd.prog laid1 w) (fun _ _ _ hh h => h.of_heap hh) own1 started (by kernel_rfl) Tryd.func3
    (ChangeSpec.witness_shaped (enc := enc) (C := Tryd.checked) (os := os) (X := fun w _ => laidMetH Tryd.prog laid1 w) false (World.doorLaid Tryd.prog 400 os) #[.string ⟨#[]⟩, .int .i64 0, .int .i64 0] 8 rfl (World.shaped_of_RefB (by kernel_rfl) (by kernel_rfl)) (by kernel_rfl) (by kernel_rfl) (by kernel_rfl) (door_met1 os _)) ?_
  intro W base args ds gs before hval0 hW _ _ hL _
  have hval : ∀ (j : Nat) t v, Tryd.f3.params[j]? = some t → args[j]? = some v → Value.okWide Tryd.prog W .any base t v := hval0
  have hW' := hW
  obtain ⟨p, q, hA0, hV, rfl, hfz, hnd⟩ := hW
  have hA : DataW.TrodAll enc Tryd.prog W 0 (fun _ => true) true Tryd.f3.params.toList args.toList ds p := hA0
  rw [Tryd.params3] at hA hval
  obtain ⟨v0, v1, v2, d0, d1, d2, p0, p1, p2, rfl, rfl, rfl, h0, h1, h2⟩ := trodAll_three hA
  obtain ⟨rfl, rfl⟩ := trodVars_none hV
  obtain ⟨s0, rfl, rfl, rfl, w0⟩ := open_string Tryd.underlying9 (hval 0 9 v0 rfl rfl) h0
  obtain ⟨s1, rfl, rfl, rfl, w1⟩ := open_int Tryd.underlying3 (hval 1 3 v1 rfl rfl) h1
  obtain ⟨s2, rfl, rfl, rfl, w2⟩ := open_int Tryd.underlying3 (hval 2 3 v2 rfl rfl) h2
  have hT := of_laid1 hL
  clear hA0 hval0
  simp only [List.append_nil] at hW'
  refine (sealNonces_any s0 s1 s2 W w0 w1 w2 hT).mono fun e W' ⟨he, hb⟩ => ?_
  subst he
  refine ⟨_, rfl, _, _, _, [], [], [], hW', ?_, ?_, rfl, hb.frame _, fun h => by cases h⟩
  · exact trodAll_mk1 (shut_bool Tryd.underlying4 _)
  · exact trodAll_mk3 (shut_string Tryd.underlying9 w0) (shut_int Tryd.underlying3 w1) (shut_int Tryd.underlying3 w2)

theorem sealNonces_holds : Rows.SealNoncesSaid :=
  OpenClaim.holds_of_wide 3 Tryd.f3 rfl rfl rfl rfl rfl rfl rfl ⟨rfl, rfl, rfl, rfl, rfl⟩ rfl rfl rfl rfl rfl (by kernel_rfl) Tryd.func3 (by kernel_rfl)
    (of_decide_eq_true (by kernel_rfl)) (by unfold Func.isWrapper; first | (rw [if_pos (by decide +kernel)]; kernel_rfl) | (rw [if_neg (by decide +kernel)]; exact ⟨rfl, rfl⟩))
    (fun os started H enc _ => sealNonces_lifted os started H enc)

theorem sealNonces_card : Rows.SealNoncesCardSaid :=
  Claim7.holds_tied_plain_at .later [] [.data] true (true, "7874ff5d721e6f34371930b48cf698bc7c7c44a67f22c7a6c2cbabbdc6262590") false
    sealNonces_holds (fun _ h => by cases h) (by kernel_rfl) (fun _ h => by cases h) sealNonces_row_tie rfl ⟨rfl, rfl⟩ (by kernel_rfl) rfl
    (fun f fn hf hfn => by
      obtain rfl : f = 3 := Option.some.inj ((show Tryd.prog.funcNamed "cresset/cressetlaw07.SealNonces" = some 3 by kernel_rfl).symm.trans hf) |>.symm
      obtain rfl : fn = Tryd.f3 := (Option.some.inj (Tryd.func3.symm.trans hfn)).symm
      exact ⟨by kernel_rfl, fun j t ht => by
        rw [Tryd.params3] at ht
        have hm : t ∈ [9, 3, 3] := by simpa using Array.mem_of_getElem? ht
        have hall : ([9, 3, 3].all fun u => !Tryd.prog.wantsStandIn u) = true := by kernel_rfl
        exact (show Tryd.prog.wantsStandIn t = false by simpa using List.all_eq_true.1 hall t hm)⟩)
    (by kernel_rfl)
#print axioms sealNonces_card
end Go.Proofs.YtaodbhhdjehnnaaDoor
