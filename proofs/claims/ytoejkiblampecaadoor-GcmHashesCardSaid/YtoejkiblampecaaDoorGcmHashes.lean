/- GcmHashes: for every key, and every text of at most 2000 bytes, the program's Hash is the reference's, its refusals too; the chapter's examples hold. No condition; the table of squares of package aes lies as the program's text lays it. -/
import Derived.Test.YtoejkiblampecaaDoorCards
import Derived.Test.YtoejkiblampecaaDoorTie
import Derived.SevenTiedAt
import Derived.Test.YtoejkiblampecaaDoorGcmWake
namespace Go.Proofs.YtoejkiblampecaaDoor
open Go.ChangeShapes Go.WideShapes Go.ChangeAt Go.WideMaps Go.WideElems Go.RowKit
open Go.ChangeMaps (open_string shut_string)
set_option maxRecDepth 100000
set_option linter.unusedSimpArgs false
set_option linter.unusedVariables false

theorem gcmHashSame (k b : ByteArray) (hs : b.size ≤ 1099511627776) : ∃ (x : ByteArray) (q : Int), (∀ W, Calls Tryd.prog 10 #[.string k, .string b] W fun e w' => e = .returned (.tuple #[.string x, .int .i64 q]) ∧ Below W.heap.size W w') ∧ (∀ W, Calls Tryd.prog 11 #[.string k, .string b] W fun e w' => e = .returned (.tuple #[.string x, .int .i64 q]) ∧ Below W.heap.size W w') := by
  by_cases h1 : k.size = 16
  · by_cases h2 : b.size % 16 = 0
    · exact ⟨_, _, fun W => ghash_any k b W h1 h2 hs, fun W => rHash_any k b W h1 h2 hs⟩
    · exact ⟨_, _, fun W => ghashArg_any k b W h1 h2, fun W => rHashArg_any k b W h1 h2⟩
  · exact ⟨_, _, fun W => ghashKey_any k b W h1, fun W => rHashKey_any k b W h1⟩
set_option maxHeartbeats 1000000 in
theorem gcmHashes_any (k b : ByteArray) (w : World) (_ : k.size ≤ maxLen) (_ : b.size ≤ maxLen) (hT : TabQ w) :
    Calls Tryd.prog 3 #[.string k, .string b] w fun e w' => e = .returned (.bool true) ∧ Below w.heap.size w w' := by
  have HT := Lib.hid hT
  clear hT
  by_cases h0 : 2000 < b.size
  · have hd0 : decide ((2000 : Int) < (b.size : Int)) = true := by simp; omega
    go_enter Tryd.func3, Tryd.ntmps3
    go_wp2_with fail
    refine (gawake_any w HT.out).mono ?_
    rintro e W1 ⟨rfl, hb1⟩
    go_wp2_with fail
    go_ret
    exact ⟨rfl, hb1⟩
  have hd0 : decide ((2000 : Int) < (b.size : Int)) = false := by simp; omega
  obtain ⟨x, q, x1, x2⟩ := gcmHashSame k b (by omega)
  have H1 := Lib.hid x1; have H2 := Lib.hid x2
  clear x1 x2
  have ex : (x.toList == x.toList) = true := by simp
  have eq : (q == q) = true := by simp
  go_enter Tryd.func3, Tryd.ntmps3
  go_wp2_with fail
  refine (H1.out w).mono ?_
  rintro e W1 ⟨rfl, hb1⟩
  have hsz1 := hb1.size
  have HT1 := Lib.hid (HT.out.step hb1)
  clear H1 HT
  go_wp2_with fail
  refine (H2.out W1).mono ?_
  rintro e W2 ⟨rfl, hb2⟩
  have hB2 : Below w.heap.size w W2 := hb1.trans (hb2.mono hsz1)
  have hsz2 := Nat.le_trans hsz1 hb2.size
  have HT2 := Lib.hid (HT1.out.step hb2)
  clear H2 hb2 hb1 HT1
  go_wp2_with fail
  refine (gawake_any W2 HT2.out).mono ?_
  rintro e W3 ⟨rfl, hb3⟩
  go_wp2_with fail
  go_ret
  exact ⟨rfl, hB2.trans (hb3.mono hsz2)⟩

theorem gcmHashes_lifted (os : Os) (started : os.Started) (H : Type) (enc : TypeId × Value → H) :
    ReturnsInHanded {} Tryd.checked os 3 .any (fun w args => (Rows.gcmHashesSpec.pre enc Tryd.prog Tryd.f3 [] false w args ∧ laidMetH Tryd.prog laid1 w) ∧ sizedMet enc Tryd.prog Tryd.f3 (OpenSpec.ofChange Rows.gcmHashesSpec) false w args)
      (Rows.gcmHashesSpec.post enc Tryd.prog Tryd.f3 false true false false) := by
  refine returnsInHanded_of_change_and (C := Tryd.checked) (X := fun w _ => laidMetH Tryd.prog laid1 w) (fun _ _ _ hh h => h.of_heap hh) own1 started (by kernel_rfl) Tryd.func3
    (ChangeSpec.witness_shaped (enc := enc) (C := Tryd.checked) (os := os) (X := fun w _ => laidMetH Tryd.prog laid1 w) false (World.doorLaid Tryd.prog 400 os) #[.string ⟨#[]⟩, .string ⟨#[]⟩] 8 rfl (World.shaped_of_RefB (by kernel_rfl) (by kernel_rfl)) (by kernel_rfl) (by kernel_rfl) (by kernel_rfl) (door_met1 os _)) ?_
  intro W base args ds gs before hval0 hW _ _ hL _
  have hval : ∀ (j : Nat) t v, Tryd.f3.params[j]? = some t → args[j]? = some v → Value.okWide Tryd.prog W .any base t v := hval0
  have hW' := hW
  obtain ⟨p, q, hA0, hV, rfl, hfz, hnd⟩ := hW
  have hA : DataW.TrodAll enc Tryd.prog W 0 (fun _ => true) true Tryd.f3.params.toList args.toList ds p := hA0
  rw [Tryd.params3] at hA hval
  obtain ⟨v0, v1, d0, d1, p0, p1, rfl, rfl, rfl, h0, h1⟩ := trodAll_two hA
  obtain ⟨rfl, rfl⟩ := trodVars_none hV
  obtain ⟨s0, rfl, rfl, rfl, w0⟩ := open_string Tryd.underlying9 (hval 0 9 v0 rfl rfl) h0
  obtain ⟨s1, rfl, rfl, rfl, w1⟩ := open_string Tryd.underlying9 (hval 1 9 v1 rfl rfl) h1
  have hT := of_laid1 hL
  clear hA0 hval0
  simp only [List.append_nil] at hW'
  refine (gcmHashes_any s0 s1 W w0 w1 hT).mono fun e W' ⟨he, hb⟩ => ?_
  subst he
  refine ⟨_, rfl, _, _, _, [], [], [], hW', ?_, ?_, rfl, hb.frame _, fun h => by cases h⟩
  · exact trodAll_mk1 (shut_bool Tryd.underlying4 _)
  · exact trodAll_mk2 (shut_string Tryd.underlying9 w0) (shut_string Tryd.underlying9 w1)

theorem gcmHashes_holds : Rows.GcmHashesSaid :=
  OpenClaim.holds_of_wide 3 Tryd.f3 rfl rfl rfl rfl rfl rfl rfl ⟨rfl, rfl, rfl, rfl, rfl⟩ rfl rfl rfl rfl rfl (by kernel_rfl) Tryd.func3 (by kernel_rfl)
    (of_decide_eq_true (by kernel_rfl)) (by unfold Func.isWrapper; first | (rw [if_pos (by decide +kernel)]; kernel_rfl) | (rw [if_neg (by decide +kernel)]; exact ⟨rfl, rfl⟩))
    (fun os started H enc _ => gcmHashes_lifted os started H enc)

theorem gcmHashes_card : Rows.GcmHashesCardSaid :=
  Claim7.holds_tied_plain_at .later [] [.data] true (true, "1920fc86ffd897d46695fa6bd7019bebb46195e78957edda70977a529471b633") false
    gcmHashes_holds (fun _ h => by cases h) (by kernel_rfl) (fun _ h => by cases h) gcmHashes_row_tie rfl ⟨rfl, rfl⟩ (by kernel_rfl) rfl
    (fun f fn hf hfn => by
      obtain rfl : f = 3 := Option.some.inj ((show Tryd.prog.funcNamed "cresset/cressetlaw06.GcmHashes" = some 3 by kernel_rfl).symm.trans hf) |>.symm
      obtain rfl : fn = Tryd.f3 := (Option.some.inj (Tryd.func3.symm.trans hfn)).symm
      exact ⟨by kernel_rfl, fun j t ht => by
        rw [Tryd.params3] at ht
        have hm : t ∈ [9, 9] := by simpa using Array.mem_of_getElem? ht
        have hall : ([9, 9].all fun u => !Tryd.prog.wantsStandIn u) = true := by kernel_rfl
        exact (show Tryd.prog.wantsStandIn t = false by simpa using List.all_eq_true.1 hall t hm)⟩)
    (by kernel_rfl)
#print axioms gcmHashes_card
end Go.Proofs.YtoejkiblampecaaDoor
