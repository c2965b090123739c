/- SealSizes: every number has as many bytes of a key as the reference says, and a number that is no suite's seals nothing; the chapter's examples hold. No condition; the table of squares of package aes lies as the program's text lays it. -/
import Derived.Test.YtaodbhhdjehnnaaDoorCards
import Derived.Test.YtaodbhhdjehnnaaDoorTie
import Derived.SevenTiedAt
import Derived.Test.YtaodbhhdjehnnaaDoorSealWake
import Derived.Test.YtaodbhhdjehnnaaDoorSealRefN
namespace Go.Proofs.YtaodbhhdjehnnaaDoor
open Go.ChangeShapes Go.WideShapes Go.ChangeAt Go.WideMaps Go.WideElems Go.RowKit
open Go.ChangeMaps (open_string shut_string)
set_option maxRecDepth 100000
set_option linter.unusedSimpArgs false
set_option linter.unusedVariables false

/-- What is answered for a key of the right size. -/
theorem size_ans (su : Int) : ∃ (n : Nat) (x : ByteArray) (q : Int), sizeS su = (n : Int) ∧ n ≤ 32 ∧ sealO su (zb n) (zb 12) noB ⟨#[120]⟩ = (x, q) ∧ ((0 < n ∧ x.size = 17 ∧ q = 0) ∨ (n = 0 ∧ x = noB ∧ q = 1)) := by
  by_cases h1 : su = 4865
  · subst h1
    refine ⟨16, _, _, rfl, by omega, by rw [sealO, if_pos rfl, if_pos ⟨zb_size 16, zb_size 12⟩], .inl ⟨by omega, ?_, rfl⟩⟩
    exact sealG_length _ _ _ _
  · by_cases h2 : su = 4867
    · subst h2
      refine ⟨32, _, _, rfl, by omega, by rw [sealO, if_neg (by decide), if_pos rfl, if_pos ⟨zb_size 32, zb_size 12⟩], .inl ⟨by omega, ?_, rfl⟩⟩
      exact sealS_length _ _ _ _
    · exact ⟨0, noB, 1, by rw [sizeS, if_neg h1, if_neg h2]; rfl, by omega, by rw [sealO, if_neg h1, if_neg h2], .inr ⟨rfl, rfl, rfl⟩⟩
set_option maxHeartbeats 2000000 in
theorem sealSizes_any (su : Int) (w : World) (_ : (Lit.int .i64 su).wf = true) (hT : TabQ w) :
    Calls Tryd.prog 6 #[.int .i64 su] w fun e w' => e = .returned (.bool true) ∧ Below w.heap.size w w' := by
  obtain ⟨n, x, q, hn, hn32, hs, hor⟩ := size_ans su
  have HS := Lib.hid (fun W => sSize_any su W)
  have HR := Lib.hid (fun W => rSize_any su W)
  rw [hn] at HS HR
  have HSe := Lib.hid (fun W hq => sealO_any su (zb n) (zb 12) noB ⟨#[120]⟩ W (by decide) (by decide) hq)
  rw [hs] at HSe
  unfold ansO at HSe
  have HT := Lib.hid hT
  have HN := Lib.hid hn32
  clear hT hs hn hn32
  go_enter Tryd.func6, Tryd.ntmps6
  go_wp2_with fail
  refine (HS.out w).mono ?_
  rintro e W ⟨rfl, rfl⟩
  go_wp2_with fail
  refine wp_region_made 11 53 [.val (.int .i64 su) [(0, .int .i64 su)], .val (.int .i64 n) [(3, .int .i64 n)], .new (zo n) (mkS n n) [(10, .int .i64 n)], .from (.string (zb n)) [] [(2, 11, zo n, mkS n n)],
    .new (zo 12) (mkS 12 12) [], .from (.string (zb 12)) [] [(4, 13, zo 12, mkS 12 12)],
    .val (.tuple #[.string x, .int .i64 q]) [(9, .int .i64 su), (12, .string (zb n)), (14, .string (zb 12))], .val (.tuple #[.string x, .int .i64 q]) [(15, .tuple #[.string x, .int .i64 q])],
    .val (.string x) [(8, .tuple #[.string x, .int .i64 q])], .val (.int .i64 q) [(8, .tuple #[.string x, .int .i64 q])], .val (.string x) [(16, .string x)]]
    (by kernel_rfl) (by kernel_rfl) (by kernel_rfl) rfl ?_ ?_ ?_ ?_
  · simp [madeMk, MadeSpec.val, MadeSpec.from, MadeSpec.new]
  · simp only [List.take_succ_cons, List.take_zero, madeObl, madeSpecObl, MadeSpec.val, MadeSpec.from, MadeSpec.new, and_true]
    refine ⟨?_, ?_, ?_, ?_, ?_, ?_, ?_, ?_, ?_, ?_, ?_⟩
    · intro a w1 hb h _
      have e0 := h (0, .int .i64 su) (by simp)
      simp only [Array.getD_eq_getD_getElem?] at e0
      simp [go_sem, e0, sQuiet]
    · intro a w1 hb h _
      have e0 := h (3, .int .i64 n) (by simp)
      simp only [Array.getD_eq_getD_getElem?] at e0
      simp [go_sem, e0, sQuiet]
    · refine ⟨fun g => rfl, ?_⟩
      intro a w1 hb h
      have e0 := h (10, .int .i64 n) (by simp)
      simp only [Array.getD_eq_getD_getElem?] at e0
      simp [go_sem, e0, make_zeros w1 n n rfl (by have := HN.out; omega), mkS]
    · intro a w1 hb h hm
      obtain ⟨g, e1, hgo⟩ := hm _ (List.mem_singleton.2 rfl)
      simp only [Array.getD_eq_getD_getElem?] at e1
      simp [go_sem, e1, sQuiet, mkS, string_zeros w1 g n hgo]
    · refine ⟨fun g => rfl, ?_⟩
      intro a w1 hb h
      simp [go_sem, make_zeros w1 12 12 rfl (by omega), mkS]
    · intro a w1 hb h hm
      obtain ⟨g, e1, hgo⟩ := hm _ (List.mem_singleton.2 rfl)
      simp only [Array.getD_eq_getD_getElem?] at e1
      simp [go_sem, e1, sQuiet, mkS, string_zeros w1 g 12 hgo]
    · intro a w1 hb h _
      have e0 := h (9, .int .i64 su) (by simp)
      have e1 := h (12, .string (zb n)) (by simp)
      have e2 := h (14, .string (zb 12)) (by simp)
      simp only [Array.getD_eq_getD_getElem?] at e0 e1 e2
      simp [go_sem, e0, e1, e2, sQuiet]
      exact HSe.out w1 (HT.out.step hb)
    · intro a w1 hb h _
      have e0 := h (15, .tuple #[.string x, .int .i64 q]) (by simp)
      simp only [Array.getD_eq_getD_getElem?] at e0
      simp [go_sem, e0, sQuiet]
    · intro a w1 hb h _
      have e0 := h (8, .tuple #[.string x, .int .i64 q]) (by simp)
      simp only [Array.getD_eq_getD_getElem?] at e0
      simp [go_sem, e0, sQuiet]
    · intro a w1 hb h _
      have e0 := h (8, .tuple #[.string x, .int .i64 q]) (by simp)
      simp only [Array.getD_eq_getD_getElem?] at e0
      simp [go_sem, e0, sQuiet]
    · intro a w1 hb h _
      have e0 := h (16, .string x) (by simp)
      simp only [Array.getD_eq_getD_getElem?] at e0
      simp [go_sem, e0, sQuiet]
  · simp [madeReads, headPut, madeV, MadeSpec.val, MadeSpec.from, MadeSpec.new, Act.put]
  · simp only [List.take_succ_cons, List.take_zero, List.drop_succ_cons, List.drop_zero, madeEnd, MadeSpec.val, MadeSpec.from, MadeSpec.new, Act.put, List.setIfInBounds_toArray, List.set_cons_succ, List.set_cons_zero]
    intro g0 _ _ g2 _ _ W2 hb2 _
    have HT2 := Lib.hid (HT.out.step hb2)
    clear HSe HT HS
    simp only [mkS]
    have en : ((n : Int) == (n : Int)) = true := by simp
    rcases hor with ⟨h1, h2, rfl⟩ | ⟨rfl, rfl, rfl⟩
    · have h3 : ((x.size : Int) == 17) = true := by rw [h2]; rfl
      have h4 : decide ((0 : Int) < (n : Int)) = true := by simp; omega
      clear h2
      go_wp2_with fail
      refine (HR.out W2).mono ?_
      rintro e W ⟨rfl, rfl⟩
      go_wp2_with fail
      refine (swake_any W2 HT2.out).mono ?_
      rintro e W3 ⟨rfl, hb3⟩
      go_wp2_with fail
      go_ret
      exact ⟨rfl, hb2.trans (hb3.mono hb2.size)⟩
    · have he : noB.toList.isEmpty = true := by rw [Lib.toList_data]; rfl
      go_wp2_with fail
      refine (HR.out W2).mono ?_
      rintro e W ⟨rfl, rfl⟩
      go_wp2_with fail
      refine (swake_any W2 HT2.out).mono ?_
      rintro e W3 ⟨rfl, hb3⟩
      go_wp2_with fail
      go_ret
      exact ⟨rfl, hb2.trans (hb3.mono hb2.size)⟩

theorem sealSizes_lifted (os : Os) (started : os.Started) (H : Type) (enc : TypeId × Value → H) :
    ReturnsInHanded {} Tryd.checked os 6 .any (fun w args => (Rows.sealSizesSpec.pre enc Tryd.prog Tryd.f6 [] false w args ∧ laidMetH Tryd.prog laid1 w) ∧ sizedMet enc Tryd.prog Tryd.f6 (OpenSpec.ofChange Rows.sealSizesSpec) false w args)
      (Rows.sealSizesSpec.post enc Tryd.prog Tryd.f6 false true false false) := by
  refine returnsInHanded_of_change_and (C := Tryd.checked) (X := fun w _ => laidMetH Tryd.prog laid1 w) (fun _ _ _ hh h => h.of_heap hh) own1 started (by kernel_rfl) Tryd.func6
    (ChangeSpec.witness_shaped (enc := enc) (C := Tryd.checked) (os := os) (X := fun w _ => laidMetH Tryd.prog laid1 w) false (World.doorLaid Tryd.prog 400 os) #[.int .i64 0] 8 rfl (World.shaped_of_RefB (by kernel_rfl) (by kernel_rfl)) (by kernel_rfl) (by kernel_rfl) (by kernel_rfl) (door_met1 os _)) ?_
  intro W base args ds gs before hval0 hW _ _ hL _
  have hval : ∀ (j : Nat) t v, Tryd.f6.params[j]? = some t → args[j]? = some v → Value.okWide Tryd.prog W .any base t v := hval0
  have hW' := hW
  obtain ⟨p, q, hA0, hV, rfl, hfz, hnd⟩ := hW
  have hA : DataW.TrodAll enc Tryd.prog W 0 (fun _ => true) true Tryd.f6.params.toList args.toList ds p := hA0
  rw [Tryd.params6] at hA hval
  obtain ⟨v0, d0, rfl, rfl, h0⟩ := trodAll_one hA
  obtain ⟨rfl, rfl⟩ := trodVars_none hV
  obtain ⟨s0, rfl, rfl, rfl, w0⟩ := open_int Tryd.underlying3 (hval 0 3 v0 rfl rfl) h0
  have hT := of_laid1 hL
  clear hA0 hval0
  simp only [List.append_nil] at hW'
  refine (sealSizes_any s0 W w0 hT).mono fun e W' ⟨he, hb⟩ => ?_
  subst he
  refine ⟨_, rfl, _, _, _, [], [], [], hW', ?_, ?_, rfl, hb.frame _, fun h => by cases h⟩
  · exact trodAll_mk1 (shut_bool Tryd.underlying4 _)
  · exact trodAll_mk1 (shut_int Tryd.underlying3 w0)

theorem sealSizes_holds : Rows.SealSizesSaid :=
  OpenClaim.holds_of_wide 6 Tryd.f6 rfl rfl rfl rfl rfl rfl rfl ⟨rfl, rfl, rfl, rfl, rfl⟩ rfl rfl rfl rfl rfl (by kernel_rfl) Tryd.func6 (by kernel_rfl)
    (of_decide_eq_true (by kernel_rfl)) (by unfold Func.isWrapper; first | (rw [if_pos (by decide +kernel)]; kernel_rfl) | (rw [if_neg (by decide +kernel)]; exact ⟨rfl, rfl⟩))
    (fun os started H enc _ => sealSizes_lifted os started H enc)

theorem sealSizes_card : Rows.SealSizesCardSaid :=
  Claim7.holds_tied_plain_at .later [] [.data] true (true, "7874ff5d721e6f34371930b48cf698bc7c7c44a67f22c7a6c2cbabbdc6262590") false
    sealSizes_holds (fun _ h => by cases h) (by kernel_rfl) (fun _ h => by cases h) sealSizes_row_tie rfl ⟨rfl, rfl⟩ (by kernel_rfl) rfl
    (fun f fn hf hfn => by
      obtain rfl : f = 6 := Option.some.inj ((show Tryd.prog.funcNamed "cresset/cressetlaw07.SealSizes" = some 6 by kernel_rfl).symm.trans hf) |>.symm
      obtain rfl : fn = Tryd.f6 := (Option.some.inj (Tryd.func6.symm.trans hfn)).symm
      exact ⟨by kernel_rfl, fun j t ht => by
        rw [Tryd.params6] at ht
        have hm : t ∈ [3] := by simpa using Array.mem_of_getElem? ht
        have hall : ([3].all fun u => !Tryd.prog.wantsStandIn u) = true := by kernel_rfl
        exact (show Tryd.prog.wantsStandIn t = false by simpa using List.all_eq_true.1 hall t hm)⟩)
    (by kernel_rfl)
#print axioms sealSizes_card
end Go.Proofs.YtaodbhhdjehnnaaDoor
