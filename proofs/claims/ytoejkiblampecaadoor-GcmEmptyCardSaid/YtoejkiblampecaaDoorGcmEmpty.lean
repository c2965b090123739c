/- GcmEmpty: for every key of 16 bytes and nonce of 12, what the program's Seal makes of nothing, beside nothing, is the first counter's block encrypted, and its Hash of nothing is nought; the chapter's examples hold. No condition; the table of squares of package aes lies as the program's text lays it. -/
import Derived.Test.YtoejkiblampecaaDoorCards
import Derived.Test.YtoejkiblampecaaDoorTie
import Derived.SevenTiedAt
import Derived.Test.YtoejkiblampecaaDoorGcmWake
namespace Go.Proofs.YtoejkiblampecaaDoor
open Go.ChangeShapes Go.WideShapes Go.ChangeAt Go.WideMaps Go.WideElems Go.RowKit
open Go.ChangeMaps (open_string shut_string)
set_option maxRecDepth 100000
set_option linter.unusedSimpArgs false
set_option linter.unusedVariables false

set_option maxHeartbeats 1000000 in
theorem gcmEmpty_any (k n : ByteArray) (w : World) (_ : k.size ≤ maxLen) (hnm : n.size ≤ maxLen) (hT : TabQ w) :
    Calls Tryd.prog 8 #[.string k, .string n] w fun e w' => e = .returned (.bool true) ∧ Below w.heap.size w w' := by
  have HT := Lib.hid hT
  clear hT
  unfold maxLen at *
  by_cases hk : ¬ k.size = 16
  · have d1 : ((k.size : Int) != 16) = true := by simp; omega
    go_enter Tryd.func8, Tryd.ntmps8
    go_wp2_with fail
    refine (gawake_any w HT.out).mono ?_
    rintro e W1 ⟨rfl, hb1⟩
    go_wp2_with fail
    go_ret
    exact ⟨rfl, hb1⟩
  have hk := Classical.not_not.1 hk
  have d1 : ((k.size : Int) != 16) = false := by simp; omega
  by_cases hn : ¬ n.size = 12
  · have d2 : ((n.size : Int) != 12) = true := by simp; omega
    go_enter Tryd.func8, Tryd.ntmps8
    go_wp2_with fail
    refine (gawake_any w HT.out).mono ?_
    rintro e W1 ⟨rfl, hb1⟩
    go_wp2_with fail
    go_ret
    exact ⟨rfl, hb1⟩
  have hn := Classical.not_not.1 hn
  have d2 : ((n.size : Int) != 12) = false := by simp; omega
  obtain ⟨r, hr⟩ : ∃ r : ByteArray, r = encS k (n ++ ⟨#[0, 0, 0, 1]⟩) := ⟨_, rfl⟩
  have hns : (n ++ (⟨#[0, 0, 0, 1]⟩ : ByteArray)).size = 16 := by rw [ByteArray.size_append, hn]; rfl
  have hrl : (⟨(sealG k.data.toList n.data.toList [] []).toArray⟩ : ByteArray) = r := by
    rw [sealG_empty, hr, encS, ByteArray.data_append, Array.toList_append]; rfl
  have HS := Lib.hid (fun (W : World) (hq : TabQ W) => gseal_any k n ⟨#[]⟩ ⟨#[]⟩ W hk hn (by show 0 ≤ 15000; omega) (by show 0 ≤ 15000; omega) hq)
  rw [show (⟨#[]⟩ : ByteArray).data.toList = [] from rfl, hrl] at HS
  have HB := Lib.hid (fun (W : World) (hq : TabQ W) => block_enc k (n ++ ⟨#[0, 0, 0, 1]⟩) W hk hns hq)
  rw [← hr] at HB
  have HH := Lib.hid (fun (W : World) => ghash_any k ⟨#[]⟩ W hk rfl (by show 0 ≤ 1099511627776; omega))
  rw [show (⟨#[]⟩ : ByteArray).data.toList = [] from rfl, hashG_none] at HH
  obtain ⟨z, hz⟩ : ∃ z : ByteArray, z = ⟨zeroB.toArray⟩ := ⟨_, rfl⟩
  rw [← hz] at HH
  obtain ⟨i0, hi, hz0, hz1, hz2⟩ := info_parts info_u8
  have hmk : ∀ W : World, (Instr.makeSlice 31 (.int .i64 16) (.int .i64 16)).run Tryd.prog W = .ok (.slice (some ⟨W.heap.size, 0, none⟩) 16 16) (W.alloc (.cells (bcells zeroB) 5)) := fun W => by
    have h := run_makeSlice W 31 5 i0 (.int .u8 0) Tryd.underlying31 hi hz0 .i64 .i64 16 16 (by omega) (by omega) (by rw [hz1]; omega) (by rw [hz2]; omega) (by omega)
    rw [hz1, made_zero] at h
    exact h
  have HCs := Lib.hid (fun W : World => by
    have h := run_string_row (W.alloc (.cells (bcells zeroB) 5)) W.heap.size 16 zeroB (cells_of_bcells (blk_new W (.cells (bcells zeroB) 5)))
    rw [show zeroB.length = 16 from List.length_replicate, ← hz] at h
    exact h)
  have e1 : (r.toList == r.toList) = true := by simp
  have e2 : (z.toList == z.toList) = true := by simp
  have hsz : (n.size : Int) + ((⟨#[0, 0, 0, 1]⟩ : ByteArray).size : Int) ≤ 9223372036854775807 := by rw [hn]; decide
  clear hr hz hrl hi hz0 hz1 hz2 hns
  go_enter Tryd.func8, Tryd.ntmps8
  go_wp2_with fail
  refine (HS.out w HT.out).mono ?_
  rintro e W1 ⟨rfl, hb1⟩
  have HT1 := Lib.hid (HT.out.step hb1)
  clear HS HT
  go_wp2_with fail
  refine (HB.out W1 HT1.out).mono ?_
  rintro e W2 ⟨rfl, hb2⟩
  have HT2 := Lib.hid (HT1.out.step hb2)
  have hb3 := hb1.trans (hb2.mono hb1.size)
  clear HB HT1 hb2
  go_wp2_with fail
  refine (HH.out W2).mono ?_
  rintro e W3 ⟨rfl, hb4⟩
  have HT3 := Lib.hid (HT2.out.step hb4)
  have hb5 := hb3.trans (hb4.mono hb3.size)
  have hcs := HCs.out W3
  have HT4 := Lib.hid (HT3.out.step (below_new W3 (.cells (bcells zeroB) 5)))
  have hb6 := hb5.alloc hb5.size (.cells (bcells zeroB) 5)
  clear HH HT2 hb4 hb3 HCs
  go_wp2_with fail
  refine (gawake_any _ HT4.out).mono ?_
  rintro e W4 ⟨rfl, hb7⟩
  go_wp2_with fail
  go_ret
  exact ⟨rfl, hb6.trans (hb7.mono hb6.size)⟩

theorem gcmEmpty_lifted (os : Os) (started : os.Started) (H : Type) (enc : TypeId × Value → H) :
    ReturnsInHanded {} Tryd.checked os 8 .any (fun w args => (Rows.gcmEmptySpec.pre enc Tryd.prog Tryd.f8 [] false w args ∧ laidMetH Tryd.prog laid1 w) ∧ sizedMet enc Tryd.prog Tryd.f8 (OpenSpec.ofChange Rows.gcmEmptySpec) false w args)
      (Rows.gcmEmptySpec.post enc Tryd.prog Tryd.f8 false true false false) := by
  refine returnsInHanded_of_change_and (C := Tryd.checked) (X := fun w _ => laidMetH Tryd.prog laid1 w) (fun _ _ _ hh h => h.of_heap hh) own1 started (by kernel_rfl) Tryd.func8
    (ChangeSpec.witness_shaped (enc := enc) (C := Tryd.checked) (os := os) (X := fun w _ => laidMetH Tryd.prog laid1 w) false (World.doorLaid Tryd.prog 400 os) #[.string ⟨#[]⟩, .string ⟨#[]⟩] 8 rfl (World.shaped_of_RefB (by kernel_rfl) (by kernel_rfl)) (by kernel_rfl) (by kernel_rfl) (by kernel_rfl) (door_met1 os _)) ?_
  intro W base args ds gs before hval0 hW _ _ hL _
  have hval : ∀ (j : Nat) t v, Tryd.f8.params[j]? = some t → args[j]? = some v → Value.okWide Tryd.prog W .any base t v := hval0
  have hW' := hW
  obtain ⟨p, q, hA0, hV, rfl, hfz, hnd⟩ := hW
  have hA : DataW.TrodAll enc Tryd.prog W 0 (fun _ => true) true Tryd.f8.params.toList args.toList ds p := hA0
  rw [Tryd.params8] at hA hval
  obtain ⟨v0, v1, d0, d1, p0, p1, rfl, rfl, rfl, h0, h1⟩ := trodAll_two hA
  obtain ⟨rfl, rfl⟩ := trodVars_none hV
  obtain ⟨s0, rfl, rfl, rfl, w0⟩ := open_string Tryd.underlying9 (hval 0 9 v0 rfl rfl) h0
  obtain ⟨s1, rfl, rfl, rfl, w1⟩ := open_string Tryd.underlying9 (hval 1 9 v1 rfl rfl) h1
  have hT := of_laid1 hL
  clear hA0 hval0
  simp only [List.append_nil] at hW'
  refine (gcmEmpty_any s0 s1 W w0 w1 hT).mono fun e W' ⟨he, hb⟩ => ?_
  subst he
  refine ⟨_, rfl, _, _, _, [], [], [], hW', ?_, ?_, rfl, hb.frame _, fun h => by cases h⟩
  · exact trodAll_mk1 (shut_bool Tryd.underlying4 _)
  · exact trodAll_mk2 (shut_string Tryd.underlying9 w0) (shut_string Tryd.underlying9 w1)

theorem gcmEmpty_holds : Rows.GcmEmptySaid :=
  OpenClaim.holds_of_wide 8 Tryd.f8 rfl rfl rfl rfl rfl rfl rfl ⟨rfl, rfl, rfl, rfl, rfl⟩ rfl rfl rfl rfl rfl (by kernel_rfl) Tryd.func8 (by kernel_rfl)
    (of_decide_eq_true (by kernel_rfl)) (by unfold Func.isWrapper; first | (rw [if_pos (by decide +kernel)]; kernel_rfl) | (rw [if_neg (by decide +kernel)]; exact ⟨rfl, rfl⟩))
    (fun os started H enc _ => gcmEmpty_lifted os started H enc)

theorem gcmEmpty_card : Rows.GcmEmptyCardSaid :=
  Claim7.holds_tied_plain_at .later [] [.data] true (true, "1920fc86ffd897d46695fa6bd7019bebb46195e78957edda70977a529471b633") false
    gcmEmpty_holds (fun _ h => by cases h) (by kernel_rfl) (fun _ h => by cases h) gcmEmpty_row_tie rfl ⟨rfl, rfl⟩ (by kernel_rfl) rfl
    (fun f fn hf hfn => by
      obtain rfl : f = 8 := Option.some.inj ((show Tryd.prog.funcNamed "cresset/cressetlaw06.GcmEmpty" = some 8 by kernel_rfl).symm.trans hf) |>.symm
      obtain rfl : fn = Tryd.f8 := (Option.some.inj (Tryd.func8.symm.trans hfn)).symm
      exact ⟨by kernel_rfl, fun j t ht => by
        rw [Tryd.params8] at ht
        have hm : t ∈ [9, 9] := by simpa using Array.mem_of_getElem? ht
        have hall : ([9, 9].all fun u => !Tryd.prog.wantsStandIn u) = true := by kernel_rfl
        exact (show Tryd.prog.wantsStandIn t = false by simpa using List.all_eq_true.1 hall t hm)⟩)
    (by kernel_rfl)
#print axioms gcmEmpty_card
end Go.Proofs.YtoejkiblampecaaDoor
