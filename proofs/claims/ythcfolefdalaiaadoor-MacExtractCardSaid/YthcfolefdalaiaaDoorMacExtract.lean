/- MacExtract: for every salt and input of at most 1000 bytes the program's Extract is its Mac of size 32 under the salt, 32 zero bytes if the salt is empty; the chapter's examples hold. No condition; the two tables of package sha lie as the program's text lays them. -/
import Derived.Test.YthcfolefdalaiaaDoorFrame
import Derived.Test.YthcfolefdalaiaaDoorCards
import Derived.Test.YthcfolefdalaiaaDoorTie
import Derived.SevenTiedAt
import Derived.Test.YthcfolefdalaiaaDoorMacAwake
namespace Go.Proofs.YthcfolefdalaiaaDoor
open Go.ChangeShapes Go.WideShapes Go.ChangeAt Go.WideMaps Go.WideElems Go.RowKit
open Go.ChangeMaps (open_string shut_string)
set_option maxRecDepth 100000
set_option linter.unusedSimpArgs false
set_option linter.unusedVariables false

theorem mac32_zeros (input : List UInt8) : mac32 (List.replicate 32 0) input = mac32 [] input := by
  rw [mac32, mac32, keyOf32, if_neg (by simp), keyOf32, if_neg (by simp), blockL_zeros 32 (by omega)]
set_option maxHeartbeats 1000000 in
theorem macExtract_any (a b : ByteArray) (w : World) (ha : a.size ≤ maxLen) (hb : b.size ≤ maxLen) (hK : TabK w kf) (hH : TabH w hf) :
    Calls Tryd.prog 12 #[.string a, .string b] w fun e w' => e = .returned (.bool true) ∧ Below w.heap.size w w' := by
  unfold maxLen at ha hb
  by_cases hsa : 1000 < a.size
  · have hd : decide ((1000 : Int) < (a.size : Int)) = true := by simp; omega
    go_enter Tryd.func12, Tryd.ntmps12
    go_wp2_with fail
    refine (mawake_any _ hK hH).mono ?_
    rintro e W1 ⟨rfl, hb1⟩
    go_wp2_with fail
    go_ret
    exact ⟨rfl, hb1⟩
  have hd : decide ((1000 : Int) < (a.size : Int)) = false := by simp; omega
  by_cases hsb : 1000 < b.size
  · have hd2 : decide ((1000 : Int) < (b.size : Int)) = true := by simp; omega
    go_enter Tryd.func12, Tryd.ntmps12
    go_wp2_with fail
    refine (mawake_any _ hK hH).mono ?_
    rintro e W1 ⟨rfl, hb1⟩
    go_wp2_with fail
    go_ret
    exact ⟨rfl, hb1⟩
  have hd2 : decide ((1000 : Int) < (b.size : Int)) = false := by simp; omega
  by_cases hz : a.size = 0
  · have hl0 : a.data.toList = [] := List.eq_nil_of_length_eq_zero (by rw [← Lib.size_eq]; exact hz)
    have ht : (a.toList == []) = true := by rw [Lib.toList_data, hl0]; rfl
    obtain ⟨i0, hi, hz0, hz1, hz2⟩ := info_parts info_u8
    have hmk : ∀ W : World, (Instr.makeSlice 46 (.int .i64 32) (.int .i64 32)).run Tryd.prog W = .ok (.slice (some ⟨W.heap.size, 0, none⟩) 32 32) (W.alloc (.cells zeros32 5)) := fun W => by
      have h := run_make (P := Tryd.prog) W 46 5 i0 (.int .u8 0) Tryd.underlying46 hi hz0 .i64 .i64 32 32 (by omega) (by omega) (by rw [hz2]; omega) (by omega)
      rw [hz1, made_zero] at h
      exact h
    have hB0 := below_new w (.cells zeros32 5)
    obtain ⟨z32, hz32⟩ : ∃ z : List UInt8, z = List.replicate 32 0 := ⟨_, rfl⟩
    have hcv := run_string_row (w.alloc (.cells zeros32 5)) w.heap.size 32 z32 (by rw [hz32]; exact cells_of_bcells (blk_new w (.cells zeros32 5)))
    rw [show z32.length = 32 from by rw [hz32]; simp] at hcv
    have h1 := fun W hK hH => mac32_any ⟨z32.toArray⟩ b W hK hH (by rw [Lib.size_eq]; simp [hz32]) (by omega)
    simp only [List.toList_toArray] at h1
    rw [hz32, mac32_zeros, ← hl0] at h1
    have h2 := fun W hK hH => extract_any a b W hK hH (by omega) (by omega)
    generalize (⟨(mac32 a.data.toList b.data.toList).toArray⟩ : ByteArray) = x at *
    rw [← hz32] at h1
    have H1 := Lib.hid h1; have H2 := Lib.hid h2
    have hK0 := hK.below hB0 hK.lt; have hH0 := hH.below hB0 hH.lt
    clear h1 h2 hz32 hl0 hi hz0 hz1 hz2 hK hH
    go_enter Tryd.func12, Tryd.ntmps12
    go_wp2_with fail
    have hsz0 : w.heap.size ≤ (w.alloc (.cells zeros32 5)).heap.size := by simp
    clear hmk hcv
    generalize (w.alloc (.cells zeros32 5)) = W0 at *
    refine (H1.out W0 hK0 hH0).mono ?_
    rintro e W1 ⟨rfl, hb1⟩
    have hK1 := hK0.below hb1 hK0.lt; have hH1 := hH0.below hb1 hH0.lt
    have hB1 : Below w.heap.size w W1 := hB0.trans (hb1.mono hsz0)
    have hsz1 := Nat.le_trans hsz0 hb1.size
    clear H1
    go_wp2_with fail
    refine (H2.out W1 hK1 hH1).mono ?_
    rintro e W2 ⟨rfl, hb2⟩
    have hK2 := hK1.below hb2 hK1.lt; have hH2 := hH1.below hb2 hH1.lt
    have hB2 : Below w.heap.size w W2 := hB1.trans (hb2.mono hsz1)
    have hsz2 := Nat.le_trans hsz1 hb2.size
    clear H2
    go_wp2_with fail
    refine (mawake_any _ hK2 hH2).mono ?_
    rintro e W3 ⟨rfl, hb3⟩
    go_wp2_with fail
    go_ret
    exact ⟨rfl, hB2.trans (hb3.mono hsz2)⟩
  · have hl0 : a.data.toList ≠ [] := fun e => hz (by rw [Lib.size_eq, e]; rfl)
    have ht : (a.toList == []) = false := by rw [Lib.toList_data]; simpa using hl0
    have h1 := fun W hK hH => mac32_any a b W hK hH (by omega) (by omega)
    have h2 := fun W hK hH => extract_any a b W hK hH (by omega) (by omega)
    generalize (⟨(mac32 a.data.toList b.data.toList).toArray⟩ : ByteArray) = x at *
    have H1 := Lib.hid h1; have H2 := Lib.hid h2
    clear h1 h2 hl0
    go_enter Tryd.func12, Tryd.ntmps12
    go_wp2_with fail
    refine (H1.out w hK hH).mono ?_
    rintro e W1 ⟨rfl, hb1⟩
    have hK1 := hK.below hb1 hK.lt; have hH1 := hH.below hb1 hH.lt
    clear H1
    go_wp2_with fail
    refine (H2.out W1 hK1 hH1).mono ?_
    rintro e W2 ⟨rfl, hb2⟩
    have hK2 := hK1.below hb2 hK1.lt; have hH2 := hH1.below hb2 hH1.lt
    have hB2 : Below w.heap.size w W2 := hb1.trans (hb2.mono hb1.size)
    have hsz2 := Nat.le_trans hb1.size hb2.size
    clear H2
    go_wp2_with fail
    refine (mawake_any _ hK2 hH2).mono ?_
    rintro e W3 ⟨rfl, hb3⟩
    go_wp2_with fail
    go_ret
    exact ⟨rfl, hB2.trans (hb3.mono hsz2)⟩

theorem macExtract_lifted (os : Os) (started : os.Started) (H : Type) (enc : TypeId × Value → H) :
    ReturnsInHanded {} Tryd.checked os 12 .any (fun w args => (Rows.macExtractSpec.pre enc Tryd.prog Tryd.f12 [] false w args ∧ laidMetH Tryd.prog laid2 w) ∧ sizedMet enc Tryd.prog Tryd.f12 (OpenSpec.ofChange Rows.macExtractSpec) false w args)
      (Rows.macExtractSpec.post enc Tryd.prog Tryd.f12 false true false false) := by
  refine returnsInHanded_of_change_and (C := Tryd.checked) (X := fun w _ => laidMetH Tryd.prog laid2 w) (fun _ _ _ hh h => h.of_heap hh) own started (by kernel_rfl) Tryd.func12
    (ChangeSpec.witness_shaped (enc := enc) (C := Tryd.checked) (os := os) (X := fun w _ => laidMetH Tryd.prog laid2 w) false (World.doorLaid Tryd.prog 400 os) #[.string ⟨#[]⟩, .string ⟨#[]⟩] 8 rfl (World.shaped_of_RefB (by kernel_rfl) (by kernel_rfl)) (by kernel_rfl) (by kernel_rfl) (by kernel_rfl) (door_met os _)) ?_
  intro W base args ds gs before hval0 hW _ _ hL _
  have hval : ∀ (j : Nat) t v, Tryd.f12.params[j]? = some t → args[j]? = some v → Value.okWide Tryd.prog W .any base t v := hval0
  have hW' := hW
  obtain ⟨p, q, hA0, hV, rfl, hfz, hnd⟩ := hW
  have hA : DataW.TrodAll enc Tryd.prog W 0 (fun _ => true) true Tryd.f12.params.toList args.toList ds p := hA0
  rw [Tryd.params12] at hA hval
  obtain ⟨v0, v1, d0, d1, p0, p1, rfl, rfl, rfl, h0, h1⟩ := trodAll_two hA
  obtain ⟨rfl, rfl⟩ := trodVars_none hV
  obtain ⟨s0, rfl, rfl, rfl, w0⟩ := open_string Tryd.underlying9 (hval 0 9 v0 rfl rfl) h0
  obtain ⟨s1, rfl, rfl, rfl, w1⟩ := open_string Tryd.underlying9 (hval 1 9 v1 rfl rfl) h1
  obtain ⟨hH, hK⟩ := of_laid hL
  clear hA0 hval0
  simp only [List.append_nil] at hW'
  refine (macExtract_any s0 s1 W w0 w1 hK hH).mono fun e W' ⟨he, hb⟩ => ?_
  subst he
  refine ⟨_, rfl, _, _, _, [], [], [], hW', ?_, ?_, rfl, hb.frame _, fun h => by cases h⟩
  · exact trodAll_mk1 (shut_bool Tryd.underlying4 _)
  · exact trodAll_mk2 (shut_string Tryd.underlying9 w0) (shut_string Tryd.underlying9 w1)

theorem macExtract_holds : Rows.MacExtractSaid :=
  OpenClaim.holds_of_wide 12 Tryd.f12 rfl rfl rfl rfl rfl rfl rfl ⟨rfl, rfl, rfl, rfl, rfl⟩ rfl rfl rfl rfl rfl (by kernel_rfl) Tryd.func12 (by kernel_rfl)
    (of_decide_eq_true (by kernel_rfl)) (by unfold Func.isWrapper; first | (rw [if_pos (by decide +kernel)]; kernel_rfl) | (rw [if_neg (by decide +kernel)]; exact ⟨rfl, rfl⟩))
    (fun os started H enc _ => macExtract_lifted os started H enc)

theorem macExtract_card : Rows.MacExtractCardSaid :=
  Claim7.holds_tied_plain_at .later [] [.data, .data] true (true, "225435dd55d283f3af50af713b04fb7b7711febad748264678e6632345c27f3b") false
    macExtract_holds (fun _ h => by cases h) (by kernel_rfl) (fun _ h => by cases h) macExtract_row_tie rfl ⟨rfl, rfl⟩ (by kernel_rfl) rfl
    (fun f fn hf hfn => by
      obtain rfl : f = 12 := Option.some.inj ((show Tryd.prog.funcNamed "cresset/cressetlaw02.MacExtract" = some 12 by kernel_rfl).symm.trans hf) |>.symm
      obtain rfl : fn = Tryd.f12 := (Option.some.inj (Tryd.func12.symm.trans hfn)).symm
      exact ⟨by kernel_rfl, fun j t ht => by
        rw [Tryd.params12] at ht
        have hm : t ∈ [9, 9] := by simpa using Array.mem_of_getElem? ht
        have hall : ([9, 9].all fun u => !Tryd.prog.wantsStandIn u) = true := by kernel_rfl
        exact (show Tryd.prog.wantsStandIn t = false by simpa using List.all_eq_true.1 hall t hm)⟩)
    (by kernel_rfl)
#print axioms macExtract_card
end Go.Proofs.YthcfolefdalaiaaDoor
