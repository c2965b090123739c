/- ShaSizes: for every text of at most 5000 bytes digests have 32 and 64 bytes, and a hash that has taken the text up has its digest; the chapter's two examples hold. No condition; the two tables of package sha lie as the program's text lays them. -/
import Derived.Test.YtbaalgbkpgfhcaaDoorHash
import Derived.Test.YtbaalgbkpgfhcaaDoorFrame
import Derived.Test.YtbaalgbkpgfhcaaDoorCards
import Derived.Test.YtbaalgbkpgfhcaaDoorTie
import Derived.SevenTiedAt
namespace Go.Proofs.YtbaalgbkpgfhcaaDoor
open Go.ChangeShapes Go.WideShapes Go.ChangeAt Go.WideMaps Go.WideElems Go.RowKit
open Go.ChangeMaps (open_string shut_string)

set_option maxHeartbeats 1000000 in
theorem shaSizes_any (s : ByteArray) (w : World) (hs : s.size ≤ maxLen) (hK : TabK w kf) (hH : TabH w hf) : Calls Tryd.prog 7 #[.string s] w fun e w' => e = .returned (.bool true) ∧ Below w.heap.size w w' := by
  unfold maxLen at hs
  by_cases hbig : 5000 < s.size
  · have hd : decide ((5000 : Int) < (s.size : Int)) = true := by simp; omega
    go_enter Tryd.func7, Tryd.ntmps7
    go_wp2_with fail
    refine (awake_any _ hK hH).mono ?_
    rintro e W1 ⟨rfl, hb1⟩
    go_wp2_with fail
    go_ret
    exact ⟨rfl, hb1⟩
  · have hd : decide ((5000 : Int) < (s.size : Int)) = false := by simp; omega
    have hs5 : s.size ≤ 5000 := by omega
    have hlt := hK.lt
    go_enter Tryd.func7, Tryd.ntmps7
    go_wp2_with fail
    refine (new32 kf hf _ hH).mono ?_
    rintro e W1 ⟨b1, rfl, hl1, hh1, hb1⟩
    have hK1 := hK.below hb1 hK.lt; have hH1 := hH.below hb1 hH.lt
    go_wp2_with fail
    refine (new64 kf hf _ hH1).mono ?_
    rintro e W2 ⟨b2, rfl, hl2, hh2, hb2⟩
    have hK2 := hK1.below hb2 hK1.lt; have hH2 := hH1.below hb2 hH1.lt
    have hh1' := hh1.kept (hb2.block b1 hh1.lt)
    have hne : b1 ≠ b2 := by have := hh1.lt; omega
    have hB2 : Below w.heap.size w W2 := hb1.trans (hb2.mono hb1.size)
    have hz2 : w.heap.size ≤ W2.heap.size := Nat.le_trans hb1.size hb2.size
    have hl2' : w.heap.size ≤ b2 := Nat.le_trans hb1.size hl2
    clear hK hH hK1 hH1 hb1 hb2 hh1
    go_wp2_with fail
    refine (hashWrite32 kf hf b1 [] s W2 hh1' hK2 (by omega) (by simp) (by omega)).mono ?_
    rintro e W3 ⟨rfl, hh3, hbut3⟩
    have hB3 : Below w.heap.size w W3 := hB2.trans (hbut3.below hl1 hz2)
    have hz3 : w.heap.size ≤ W3.heap.size := Nat.le_trans hz2 hbut3.size
    have hh2' := hh2.kept (hbut3.block b2 hh2.lt (Ne.symm hne))
    have tb : ∀ {b : Nat} {W W' : World}, But b W W' → w.heap.size ≤ b → TabK W kf → TabH W hf → TabK W' kf ∧ TabH W' hf := fun {b W W'} hbut hb k h =>
      ⟨fun t ht => (World.cell?_of_block (a := ⟨1, t, none⟩) (hbut.block 1 k.lt (by omega))).trans (k t ht),
       fun t ht => (World.cell?_of_block (a := ⟨0, t, none⟩) (hbut.block 0 h.lt (by omega))).trans (h t ht)⟩
    obtain ⟨hK3, hH3⟩ := tb hbut3 hl1 hK2 hH2
    clear hh1' hh2 hK2 hH2 hB2
    go_wp2_with fail
    refine (hashWrite64 kf hf b2 [] s W3 hh2' hK3 (by omega) (by simp) (by omega)).mono ?_
    rintro e W4 ⟨rfl, hh4, hbut4⟩
    have hB4 : Below w.heap.size w W4 := hB3.trans (hbut4.below hl2' hz3)
    have hz4 : w.heap.size ≤ W4.heap.size := Nat.le_trans hz3 hbut4.size
    have hh3' := hh3.kept (hbut4.block b1 hh3.lt hne)
    obtain ⟨hK4, hH4⟩ := tb hbut4 hl2' hK3 hH3
    clear hh3 hh2' hK3 hH3 hB3 hbut3 hbut4 tb
    rw [List.nil_append] at hh4 hh3'
    go_wp2_with fail
    refine (sum256_any kf hf s W4 hK4 hH4 (by omega)).mono ?_
    rintro e W5 ⟨rfl, hb5⟩
    have hK5 := hK4.below hb5 hK4.lt; have hH5 := hH4.below hb5 hH4.lt
    have hh1 := hh3'.kept (hb5.block b1 hh3'.lt); have hh2 := hh4.kept (hb5.block b2 hh4.lt)
    have hB5 : Below w.heap.size w W5 := hB4.trans (hb5.mono hz4)
    have hz5 : w.heap.size ≤ W5.heap.size := Nat.le_trans hz4 hb5.size
    clear hK4 hH4 hh3' hh4 hB4 hb5 hz4
    have H32 := Lib.hid (sha256L_length kf hf s.data.toList)
    go_wp2_with fail
    refine (sum512_any kf hf s W5 hK5 hH5 (by omega)).mono ?_
    rintro e W6 ⟨rfl, hb6⟩
    have hK6 := hK5.below hb6 hK5.lt; have hH6 := hH5.below hb6 hH5.lt
    have hh1' := hh1.kept (hb6.block b1 hh1.lt); have hh2' := hh2.kept (hb6.block b2 hh2.lt)
    have hB6 : Below w.heap.size w W6 := hB5.trans (hb6.mono hz5)
    have hz6 : w.heap.size ≤ W6.heap.size := Nat.le_trans hz5 hb6.size
    clear hK5 hH5 hh1 hh2 hB5 hb6 hz5
    have hsum1 := Lib.hid (hashSum32 kf hf b1 s.data.toList W6 hh1' hK6 (by rw [← Lib.size_eq]; omega))
    have a1 : (((⟨(sha256L kf hf s.data.toList).toArray⟩ : ByteArray).size : Int) == 32) = true := by
      have : (⟨(sha256L kf hf s.data.toList).toArray⟩ : ByteArray).size = 32 := H32.out
      rw [this]; rfl
    have b1' : (((⟨(sha512L kf hf s.data.toList).toArray⟩ : ByteArray).size : Int) == 64) = true := by
      have : (⟨(sha512L kf hf s.data.toList).toArray⟩ : ByteArray).size = 64 := sha512L_length kf hf s.data.toList
      rw [this]; rfl
    generalize hx1 : (⟨(sha256L kf hf s.data.toList).toArray⟩ : ByteArray) = x at *
    generalize hx2 : (⟨(sha512L kf hf s.data.toList).toArray⟩ : ByteArray) = y at *
    have HX2 := Lib.hid hx2
    clear hx1 hx2
    go_wp2_with fail
    refine hsum1.out.mono ?_
    rintro e W7 ⟨rfl, hb7⟩
    have hK7 := hK6.below hb7 hK6.lt; have hH7 := hH6.below hb7 hH6.lt
    have hh2 := hh2'.kept (hb7.block b2 hh2'.lt)
    have hB7 : Below w.heap.size w W7 := hB6.trans (hb7.mono hz6)
    have hz7 : w.heap.size ≤ W7.heap.size := Nat.le_trans hz6 hb7.size
    clear hK6 hH6 hh1' hh2' hB6 hb7 hz6 hsum1
    have hsum2 := hashSum64 kf hf b2 s.data.toList W7 hh2 hK7 (by rw [← Lib.size_eq]; omega)
    rw [HX2.out] at hsum2
    have hsum2' := Lib.hid hsum2
    clear hsum2
    go_wp2_with fail
    refine hsum2'.out.mono ?_
    rintro e W8 ⟨rfl, hb8⟩
    have hK8 := hK7.below hb8 hK7.lt; have hH8 := hH7.below hb8 hH7.lt
    have hB8 : Below w.heap.size w W8 := hB7.trans (hb8.mono hz7)
    have hz8 : w.heap.size ≤ W8.heap.size := Nat.le_trans hz7 hb8.size
    clear hK7 hH7 hh2 hB7 hb8 hz7 hsum2'
    go_wp2_with fail
    refine (awake_any _ hK8 hH8).mono ?_
    rintro e W9 ⟨rfl, hb9⟩
    go_wp2_with fail
    go_ret
    exact ⟨rfl, hB8.trans (hb9.mono hz8)⟩

set_option maxRecDepth 100000 in
theorem shaSizes_lifted (os : Os) (started : os.Started) (H : Type) (enc : TypeId × Value → H) :
    ReturnsInHanded {} Tryd.checked os 7 .any (fun w args => (Rows.shaSizesSpec.pre enc Tryd.prog Tryd.f7 [] false w args ∧ laidMetH Tryd.prog laid2 w) ∧ sizedMet enc Tryd.prog Tryd.f7 (OpenSpec.ofChange Rows.shaSizesSpec) false w args)
      (Rows.shaSizesSpec.post enc Tryd.prog Tryd.f7 false true false false) := by
  refine returnsInHanded_of_change_and (C := Tryd.checked) (X := fun w _ => laidMetH Tryd.prog laid2 w) (fun _ _ _ hh h => h.of_heap hh) own started (by kernel_rfl) Tryd.func7
    (ChangeSpec.witness_shaped (enc := enc) (C := Tryd.checked) (os := os) (X := fun w _ => laidMetH Tryd.prog laid2 w) false (World.doorLaid Tryd.prog 400 os) #[.string ⟨#[]⟩] 8 rfl (World.shaped_of_RefB (by kernel_rfl) (by kernel_rfl)) (by kernel_rfl) (by kernel_rfl) (by kernel_rfl) (door_met os _)) ?_
  intro W base args ds gs before hval0 hW _ _ hL _
  have hval : ∀ (j : Nat) t v, Tryd.f7.params[j]? = some t → args[j]? = some v → Value.okWide Tryd.prog W .any base t v := hval0
  have hW' := hW
  obtain ⟨p, q, hA0, hV, rfl, hfz, hnd⟩ := hW
  have hA : DataW.TrodAll enc Tryd.prog W 0 (fun _ => true) true Tryd.f7.params.toList args.toList ds p := hA0
  rw [Tryd.params7] at hA hval
  obtain ⟨v0, d0, rfl, rfl, h0⟩ := trodAll_one hA
  obtain ⟨rfl, rfl⟩ := trodVars_none hV
  obtain ⟨s, rfl, rfl, rfl, hs⟩ := open_string Tryd.underlying9 (hval 0 9 v0 rfl rfl) h0
  obtain ⟨hH, hK⟩ := of_laid hL
  clear hA0 hval0
  simp only [List.append_nil] at hW'
  refine (shaSizes_any s W hs hK hH).mono fun e W' ⟨he, hb⟩ => ?_
  subst he
  refine ⟨_, rfl, _, _, _, [], [], [], hW', ?_, ?_, rfl, hb.frame _, fun h => by cases h⟩
  · exact trodAll_mk1 (shut_bool Tryd.underlying4 _)
  · exact trodAll_mk1 (shut_string Tryd.underlying9 hs)

theorem shaSizes_holds : Rows.ShaSizesSaid :=
  OpenClaim.holds_of_wide 7 Tryd.f7 rfl rfl rfl rfl rfl rfl rfl ⟨rfl, rfl, rfl, rfl, rfl⟩ rfl rfl rfl rfl rfl (by kernel_rfl) Tryd.func7 (by kernel_rfl)
    (of_decide_eq_true (by kernel_rfl)) (by unfold Func.isWrapper; first | (rw [if_pos (by decide +kernel)]; kernel_rfl) | (rw [if_neg (by decide +kernel)]; exact ⟨rfl, rfl⟩))
    (fun os started H enc _ => shaSizes_lifted os started H enc)

theorem shaSizes_card : Rows.ShaSizesCardSaid :=
  Claim7.holds_tied_plain_at .later [] [.data, .data] true (true, "9c0c385ee49ba105079584480bff0604f5cd4c512430f4405f75f7a7a0c538b9") false
    shaSizes_holds (fun _ h => by cases h) (by kernel_rfl) (fun _ h => by cases h) shaSizes_row_tie rfl ⟨rfl, rfl⟩ (by kernel_rfl) rfl
    (fun f fn hf hfn => by
      obtain rfl : f = 7 := Option.some.inj ((show Tryd.prog.funcNamed "cresset/cressetlaw01.ShaSizes" = some 7 by kernel_rfl).symm.trans hf) |>.symm
      obtain rfl : fn = Tryd.f7 := (Option.some.inj (Tryd.func7.symm.trans hfn)).symm
      exact ⟨by kernel_rfl, fun j t ht => by
        rw [Tryd.params7] at ht
        have hm : t ∈ [9] := by simpa using Array.mem_of_getElem? ht
        have hall : ([9].all fun u => !Tryd.prog.wantsStandIn u) = true := by kernel_rfl
        exact (show Tryd.prog.wantsStandIn t = false by simpa using List.all_eq_true.1 hall t hm)⟩)
    (by kernel_rfl)
#print axioms shaSizes_card
end Go.Proofs.YtbaalgbkpgfhcaaDoor
