/- FieldOf: for every text the program's number of it is the reference's, and both refuse the same; the chapter's examples hold. No condition; the prime of package field lies as the program's text lays it. -/
import Derived.Test.YtfidcdkoggfjaaaDoorCards
import Derived.Test.YtfidcdkoggfjaaaDoorTie
import Derived.SevenTiedAt
import Derived.Test.YtfidcdkoggfjaaaDoorFldWake
import Derived.Test.YtfidcdkoggfjaaaDoorFrRoot
import Derived.Test.YtfidcdkoggfjaaaDoorFrOf
import Derived.Test.YtfidcdkoggfjaaaDoorFrBytes
namespace Go.Proofs.YtfidcdkoggfjaaaDoor
open Go.ChangeShapes Go.WideShapes Go.ChangeAt Go.WideMaps Go.WideElems Go.RowKit
open Go.ChangeMaps (open_string shut_string)
set_option maxRecDepth 100000
set_option linter.unusedSimpArgs false
set_option linter.unusedVariables false

set_option maxHeartbeats 4000000 in
theorem fieldOf_any (s0 : ByteArray) (w : World) (_ : s0.size ≤ maxLen) (hT : PrmQ w) :
    Calls Tryd.prog 11 #[.string s0] w fun e w' => e = .returned (.bool true) ∧ Below w.heap.size w w' := by
  by_cases h0 : s0.size = 32
  · have P0 := Lib.hid (fun W => of_any s0 W h0)
    have Q0 := Lib.hid (fun W => ofRef_any s0 W h0)
    have hx0 : leV s0.data.toList 32 % pF < pF := Nat.mod_lt _ pF_pos
    generalize leV s0.data.toList 32 % pF = x0 at *
    have t0 : ((s0.size : Int) != 32) = false := by simp [h0]
    have I0 := Lib.hid (sizeF' x0); have Z0 := Lib.hid (zerosF_size x0); have O0 := Lib.hid (uc_one (limN 4 x0))
    clear h0
    have Bx := Lib.hid (fun W => bytesF_any x0 W)
    have Ex := Lib.hid (fun W d h => bytesRef_any d x0 W h)
    generalize (⟨(leF x0 32).toArray⟩ : ByteArray) = zx at *
    have ex := same_text zx
    obtain ⟨hz, _⟩ := zero_of_info infoF
    have HP := Lib.hid hT
    have hb := Below.refl w.heap.size w
    clear hT
    go_enter Tryd.func11, Tryd.ntmps11
    go_wp2_with fail
    refine (P0.out w).mono ?_
    rintro e W1 ⟨rfl, bk⟩
    have hb := hb.trans (bk.mono hb.size)
    have HP := Lib.hid (HP.out.step bk)
    clear bk
    have HN := Lib.hid (blk_new W1 (.cells zeros4 26))
    have bn := below_new W1 (.cells zeros4 26)
    go_wp2_with (with_reducible refine wpList_store_row rfl 26 _ _ rfl W1.heap.size (uc (limN 4 x0)) rfl rfl 26 _ HN.out I0.out Z0.out O0.out ?_)
    have qG0 := Lib.hid (setRow_heap _ W1.heap.size _ (uc (limN 4 x0)) _ _ HN.out)
    have bk := below_setRow bn (Nat.le_refl _) (uc (limN 4 x0))
    have hb := hb.trans (bk.mono hb.size)
    have HP := Lib.hid (HP.out.step bk)
    have G0 := qG0
    generalize (World.setRow (World.alloc _ _) _ _) = W2 at *
    generalize W1.heap.size = gG0 at *
    clear bk bn HN qG0
    refine (Q0.out W2).mono ?_
    rintro e W3 ⟨⟨vD0, rfl, qD0⟩, bk⟩
    have hb := hb.trans (bk.mono hb.size)
    have HP := Lib.hid (HP.out.step bk)
    have G0 := Lib.hid (blk_below bk (blk_lt G0.out) G0.out)
    have D0 := Lib.hid qD0
    clear bk qD0
    go_wp2_with (first | (with_reducible refine wpList_load_row rfl 26 _ rfl gG0 rfl 26 _ (0, 0) _ G0.out Tryd.underlying26 rfl I0.out ?_) | ((with_reducible refine wpList_load_want ?hw 26 _ rfl gG0 rfl 26 _ (0, 0) _ G0.out Tryd.underlying26 rfl I0.out ?_); (case hw => rfl)))
    refine (Bx.out W3).mono ?_
    rintro e W4 ⟨rfl, bk⟩
    have hb := hb.trans (bk.mono hb.size)
    have HP := Lib.hid (HP.out.step bk)
    have G0 := Lib.hid (blk_below bk (blk_lt G0.out) G0.out)
    have D0 := Lib.hid (D0.out.step bk)
    clear bk
    go_wp2_with (first | (with_reducible refine wpList_load_row rfl 26 _ rfl gG0 rfl 26 _ (0, 0) _ G0.out Tryd.underlying26 rfl I0.out ?_) | ((with_reducible refine wpList_load_want ?hw 26 _ rfl gG0 rfl 26 _ (0, 0) _ G0.out Tryd.underlying26 rfl I0.out ?_); (case hw => rfl)))
    refine (Ex.out W4 _ D0.out).mono ?_
    rintro e W5 ⟨rfl, bk⟩
    have hb := hb.trans (bk.mono hb.size)
    have HP := Lib.hid (HP.out.step bk)
    have G0 := Lib.hid (blk_below bk (blk_lt G0.out) G0.out)
    have D0 := Lib.hid (D0.out.step bk)
    clear bk
    go_wp2_with (first | (with_reducible refine wpList_load_row rfl 26 _ rfl gG0 rfl 26 _ (0, 0) _ G0.out Tryd.underlying26 rfl I0.out ?_) | ((with_reducible refine wpList_load_want ?hw 26 _ rfl gG0 rfl 26 _ (0, 0) _ G0.out Tryd.underlying26 rfl I0.out ?_); (case hw => rfl)))
    refine (fawake_any W5 HP.out).mono ?_
    rintro e W6 ⟨rfl, bk⟩
    have hb := hb.trans (bk.mono hb.size)
    have HP := Lib.hid (HP.out.step bk)
    have G0 := Lib.hid (blk_below bk (blk_lt G0.out) G0.out)
    have D0 := Lib.hid (D0.out.step bk)
    clear bk
    go_wp2_with (first | (with_reducible refine wpList_load_row rfl 26 _ rfl gG0 rfl 26 _ (0, 0) _ G0.out Tryd.underlying26 rfl I0.out ?_) | ((with_reducible refine wpList_load_want ?hw 26 _ rfl gG0 rfl 26 _ (0, 0) _ G0.out Tryd.underlying26 rfl I0.out ?_); (case hw => rfl)))
    go_ret
    exact ⟨rfl, hb⟩
  · have P0 := Lib.hid (fun W => ofBad_any s0 W h0)
    have Q0 := Lib.hid (fun W => ofRefBad_any s0 W h0)
    have hx0 : 0 < pF := pF_pos
    obtain ⟨x0, hz0⟩ : ∃ x, x = 0 := ⟨_, rfl⟩
    rw [← hz0] at P0 hx0 Q0
    clear hz0
    have t0 : ((s0.size : Int) != 32) = true := by simp; omega
    have I0 := Lib.hid (sizeF' x0); have Z0 := Lib.hid (zerosF_size x0); have O0 := Lib.hid (uc_one (limN 4 x0))
    clear h0
    have Bx := Lib.hid (fun W => bytesF_any x0 W)
    have Ex := Lib.hid (fun W d h => bytesRef_any d x0 W h)
    generalize (⟨(leF x0 32).toArray⟩ : ByteArray) = zx at *
    have ex := same_text zx
    obtain ⟨hz, _⟩ := zero_of_info infoF
    have HP := Lib.hid hT
    have hb := Below.refl w.heap.size w
    clear hT
    go_enter Tryd.func11, Tryd.ntmps11
    go_wp2_with fail
    refine (P0.out w).mono ?_
    rintro e W1 ⟨rfl, bk⟩
    have hb := hb.trans (bk.mono hb.size)
    have HP := Lib.hid (HP.out.step bk)
    clear bk
    have HN := Lib.hid (blk_new W1 (.cells zeros4 26))
    have bn := below_new W1 (.cells zeros4 26)
    go_wp2_with (with_reducible refine wpList_store_row rfl 26 _ _ rfl W1.heap.size (uc (limN 4 x0)) rfl rfl 26 _ HN.out I0.out Z0.out O0.out ?_)
    have qG0 := Lib.hid (setRow_heap _ W1.heap.size _ (uc (limN 4 x0)) _ _ HN.out)
    have bk := below_setRow bn (Nat.le_refl _) (uc (limN 4 x0))
    have hb := hb.trans (bk.mono hb.size)
    have HP := Lib.hid (HP.out.step bk)
    have G0 := qG0
    generalize (World.setRow (World.alloc _ _) _ _) = W2 at *
    generalize W1.heap.size = gG0 at *
    clear bk bn HN qG0
    refine (Q0.out W2).mono ?_
    rintro e W3 ⟨⟨vD0, rfl, qD0⟩, bk⟩
    have hb := hb.trans (bk.mono hb.size)
    have HP := Lib.hid (HP.out.step bk)
    have G0 := Lib.hid (blk_below bk (blk_lt G0.out) G0.out)
    have D0 := Lib.hid qD0
    clear bk qD0
    go_wp2_with (first | (with_reducible refine wpList_load_row rfl 26 _ rfl gG0 rfl 26 _ (0, 0) _ G0.out Tryd.underlying26 rfl I0.out ?_) | ((with_reducible refine wpList_load_want ?hw 26 _ rfl gG0 rfl 26 _ (0, 0) _ G0.out Tryd.underlying26 rfl I0.out ?_); (case hw => rfl)))
    refine (Bx.out W3).mono ?_
    rintro e W4 ⟨rfl, bk⟩
    have hb := hb.trans (bk.mono hb.size)
    have HP := Lib.hid (HP.out.step bk)
    have G0 := Lib.hid (blk_below bk (blk_lt G0.out) G0.out)
    have D0 := Lib.hid (D0.out.step bk)
    clear bk
    go_wp2_with (first | (with_reducible refine wpList_load_row rfl 26 _ rfl gG0 rfl 26 _ (0, 0) _ G0.out Tryd.underlying26 rfl I0.out ?_) | ((with_reducible refine wpList_load_want ?hw 26 _ rfl gG0 rfl 26 _ (0, 0) _ G0.out Tryd.underlying26 rfl I0.out ?_); (case hw => rfl)))
    refine (Ex.out W4 _ D0.out).mono ?_
    rintro e W5 ⟨rfl, bk⟩
    have hb := hb.trans (bk.mono hb.size)
    have HP := Lib.hid (HP.out.step bk)
    have G0 := Lib.hid (blk_below bk (blk_lt G0.out) G0.out)
    have D0 := Lib.hid (D0.out.step bk)
    clear bk
    go_wp2_with (first | (with_reducible refine wpList_load_row rfl 26 _ rfl gG0 rfl 26 _ (0, 0) _ G0.out Tryd.underlying26 rfl I0.out ?_) | ((with_reducible refine wpList_load_want ?hw 26 _ rfl gG0 rfl 26 _ (0, 0) _ G0.out Tryd.underlying26 rfl I0.out ?_); (case hw => rfl)))
    refine (fawake_any W5 HP.out).mono ?_
    rintro e W6 ⟨rfl, bk⟩
    have hb := hb.trans (bk.mono hb.size)
    have HP := Lib.hid (HP.out.step bk)
    have G0 := Lib.hid (blk_below bk (blk_lt G0.out) G0.out)
    have D0 := Lib.hid (D0.out.step bk)
    clear bk
    go_wp2_with (first | (with_reducible refine wpList_load_row rfl 26 _ rfl gG0 rfl 26 _ (0, 0) _ G0.out Tryd.underlying26 rfl I0.out ?_) | ((with_reducible refine wpList_load_want ?hw 26 _ rfl gG0 rfl 26 _ (0, 0) _ G0.out Tryd.underlying26 rfl I0.out ?_); (case hw => rfl)))
    go_ret
    exact ⟨rfl, hb⟩

theorem fieldOf_lifted (os : Os) (started : os.Started) (H : Type) (enc : TypeId × Value → H) :
    ReturnsInHanded {} Tryd.checked os 11 .any (fun w args => (Rows.fieldOfSpec.pre enc Tryd.prog Tryd.f11 [] false w args ∧ laidMetH Tryd.prog laid1 w) ∧ sizedMet enc Tryd.prog Tryd.f11 (OpenSpec.ofChange Rows.fieldOfSpec) false w args)
      (Rows.fieldOfSpec.post enc Tryd.prog Tryd.f11 false true false false) := by
  refine returnsInHanded_of_change_and (C := Tryd.checked) (X := fun w _ => laidMetH Tryd.prog laid1 w) (fun _ _ _ hh h => h.of_heap hh) own1 started (by kernel_rfl) Tryd.func11
    (ChangeSpec.witness_shaped (enc := enc) (C := Tryd.checked) (os := os) (X := fun w _ => laidMetH Tryd.prog laid1 w) false (World.doorLaid Tryd.prog 400 os) #[.string ⟨#[]⟩] 8 rfl (World.shaped_of_RefB (by kernel_rfl) (by kernel_rfl)) (by kernel_rfl) (by kernel_rfl) (by kernel_rfl) (door_met1 os _)) ?_
  intro W base args ds gs before hval0 hW _ _ hL _
  have hval : ∀ (j : Nat) t v, Tryd.f11.params[j]? = some t → args[j]? = some v → Value.okWide Tryd.prog W .any base t v := hval0
  have hW' := hW
  obtain ⟨p, q, hA0, hV, rfl, hfz, hnd⟩ := hW
  have hA : DataW.TrodAll enc Tryd.prog W 0 (fun _ => true) true Tryd.f11.params.toList args.toList ds p := hA0
  rw [Tryd.params11] at hA hval
  obtain ⟨v0, d0, rfl, rfl, h0⟩ := trodAll_one hA
  obtain ⟨rfl, rfl⟩ := trodVars_none hV
  obtain ⟨s0, rfl, rfl, rfl, w0⟩ := open_string Tryd.underlying9 (hval 0 9 v0 rfl rfl) h0
  have hT := of_laid1 hL
  clear hA0 hval0
  simp only [List.append_nil] at hW'
  refine (fieldOf_any s0 W w0 hT).mono fun e W' ⟨he, hb⟩ => ?_
  subst he
  refine ⟨_, rfl, _, _, _, [], [], [], hW', ?_, ?_, rfl, hb.frame _, fun h => by cases h⟩
  · exact trodAll_mk1 (shut_bool Tryd.underlying4 _)
  · exact trodAll_mk1 (shut_string Tryd.underlying9 w0)

theorem fieldOf_holds : Rows.FieldOfSaid :=
  OpenClaim.holds_of_wide 11 Tryd.f11 rfl rfl rfl rfl rfl rfl rfl ⟨rfl, rfl, rfl, rfl, rfl⟩ rfl rfl rfl rfl rfl (by kernel_rfl) Tryd.func11 (by kernel_rfl)
    (of_decide_eq_true (by kernel_rfl)) (by unfold Func.isWrapper; first | (rw [if_pos (by decide +kernel)]; kernel_rfl) | (rw [if_neg (by decide +kernel)]; exact ⟨rfl, rfl⟩))
    (fun os started H enc _ => fieldOf_lifted os started H enc)

theorem fieldOf_card : Rows.FieldOfCardSaid :=
  Claim7.holds_tied_plain_at .later [] [.data] true (true, "dba20598ad203cc8d4eae559620b14cd2e22259d0cd38305137873b869c887c5") false
    fieldOf_holds (fun _ h => by cases h) (by kernel_rfl) (fun _ h => by cases h) fieldOf_row_tie rfl ⟨rfl, rfl⟩ (by kernel_rfl) rfl
    (fun f fn hf hfn => by
      obtain rfl : f = 11 := Option.some.inj ((show Tryd.prog.funcNamed "cresset/cressetlaw08.FieldOf" = some 11 by kernel_rfl).symm.trans hf) |>.symm
      obtain rfl : fn = Tryd.f11 := (Option.some.inj (Tryd.func11.symm.trans hfn)).symm
      exact ⟨by kernel_rfl, fun j t ht => by
        rw [Tryd.params11] at ht
        have hm : t ∈ [9] := by simpa using Array.mem_of_getElem? ht
        have hall : ([9].all fun u => !Tryd.prog.wantsStandIn u) = true := by kernel_rfl
        exact (show Tryd.prog.wantsStandIn t = false by simpa using List.all_eq_true.1 hall t hm)⟩)
    (by kernel_rfl)
#print axioms fieldOf_card
end Go.Proofs.YtfidcdkoggfjaaaDoor
