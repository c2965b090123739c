/- FieldSmall: for every number as it is the program's number is the reference's; the chapter's examples hold. No condition; the prime of package field lies as the program's text lays it. -/
import Derived.Test.YtfidcdkoggfjaaaDoorCards
import Derived.Test.YtfidcdkoggfjaaaDoorTie
import Derived.SevenTiedAt
import Derived.Test.YtfidcdkoggfjaaaDoorFldWake
import Derived.Test.YtfidcdkoggfjaaaDoorFrRoot
import Derived.Test.YtfidcdkoggfjaaaDoorFrOf
import Derived.Test.YtfidcdkoggfjaaaDoorFrBytes
namespace Go.Proofs.YtfidcdkoggfjaaaDoor
open Go.ChangeShapes Go.WideShapes Go.ChangeAt Go.WideMaps Go.WideElems Go.RowKit
open Go.ChangeMaps (open_string shut_string)
set_option maxRecDepth 100000
set_option linter.unusedSimpArgs false
set_option linter.unusedVariables false

set_option maxHeartbeats 4000000 in
theorem fieldSmall_any (n : Int) (w : World) (hn : (Lit.int .i64 n).wf = true) (hT : PrmQ w) :
    Calls Tryd.prog 12 #[.int .i64 n] w fun e w' => e = .returned (.bool true) ∧ Below w.heap.size w w' := by
  have hn : -9223372036854775808 ≤ n ∧ n < 9223372036854775808 := wf64 n hn
  have Cn := Lib.hid (fun W hW => small_any n W hn.1 hn.2 hW)
  have Rn := Lib.hid (fun W => smallRef_any n W hn.1 hn.2)
  have Bn := Lib.hid (fun W => bytesF_any (smallF n) W)
  have En := Lib.hid (fun W d h => bytesRef_any d (smallF n) W h)
  generalize smallF n = rn at *
  generalize (⟨(leF rn 32).toArray⟩ : ByteArray) = zn at *
  have en := same_text zn
  clear hn
  obtain ⟨hz, _⟩ := zero_of_info infoF
  have HP := Lib.hid hT
  have hb := Below.refl w.heap.size w
  clear hT
  go_enter Tryd.func12, Tryd.ntmps12
  go_wp2_with fail
  refine (Cn.out w HP.out).mono ?_
  rintro e W1 ⟨rfl, bk⟩
  have hb := hb.trans (bk.mono hb.size)
  have HP := Lib.hid (HP.out.step bk)
  clear bk
  go_wp2_with fail
  refine (Bn.out W1).mono ?_
  rintro e W2 ⟨rfl, bk⟩
  have hb := hb.trans (bk.mono hb.size)
  have HP := Lib.hid (HP.out.step bk)
  clear bk
  go_wp2_with fail
  refine (Rn.out W2).mono ?_
  rintro e W3 ⟨⟨vDn, rfl, qDn⟩, bk⟩
  have hb := hb.trans (bk.mono hb.size)
  have HP := Lib.hid (HP.out.step bk)
  have Dn := Lib.hid qDn
  clear bk qDn
  go_wp2_with fail
  refine (En.out W3 _ Dn.out).mono ?_
  rintro e W4 ⟨rfl, bk⟩
  have hb := hb.trans (bk.mono hb.size)
  have HP := Lib.hid (HP.out.step bk)
  have Dn := Lib.hid (Dn.out.step bk)
  clear bk
  go_wp2_with fail
  refine (fawake_any W4 HP.out).mono ?_
  rintro e W5 ⟨rfl, bk⟩
  have hb := hb.trans (bk.mono hb.size)
  have HP := Lib.hid (HP.out.step bk)
  have Dn := Lib.hid (Dn.out.step bk)
  clear bk
  go_wp2_with fail
  go_ret
  exact ⟨rfl, hb⟩

theorem fieldSmall_lifted (os : Os) (started : os.Started) (H : Type) (enc : TypeId × Value → H) :
    ReturnsInHanded {} Tryd.checked os 12 .any (fun w args => (Rows.fieldSmallSpec.pre enc Tryd.prog Tryd.f12 [] false w args ∧ laidMetH Tryd.prog laid1 w) ∧ sizedMet enc Tryd.prog Tryd.f12 (OpenSpec.ofChange Rows.fieldSmallSpec) false w args)
      (Rows.fieldSmallSpec.post enc Tryd.prog Tryd.f12 false true false false) := by
  refine returnsInHanded_of_change_and (C := Tryd.checked) (X := fun w _ => laidMetH Tryd.prog laid1 w) (fun _ _ _ hh h => h.of_heap hh) own1 started (by kernel_rfl) Tryd.func12
    (ChangeSpec.witness_shaped (enc := enc) (C := Tryd.checked) (os := os) (X := fun w _ => laidMetH Tryd.prog laid1 w) false (World.doorLaid Tryd.prog 400 os) #[.int .i64 0] 8 rfl (World.shaped_of_RefB (by kernel_rfl) (by kernel_rfl)) (by kernel_rfl) (by kernel_rfl) (by kernel_rfl) (door_met1 os _)) ?_
  intro W base args ds gs before hval0 hW _ _ hL _
  have hval : ∀ (j : Nat) t v, Tryd.f12.params[j]? = some t → args[j]? = some v → Value.okWide Tryd.prog W .any base t v := hval0
  have hW' := hW
  obtain ⟨p, q, hA0, hV, rfl, hfz, hnd⟩ := hW
  have hA : DataW.TrodAll enc Tryd.prog W 0 (fun _ => true) true Tryd.f12.params.toList args.toList ds p := hA0
  rw [Tryd.params12] at hA hval
  obtain ⟨v0, d0, rfl, rfl, h0⟩ := trodAll_one hA
  obtain ⟨rfl, rfl⟩ := trodVars_none hV
  obtain ⟨s0, rfl, rfl, rfl, w0⟩ := open_int Tryd.underlying3 (hval 0 3 v0 rfl rfl) h0
  have hT := of_laid1 hL
  clear hA0 hval0
  simp only [List.append_nil] at hW'
  refine (fieldSmall_any s0 W w0 hT).mono fun e W' ⟨he, hb⟩ => ?_
  subst he
  refine ⟨_, rfl, _, _, _, [], [], [], hW', ?_, ?_, rfl, hb.frame _, fun h => by cases h⟩
  · exact trodAll_mk1 (shut_bool Tryd.underlying4 _)
  · exact trodAll_mk1 (shut_int Tryd.underlying3 w0)

theorem fieldSmall_holds : Rows.FieldSmallSaid :=
  OpenClaim.holds_of_wide 12 Tryd.f12 rfl rfl rfl rfl rfl rfl rfl ⟨rfl, rfl, rfl, rfl, rfl⟩ rfl rfl rfl rfl rfl (by kernel_rfl) Tryd.func12 (by kernel_rfl)
    (of_decide_eq_true (by kernel_rfl)) (by unfold Func.isWrapper; first | (rw [if_pos (by decide +kernel)]; kernel_rfl) | (rw [if_neg (by decide +kernel)]; exact ⟨rfl, rfl⟩))
    (fun os started H enc _ => fieldSmall_lifted os started H enc)

theorem fieldSmall_card : Rows.FieldSmallCardSaid :=
  Claim7.holds_tied_plain_at .later [] [.data] true (true, "dba20598ad203cc8d4eae559620b14cd2e22259d0cd38305137873b869c887c5") false
    fieldSmall_holds (fun _ h => by cases h) (by kernel_rfl) (fun _ h => by cases h) fieldSmall_row_tie rfl ⟨rfl, rfl⟩ (by kernel_rfl) rfl
    (fun f fn hf hfn => by
      obtain rfl : f = 12 := Option.some.inj ((show Tryd.prog.funcNamed "cresset/cressetlaw08.FieldSmall" = some 12 by kernel_rfl).symm.trans hf) |>.symm
      obtain rfl : fn = Tryd.f12 := (Option.some.inj (Tryd.func12.symm.trans hfn)).symm
      exact ⟨by kernel_rfl, fun j t ht => by
        rw [Tryd.params12] at ht
        have hm : t ∈ [3] := by simpa using Array.mem_of_getElem? ht
        have hall : ([3].all fun u => !Tryd.prog.wantsStandIn u) = true := by kernel_rfl
        exact (show Tryd.prog.wantsStandIn t = false by simpa using List.all_eq_true.1 hall t hm)⟩)
    (by kernel_rfl)
#print axioms fieldSmall_card
end Go.Proofs.YtfidcdkoggfjaaaDoor
