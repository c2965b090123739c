/- SealOpens: by every suite, for every key, nonce, and everything that is beside and is opened, of at most 2000 bytes each, the program's Open is the reference's, its refusals too; the chapter's examples hold. No condition; the table of squares of package aes lies as the program's text lays it. -/
import Derived.Test.YtaodbhhdjehnnaaGreatDoorCards
import Derived.Test.YtaodbhhdjehnnaaGreatDoorTie
import Derived.SevenTiedAt
import Derived.Test.YtaodbhhdjehnnaaGreatDoorSealWake
import Derived.Test.YtaodbhhdjehnnaaGreatDoorSealRtop
import Derived.Lib.SmallJoins
namespace Go.Proofs.YtaodbhhdjehnnaaGreatDoor
open Go.ChangeShapes Go.WideShapes Go.ChangeAt Go.WideMaps Go.WideElems Go.RowKit
open Go.ChangeMaps (open_string shut_string)
set_option maxRecDepth 100000
set_option linter.unusedSimpArgs false
set_option linter.unusedVariables false

set_option maxHeartbeats 1000000 in
theorem sealOpens_any (su : Int) (k n b d : ByteArray) (w : World) (_ : (Lit.int .i64 su).wf = true) (_ : k.size ≤ maxLen) (_ : n.size ≤ maxLen) (_ : b.size ≤ maxLen) (_ : d.size ≤ maxLen) (hT : TabQ w) :
    Calls Tryz.prog 4 #[.int .i64 su, .agg #[.string k, .string n, .string b, .string d]] w fun e w' => e = .returned (.bool true) ∧ Below w.heap.size w w' := by
  have hb0 := below_new w (.cells (jobC k n b d) 23)
  have HG0 := Lib.hid (blk_new w (.cells (jobC k n b d) 23))
  have HT := Lib.hid (hT.step hb0)
  have HF := Lib.hid (few_any k n b d)
  have HIj : Hid ((Tryz.prog.info? 23).map (·.size) = some (jobC k n b d).size) := Lib.hid (by kernel_rfl)
  clear hT
  rw [show (#[.string k, .string n, .string b, .string d] : Array Value) = jobC k n b d from rfl]
  go_enter Tryz.func4, Tryz.ntmps4
  go_wp2_with (with_reducible refine wpList_load_row rfl 23 _ rfl w.heap.size rfl 23 _ (0, 0) _ HG0.out Tryz.underlying23 rfl HIj.out ?_)
  generalize (w.alloc _) = W0 at *
  refine (HF.out W0).mono ?_
  rintro e W1 ⟨rfl, hb1⟩
  have HG1 := Lib.hid (blk_below hb1 (blk_lt HG0.out) HG0.out)
  have HT1 := Lib.hid (HT.out.step hb1)
  have hb2 := hb0.trans (hb1.mono hb0.size)
  clear HF HG0 HT hb0 hb1
  cases hfew : fewB b d with
  | false =>
    go_wp2_with fail
    refine (swake_any W1 HT1.out).mono ?_
    rintro e W2 ⟨rfl, hb3⟩
    go_wp2_with fail
    go_ret
    exact ⟨rfl, hb2.trans (hb3.mono hb2.size)⟩
  | true =>
    obtain ⟨f1, f2⟩ := few_true hfew
    have H1 := Lib.hid (fun W hq => openO_any su k n b d W (by omega) (by omega) hq)
    have H2 := Lib.hid (fun W => ropenO_any su k n b d W (by omega) (by omega))
    unfold ansO at H1 H2
    generalize openO su k n b d = x at *
    obtain ⟨x, q⟩ := x
    clear hfew
    have ex : (x.toList == x.toList) = true := by simp
    have eq : (q == q) = true := by simp
    obtain ⟨c0, c1, c2, c3⟩ := job_cells HG1.out
    go_wp2_with fail
    refine (H1.out W1 HT1.out).mono ?_
    rintro e W2 ⟨rfl, hb3⟩
    obtain ⟨d0, d1, d2, d3⟩ := job_cells (blk_below hb3 (blk_lt HG1.out) HG1.out)
    have HT2 := Lib.hid (HT1.out.step hb3)
    have hb4 := hb2.trans (hb3.mono hb2.size)
    clear H1 c0 c1 c2 c3 HG1 HT1 hb2 hb3
    go_wp2_with fail
    refine (H2.out W2).mono ?_
    rintro e W3 ⟨rfl, hb5⟩
    have HT3 := Lib.hid (HT2.out.step hb5)
    have hb6 := hb4.trans (hb5.mono hb4.size)
    clear H2 d0 d1 d2 d3 HT2 hb4 hb5
    go_wp2_with fail
    refine (swake_any W3 HT3.out).mono ?_
    rintro e W4 ⟨rfl, hb7⟩
    go_wp2_with fail
    go_ret
    exact ⟨rfl, hb6.trans (hb7.mono hb6.size)⟩

theorem sealOpens_lifted (os : Os) (started : os.Started) (H : Type) (enc : TypeId × Value → H) :
    ReturnsInHanded {} Tryz.checked os 4 .any (fun w args => (Rows.sealOpensSpec.pre enc Tryz.prog Tryz.f4 [] false w args ∧ laidMetH Tryz.prog laid1 w) ∧ sizedMet enc Tryz.prog Tryz.f4 (OpenSpec.ofChange Rows.sealOpensSpec) false w args)
      (Rows.sealOpensSpec.post enc Tryz.prog Tryz.f4 false true false false) := by
  refine returnsInHanded_of_change_and (C := Tryz.checked) (X := fun w _ => laidMetH Tryz.prog laid1 w) (fun _ _ _ hh h => h.of_heap hh) own1 started (by kernel_rfl) Tryz.func4
    (ChangeSpec.witness_shaped (enc := enc) (C := Tryz.checked) (os := os) (X := fun w _ => laidMetH Tryz.prog laid1 w) false (World.doorLaid Tryz.prog 400 os) #[.int .i64 0, .agg #[.string ⟨#[]⟩, .string ⟨#[]⟩, .string ⟨#[]⟩, .string ⟨#[]⟩]] 8 rfl (World.shaped_of_RefB (by kernel_rfl) (by kernel_rfl)) (by kernel_rfl) (by kernel_rfl) (by kernel_rfl) (door_met1 os _)) ?_
  intro W base args ds gs before hval0 hW _ _ hL _
  have hval : ∀ (j : Nat) t v, Tryz.f4.params[j]? = some t → args[j]? = some v → Value.okWide Tryz.prog W .any base t v := hval0
  have hW' := hW
  obtain ⟨p, q, hA0, hV, rfl, hfz, hnd⟩ := hW
  have hA : DataW.TrodAll enc Tryz.prog W 0 (fun _ => true) true Tryz.f4.params.toList args.toList ds p := hA0
  rw [Tryz.params4] at hA hval
  obtain ⟨v0, v1, d0, d1, p0, p1, rfl, rfl, rfl, h0, h1⟩ := trodAll_two hA
  obtain ⟨rfl, rfl⟩ := trodVars_none hV
  obtain ⟨s0, rfl, rfl, rfl, w0⟩ := open_int Tryz.underlying3 (hval 0 3 v0 rfl rfl) h0
  obtain ⟨c0, c1, c2, c3, y0, y1, y2, y3, m, rfl, rfl, rfl, hy0, hy1, hy2, hy3⟩ := Joins.open_agg4 Tryz.underlying23 (by kernel_rfl) (by kernel_rfl) (hval 1 23 v1 rfl rfl) h1
  obtain ⟨sk, e0, rfl, wk⟩ := DataW.trod_string Tryz.underlying9 hy0
  obtain ⟨sn, e1, rfl, wn⟩ := DataW.trod_string Tryz.underlying9 hy1
  obtain ⟨sb, e2, rfl, wb⟩ := DataW.trod_string Tryz.underlying9 hy2
  obtain ⟨sd, e3, rfl, wd'⟩ := DataW.trod_string Tryz.underlying9 hy3
  simp at e0 e1 e2 e3
  subst e0 e1 e2 e3
  have hT := of_laid1 hL
  clear hA0 hval0
  simp only [List.append_nil] at hW'
  refine (sealOpens_any s0 sk sn sb sd W w0 wk wn wb wd' hT).mono fun e W' ⟨he, hb⟩ => ?_
  subst he
  refine ⟨_, rfl, _, _, _, [], [], [], hW', ?_, ?_, rfl, hb.frame _, fun h => by cases h⟩
  · exact trodAll_mk1 (shut_bool Tryz.underlying4 _)
  · exact trodAll_mk2 (shut_int Tryz.underlying3 w0) (Joins.shut_agg4 (y0 := (.lit (.string sk.data.toList), [])) (y1 := (.lit (.string sn.data.toList), [])) (y2 := (.lit (.string sb.data.toList), [])) (y3 := (.lit (.string sd.data.toList), [])) Tryz.underlying23 (by kernel_rfl) (by kernel_rfl) ⟨1, by simp [DataW.trod, Tryz.underlying9, (show Tryz.checked.prog.underlying 9 = some .string from Tryz.underlying9), wk]⟩ ⟨1, by simp [DataW.trod, Tryz.underlying9, (show Tryz.checked.prog.underlying 9 = some .string from Tryz.underlying9), wn]⟩ ⟨1, by simp [DataW.trod, Tryz.underlying9, (show Tryz.checked.prog.underlying 9 = some .string from Tryz.underlying9), wb]⟩ ⟨1, by simp [DataW.trod, Tryz.underlying9, (show Tryz.checked.prog.underlying 9 = some .string from Tryz.underlying9), wd']⟩)

theorem sealOpens_holds : Rows.SealOpensSaid :=
  OpenClaim.holds_of_wide 4 Tryz.f4 rfl rfl rfl rfl rfl rfl rfl ⟨rfl, rfl, rfl, rfl, rfl⟩ rfl rfl rfl rfl rfl (by kernel_rfl) Tryz.func4 (by kernel_rfl)
    (of_decide_eq_true (by kernel_rfl)) (by unfold Func.isWrapper; first | (rw [if_pos (by decide +kernel)]; kernel_rfl) | (rw [if_neg (by decide +kernel)]; exact ⟨rfl, rfl⟩))
    (fun os started H enc _ => sealOpens_lifted os started H enc)

theorem sealOpens_card : Rows.SealOpensCardSaid :=
  Claim7.holds_tied_plain_at .later [] [.data] true (true, "c0036c04cec0892b187cfe4b85d51917aa927f8be8d646d804ebeb720be1cf0c") false
    sealOpens_holds (fun _ h => by cases h) (by kernel_rfl) (fun _ h => by cases h) sealOpens_row_tie rfl ⟨rfl, rfl⟩ (by kernel_rfl) rfl
    (fun f fn hf hfn => by
      obtain rfl : f = 4 := Option.some.inj ((show Tryz.prog.funcNamed "cresset/cressetlaw07.SealOpens" = some 4 by kernel_rfl).symm.trans hf) |>.symm
      obtain rfl : fn = Tryz.f4 := (Option.some.inj (Tryz.func4.symm.trans hfn)).symm
      exact ⟨by kernel_rfl, fun j t ht => by
        rw [Tryz.params4] at ht
        have hm : t ∈ [3, 23] := by simpa using Array.mem_of_getElem? ht
        have hall : ([3, 23].all fun u => !Tryz.prog.wantsStandIn u) = true := by kernel_rfl
        exact (show Tryz.prog.wantsStandIn t = false by simpa using List.all_eq_true.1 hall t hm)⟩)
    (by kernel_rfl)
#print axioms sealOpens_card
end Go.Proofs.YtaodbhhdjehnnaaGreatDoor
