/- GcmSeals: for every key, nonce, and everything that is beside and is sealed, of at most 2000 bytes each, the program's Seal is the reference's, its refusals too; the chapter's examples hold. No condition; the table of squares of package aes lies as the program's text lays it. -/
import Derived.Test.YtoejkiblampecaaDoorCards
import Derived.Test.YtoejkiblampecaaDoorTie
import Derived.SevenTiedAt
import Derived.Test.YtoejkiblampecaaDoorGcmWake
import Derived.Lib.SmallJoins
namespace Go.Proofs.YtoejkiblampecaaDoor
open Go.ChangeShapes Go.WideShapes Go.ChangeAt Go.WideMaps Go.WideElems Go.RowKit
open Go.ChangeMaps (open_string shut_string)
set_option maxRecDepth 100000
set_option linter.unusedSimpArgs false
set_option linter.unusedVariables false

theorem gcmSealSame (k n b d : ByteArray) (hb : b.size ≤ 2000) (hd : d.size ≤ 2000) : ∃ (x : ByteArray) (q : Int), (∀ W, TabQ W → Calls Tryd.prog 13 #[.string k, .string n, .string b, .string d] W fun e w' => e = .returned (.tuple #[.string x, .int .i64 q]) ∧ Below W.heap.size W w') ∧ (∀ W, Calls Tryd.prog 14 #[.string k, .string n, .string b, .string d] W fun e w' => e = .returned (.tuple #[.string x, .int .i64 q]) ∧ Below W.heap.size W w') := by
  have hw : ∀ {f : FuncId} {args : Array Value} {W : World} {v : Value}, (Calls Tryd.prog f args W fun e w' => e = .returned v ∧ W = w') → (Calls Tryd.prog f args W fun e w' => e = .returned v ∧ Below W.heap.size W w') := fun h => h.mono fun e w' ⟨h1, h2⟩ => ⟨h1, h2 ▸ Below.refl _ _⟩
  by_cases h1 : k.size = 16 ∧ n.size = 12
  · exact ⟨_, _, fun W hT => gseal_any k n b d W h1.1 h1.2 (by omega) (by omega) hT, fun W => rSeal_any k n b d W h1.1 h1.2 (by omega) (by omega)⟩
  · have h2 : k.size ≠ 16 ∨ n.size ≠ 12 := by omega
    exact ⟨_, _, fun W _ => hw (gsealKey_any k n b d W h2), fun W => hw (rSealKey_any k n b d W h2)⟩
set_option maxHeartbeats 1000000 in
theorem gcmSeals_any (k n b d : ByteArray) (w : World) (_ : k.size ≤ maxLen) (_ : n.size ≤ maxLen) (_ : b.size ≤ maxLen) (_ : d.size ≤ maxLen) (hT : TabQ w) :
    Calls Tryd.prog 4 #[.agg #[.string k, .string n, .string b, .string d]] w fun e w' => e = .returned (.bool true) ∧ Below w.heap.size w w' := by
  have hb0 := below_new w (.cells (jobC k n b d) 28)
  have HG0 := Lib.hid (blk_new w (.cells (jobC k n b d) 28))
  have HT := Lib.hid (hT.step hb0)
  have HF := Lib.hid (few_any k n b d)
  have HIj : Hid ((Tryd.prog.info? 28).map (·.size) = some (jobC k n b d).size) := Lib.hid (by kernel_rfl)
  clear hT
  rw [show (#[.string k, .string n, .string b, .string d] : Array Value) = jobC k n b d from rfl]
  go_enter Tryd.func4, Tryd.ntmps4
  go_wp2_with (with_reducible refine wpList_load_row rfl 28 _ rfl w.heap.size rfl 28 _ (0, 0) _ HG0.out Tryd.underlying28 rfl HIj.out ?_)
  generalize (w.alloc _) = W0 at *
  refine (HF.out W0).mono ?_
  rintro e W1 ⟨rfl, hb1⟩
  have HG1 := Lib.hid (blk_below hb1 (blk_lt HG0.out) HG0.out)
  have HT1 := Lib.hid (HT.out.step hb1)
  have hb2 := hb0.trans (hb1.mono hb0.size)
  clear HF HG0 HT hb0 hb1
  cases hfew : fewB b d with
  | false =>
    go_wp2_with fail
    refine (gawake_any W1 HT1.out).mono ?_
    rintro e W2 ⟨rfl, hb3⟩
    go_wp2_with fail
    go_ret
    exact ⟨rfl, hb2.trans (hb3.mono hb2.size)⟩
  | true =>
    obtain ⟨f1, f2⟩ := few_true hfew
    obtain ⟨x, q, x1, x2⟩ := gcmSealSame k n b d f1 f2
    have H1 := Lib.hid x1; have H2 := Lib.hid x2
    clear x1 x2 hfew
    have ex : (x.toList == x.toList) = true := by simp
    have eq : (q == q) = true := by simp
    obtain ⟨c0, c1, c2, c3⟩ := job_cells HG1.out
    go_wp2_with fail
    refine (H1.out W1 HT1.out).mono ?_
    rintro e W2 ⟨rfl, hb3⟩
    obtain ⟨d0, d1, d2, d3⟩ := job_cells (blk_below hb3 (blk_lt HG1.out) HG1.out)
    have HT2 := Lib.hid (HT1.out.step hb3)
    have hb4 := hb2.trans (hb3.mono hb2.size)
    clear H1 c0 c1 c2 c3 HG1 HT1 hb2 hb3
    go_wp2_with fail
    refine (H2.out W2).mono ?_
    rintro e W3 ⟨rfl, hb5⟩
    have HT3 := Lib.hid (HT2.out.step hb5)
    have hb6 := hb4.trans (hb5.mono hb4.size)
    clear H2 d0 d1 d2 d3 HT2 hb4 hb5
    go_wp2_with fail
    refine (gawake_any W3 HT3.out).mono ?_
    rintro e W4 ⟨rfl, hb7⟩
    go_wp2_with fail
    go_ret
    exact ⟨rfl, hb6.trans (hb7.mono hb6.size)⟩

theorem gcmSeals_lifted (os : Os) (started : os.Started) (H : Type) (enc : TypeId × Value → H) :
    ReturnsInHanded {} Tryd.checked os 4 .any (fun w args => (Rows.gcmSealsSpec.pre enc Tryd.prog Tryd.f4 [] false w args ∧ laidMetH Tryd.prog laid1 w) ∧ sizedMet enc Tryd.prog Tryd.f4 (OpenSpec.ofChange Rows.gcmSealsSpec) false w args)
      (Rows.gcmSealsSpec.post enc Tryd.prog Tryd.f4 false true false false) := by
  refine returnsInHanded_of_change_and (C := Tryd.checked) (X := fun w _ => laidMetH Tryd.prog laid1 w) (fun _ _ _ hh h => h.of_heap hh) own1 started (by kernel_rfl) Tryd.func4
    (ChangeSpec.witness_shaped (enc := enc) (C := Tryd.checked) (os := os) (X := fun w _ => laidMetH Tryd.prog laid1 w) false (World.doorLaid Tryd.prog 400 os) #[.agg #[.string ⟨#[]⟩, .string ⟨#[]⟩, .string ⟨#[]⟩, .string ⟨#[]⟩]] 8 rfl (World.shaped_of_RefB (by kernel_rfl) (by kernel_rfl)) (by kernel_rfl) (by kernel_rfl) (by kernel_rfl) (door_met1 os _)) ?_
  intro W base args ds gs before hval0 hW _ _ hL _
  have hval : ∀ (j : Nat) t v, Tryd.f4.params[j]? = some t → args[j]? = some v → Value.okWide Tryd.prog W .any base t v := hval0
  have hW' := hW
  obtain ⟨p, q, hA0, hV, rfl, hfz, hnd⟩ := hW
  have hA : DataW.TrodAll enc Tryd.prog W 0 (fun _ => true) true Tryd.f4.params.toList args.toList ds p := hA0
  rw [Tryd.params4] at hA hval
  obtain ⟨v0, d0, rfl, rfl, h0⟩ := trodAll_one hA
  obtain ⟨rfl, rfl⟩ := trodVars_none hV
  obtain ⟨c0, c1, c2, c3, y0, y1, y2, y3, m, rfl, rfl, rfl, hy0, hy1, hy2, hy3⟩ := Joins.open_agg4 Tryd.underlying28 (by kernel_rfl) (by kernel_rfl) (hval 0 28 v0 rfl rfl) h0
  obtain ⟨sk, e0, rfl, wk⟩ := DataW.trod_string Tryd.underlying9 hy0
  obtain ⟨sn, e1, rfl, wn⟩ := DataW.trod_string Tryd.underlying9 hy1
  obtain ⟨sb, e2, rfl, wb⟩ := DataW.trod_string Tryd.underlying9 hy2
  obtain ⟨sd, e3, rfl, wd'⟩ := DataW.trod_string Tryd.underlying9 hy3
  simp at e0 e1 e2 e3
  subst e0 e1 e2 e3
  have hT := of_laid1 hL
  clear hA0 hval0
  simp only [List.append_nil] at hW'
  refine (gcmSeals_any sk sn sb sd W wk wn wb wd' hT).mono fun e W' ⟨he, hb⟩ => ?_
  subst he
  refine ⟨_, rfl, _, _, _, [], [], [], hW', ?_, ?_, rfl, hb.frame _, fun h => by cases h⟩
  · exact trodAll_mk1 (shut_bool Tryd.underlying4 _)
  · exact trodAll_mk1 (Joins.shut_agg4 (y0 := (.lit (.string sk.data.toList), [])) (y1 := (.lit (.string sn.data.toList), [])) (y2 := (.lit (.string sb.data.toList), [])) (y3 := (.lit (.string sd.data.toList), [])) Tryd.underlying28 (by kernel_rfl) (by kernel_rfl) ⟨1, by simp [DataW.trod, Tryd.underlying9, (show Tryd.checked.prog.underlying 9 = some .string from Tryd.underlying9), wk]⟩ ⟨1, by simp [DataW.trod, Tryd.underlying9, (show Tryd.checked.prog.underlying 9 = some .string from Tryd.underlying9), wn]⟩ ⟨1, by simp [DataW.trod, Tryd.underlying9, (show Tryd.checked.prog.underlying 9 = some .string from Tryd.underlying9), wb]⟩ ⟨1, by simp [DataW.trod, Tryd.underlying9, (show Tryd.checked.prog.underlying 9 = some .string from Tryd.underlying9), wd']⟩)

theorem gcmSeals_holds : Rows.GcmSealsSaid :=
  OpenClaim.holds_of_wide 4 Tryd.f4 rfl rfl rfl rfl rfl rfl rfl ⟨rfl, rfl, rfl, rfl, rfl⟩ rfl rfl rfl rfl rfl (by kernel_rfl) Tryd.func4 (by kernel_rfl)
    (of_decide_eq_true (by kernel_rfl)) (by unfold Func.isWrapper; first | (rw [if_pos (by decide +kernel)]; kernel_rfl) | (rw [if_neg (by decide +kernel)]; exact ⟨rfl, rfl⟩))
    (fun os started H enc _ => gcmSeals_lifted os started H enc)

theorem gcmSeals_card : Rows.GcmSealsCardSaid :=
  Claim7.holds_tied_plain_at .later [] [.data] true (true, "1920fc86ffd897d46695fa6bd7019bebb46195e78957edda70977a529471b633") false
    gcmSeals_holds (fun _ h => by cases h) (by kernel_rfl) (fun _ h => by cases h) gcmSeals_row_tie rfl ⟨rfl, rfl⟩ (by kernel_rfl) rfl
    (fun f fn hf hfn => by
      obtain rfl : f = 4 := Option.some.inj ((show Tryd.prog.funcNamed "cresset/cressetlaw06.GcmSeals" = some 4 by kernel_rfl).symm.trans hf) |>.symm
      obtain rfl : fn = Tryd.f4 := (Option.some.inj (Tryd.func4.symm.trans hfn)).symm
      exact ⟨by kernel_rfl, fun j t ht => by
        rw [Tryd.params4] at ht
        have hm : t ∈ [28] := by simpa using Array.mem_of_getElem? ht
        have hall : ([28].all fun u => !Tryd.prog.wantsStandIn u) = true := by kernel_rfl
        exact (show Tryd.prog.wantsStandIn t = false by simpa using List.all_eq_true.1 hall t hm)⟩)
    (by kernel_rfl)
#print axioms gcmSeals_card
end Go.Proofs.YtoejkiblampecaaDoor
