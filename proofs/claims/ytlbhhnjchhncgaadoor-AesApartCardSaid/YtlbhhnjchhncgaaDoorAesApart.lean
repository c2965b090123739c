/- AesApart: for every key and any two blocks, of 16 bytes each, the program's Block of one is that of the other only where they are one, and Swap of two bytes is one only where they are; the chapter's examples hold. No condition; the table of squares of package aes lies as the program's text lays it. -/
import Derived.Test.YtlbhhnjchhncgaaDoorCards
import Derived.Test.YtlbhhnjchhncgaaDoorTie
import Derived.SevenTiedAt
import Derived.Test.YtlbhhnjchhncgaaDoorAesFrame
import Derived.Test.YtlbhhnjchhncgaaDoorAesInj
import Derived.Test.YtlbhhnjchhncgaaDoorAesWith
namespace Go.Proofs.YtlbhhnjchhncgaaDoor
open Go.ChangeShapes Go.WideShapes Go.ChangeAt Go.WideMaps Go.WideElems Go.RowKit
open Go.ChangeMaps (open_string shut_string)
set_option maxRecDepth 100000
set_option linter.unusedSimpArgs false
set_option linter.unusedVariables false

open Go.Sort
theorem encS_same (k a b : ByteArray) (ha : a.size = 16) (hb : b.size = 16) : ((encS k a).toList == (encS k b).toList) = (a.toList == b.toList) := by
  by_cases h : a = b
  · subst h; simp
  · have hn : ¬ (encS k a).toList = (encS k b).toList := by
      intro e
      rw [Lib.toList_data, Lib.toList_data] at e
      simp only [encS] at e
      have := enL_inj _ _ _ (by rw [← Lib.size_eq]; exact ha) (by rw [← Lib.size_eq]; exact hb) e
      exact h (by cases a; cases b; simp only [ByteArray.mk.injEq]; exact Array.toList_inj.1 this)
    have hm : ¬ a.toList = b.toList := by
      intro e
      rw [Lib.toList_data, Lib.toList_data] at e
      exact h (by cases a; cases b; simp only [ByteArray.mk.injEq]; exact Array.toList_inj.1 e)
    rw [beq_eq_false_iff_ne.2 hn, beq_eq_false_iff_ne.2 hm]
theorem sb_same (x y : UInt8) : (((sb x).toNat : Int) == ((sb y).toNat : Int)) = ((x.toNat : Int) == (y.toNat : Int)) := by
  by_cases h : x = y
  · subst h; simp
  · have h1 : ¬ (sb x).toNat = (sb y).toNat := fun e => h (sb_inj x y (UInt8.toNat_inj.1 e))
    have h2 : ¬ x.toNat = y.toNat := fun e => h (UInt8.toNat_inj.1 e)
    rw [beq_eq_false_iff_ne.2 (by omega), beq_eq_false_iff_ne.2 (by omega)]
set_option maxHeartbeats 2000000 in
theorem aesApart_any (k a b : ByteArray) (w : World) (_ : k.size ≤ maxLen) (_ : a.size ≤ maxLen) (_ : b.size ≤ maxLen) (hT : TabQ w) :
    Calls Tryd.prog 7 #[.string k, .string a, .string b] w fun e w' => e = .returned (.bool true) ∧ Below w.heap.size w w' := by
  have none_ok : ∀ (d1 d2 d3 : Bool), ((k.size : Int) != 16) = d1 → ((a.size : Int) != 16) = d2 → ((b.size : Int) != 16) = d3 → (d1 || d2 || d3) = true → Calls Tryd.prog 7 #[.string k, .string a, .string b] w fun e w' => e = .returned (.bool true) ∧ Below w.heap.size w w' := by
    intro d1 d2 d3 h1 h2 h3 hd
    cases d1 <;> cases d2 <;> cases d3 <;> simp only [Bool.or_false, Bool.or_true, Bool.false_eq_true, Bool.or_self] at hd <;> clear hd <;>
    · go_enter Tryd.func7, Tryd.ntmps7
      go_wp2_with fail
      refine (aawake_any w hT).mono ?_
      rintro e W3 ⟨rfl, hb3⟩
      go_wp2_with fail
      go_ret
      exact ⟨rfl, hb3⟩
  by_cases hk' : ¬ k.size = 16
  · exact none_ok true _ _ (by simp; omega) rfl rfl rfl
  by_cases ha' : ¬ a.size = 16
  · exact none_ok _ true _ rfl (by simp; omega) rfl (by simp)
  by_cases hb' : ¬ b.size = 16
  · exact none_ok _ _ true rfl rfl (by simp; omega) (by simp)
  clear none_ok
  have hk : k.size = 16 := by omega
  have ha : a.size = 16 := by omega
  have hb : b.size = 16 := by omega
  have d1 : ((k.size : Int) != 16) = false := by simp [hk]
  have d2 : ((a.size : Int) != 16) = false := by simp [ha]
  have d3 : ((b.size : Int) != 16) = false := by simp [hb]
  have H1 := Lib.hid (fun W hT => block_enc k a W hk ha hT)
  have H2 := Lib.hid (fun W hT => block_enc k b W hk hb hT)
  have hx := encS_same k a b ha hb
  have hs := encS_size k a
  have d4 : (((encS k a).size : Int) != 16) = false := by simp [hs]
  have HT := Lib.hid hT
  have HAS := Lib.hid ha; have HBS := Lib.hid hb
  clear hk ha hb hs hT hk' ha' hb'
  generalize encS k a = x at *
  generalize encS k b = y at *
  obtain ⟨t, ht⟩ : ∃ t, t = (a.toList == b.toList) := ⟨_, rfl⟩
  have x1 : (x.toList == y.toList) = t := by rw [hx, ← ht]
  have x2 : (a.toList == b.toList) = t := ht.symm
  clear hx ht
  cases t
  all_goals
    go_enter Tryd.func7, Tryd.ntmps7
    go_wp2_with fail
    refine (H1.out w HT.out).mono ?_
    rintro e W1 ⟨rfl, hb1⟩
    have hsz1 := hb1.size
    have HT1 := Lib.hid (HT.out.step hb1)
    go_wp2_with fail
    refine (H2.out W1 HT1.out).mono ?_
    rintro e W2 ⟨rfl, hb2⟩
    have hB2 : Below w.heap.size w W2 := hb1.trans (hb2.mono hsz1)
    have hsz2 := Nat.le_trans hsz1 hb2.size
    have HT2 := Lib.hid (HT1.out.step hb2)
    clear H1 H2 hb2 hb1 HT1 HT
    go_wp2_with fail
    go_loopw [11] (fun iv wr => ∃ i : Nat, i ≤ 16 ∧ iv = .int .i64 (i : Int) ∧ Below w.heap.size w wr ∧ TabQ wr ∧ w.heap.size ≤ wr.heap.size) (fun iv _ => 16 - (intOf iv).toNat)
    case atStart => exact ⟨0, by omega, rfl, hB2, HT2.out, hsz2⟩
    case round =>
      clear hB2 HT2 hsz2
      obtain ⟨i, hi, rfl, hb, hTr, hsz⟩ := hrel
      have HTr := Lib.hid hTr
      clear hTr
      by_cases hlt : i < 16
      · have hd : decide ((i : Int) < 16) = true := by simp; omega
        have i1 := index_text a i (by rw [HAS.out]; exact hlt)
        have i2 := index_text b i (by rw [HBS.out]; exact hlt)
        have hss := sb_same (a.data.toList.getD i 0) (b.data.toList.getD i 0)
        have C1 := Lib.hid (fun d os => Calls.regrown_of (ownSwap_any (a.data.toList.getD i 0) (grow (redrawn wr d) os) (HTr.out.step (below_regrown wr d os))))
        have C2 := Lib.hid (fun d os => Calls.regrown_of (ownSwap_any (b.data.toList.getD i 0) (grow (redrawn wr d) os) (HTr.out.step (below_regrown wr d os))))
        generalize a.data.toList.getD i 0 = p at *
        generalize b.data.toList.getD i 0 = q at *
        obtain ⟨u, hu⟩ : ∃ u, u = ((p.toNat : Int) == (q.toNat : Int)) := ⟨_, rfl⟩
        have y1 : (((sb p).toNat : Int) == ((sb q).toNat : Int)) = u := by rw [hss, ← hu]
        have y2 : ((p.toNat : Int) == (q.toNat : Int)) = u := hu.symm
        clear hss hu
        generalize (sb p).toNat = sp at *
        generalize (sb q).toNat = sq at *
        go_wp2_with fail
        refine wp_region_reads (by kernel_rfl) (by kernel_rfl) ?_
        repeat (first | go_big_quiet_step ((first | with_reducible exact C1.out _ _ | with_reducible exact C2.out _ _)) | quiet_step ((first | with_reducible exact C1.out _ _ | with_reducible exact C2.out _ _)))
        refine wpQuiet_nil ?_
        intro W4 hb4
        have hb5 := hb.trans (hb4.mono hsz)
        have HT5 := Lib.hid (HTr.out.step hb4)
        have hsz5 := Nat.le_trans hsz hb4.size
        have huu : (u != u) = false := by simp
        clear hb4 C1 C2 HTr hb
        go_wp2_with fail
        go_roundw
        case rel => exact ⟨i + 1, by omega, by go_num, hb5, HT5.out, hsz5⟩
        case measure => simp [intOf]; omega
      · have hd : decide ((i : Int) < 16) = false := by simp; omega
        go_wp2_with fail
        refine (aawake_any wr HTr.out).mono ?_
        rintro e W3 ⟨rfl, hb3⟩
        go_wp2_with fail
        go_ret
        exact ⟨rfl, hb.trans (hb3.mono hsz)⟩

theorem aesApart_lifted (os : Os) (started : os.Started) (H : Type) (enc : TypeId × Value → H) :
    ReturnsInHanded {} Tryd.checked os 7 .any (fun w args => (Rows.aesApartSpec.pre enc Tryd.prog Tryd.f7 [] false w args ∧ laidMetH Tryd.prog laid1 w) ∧ sizedMet enc Tryd.prog Tryd.f7 (OpenSpec.ofChange Rows.aesApartSpec) false w args)
      (Rows.aesApartSpec.post enc Tryd.prog Tryd.f7 false true false false) := by
  refine returnsInHanded_of_change_and (C := Tryd.checked) (X := fun w _ => laidMetH Tryd.prog laid1 w) (fun _ _ _ hh h => h.of_heap hh) own1 started (by kernel_rfl) Tryd.func7
    (ChangeSpec.witness_shaped (enc := enc) (C := Tryd.checked) (os := os) (X := fun w _ => laidMetH Tryd.prog laid1 w) false (World.doorLaid Tryd.prog 400 os) #[.string ⟨#[]⟩, .string ⟨#[]⟩, .string ⟨#[]⟩] 8 rfl (World.shaped_of_RefB (by kernel_rfl) (by kernel_rfl)) (by kernel_rfl) (by kernel_rfl) (by kernel_rfl) (door_met1 os _)) ?_
  intro W base args ds gs before hval0 hW _ _ hL _
  have hval : ∀ (j : Nat) t v, Tryd.f7.params[j]? = some t → args[j]? = some v → Value.okWide Tryd.prog W .any base t v := hval0
  have hW' := hW
  obtain ⟨p, q, hA0, hV, rfl, hfz, hnd⟩ := hW
  have hA : DataW.TrodAll enc Tryd.prog W 0 (fun _ => true) true Tryd.f7.params.toList args.toList ds p := hA0
  rw [Tryd.params7] at hA hval
  obtain ⟨v0, v1, v2, d0, d1, d2, p0, p1, p2, rfl, rfl, rfl, h0, h1, h2⟩ := trodAll_three hA
  obtain ⟨rfl, rfl⟩ := trodVars_none hV
  obtain ⟨s0, rfl, rfl, rfl, w0⟩ := open_string Tryd.underlying9 (hval 0 9 v0 rfl rfl) h0
  obtain ⟨s1, rfl, rfl, rfl, w1⟩ := open_string Tryd.underlying9 (hval 1 9 v1 rfl rfl) h1
  obtain ⟨s2, rfl, rfl, rfl, w2⟩ := open_string Tryd.underlying9 (hval 2 9 v2 rfl rfl) h2
  have hT := of_laid1 hL
  clear hA0 hval0
  simp only [List.append_nil] at hW'
  refine (aesApart_any s0 s1 s2 W w0 w1 w2 hT).mono fun e W' ⟨he, hb⟩ => ?_
  subst he
  refine ⟨_, rfl, _, _, _, [], [], [], hW', ?_, ?_, rfl, hb.frame _, fun h => by cases h⟩
  · exact trodAll_mk1 (shut_bool Tryd.underlying4 _)
  · exact trodAll_mk3 (shut_string Tryd.underlying9 w0) (shut_string Tryd.underlying9 w1) (shut_string Tryd.underlying9 w2)

theorem aesApart_holds : Rows.AesApartSaid :=
  OpenClaim.holds_of_wide 7 Tryd.f7 rfl rfl rfl rfl rfl rfl rfl ⟨rfl, rfl, rfl, rfl, rfl⟩ rfl rfl rfl rfl rfl (by kernel_rfl) Tryd.func7 (by kernel_rfl)
    (of_decide_eq_true (by kernel_rfl)) (by unfold Func.isWrapper; first | (rw [if_pos (by decide +kernel)]; kernel_rfl) | (rw [if_neg (by decide +kernel)]; exact ⟨rfl, rfl⟩))
    (fun os started H enc _ => aesApart_lifted os started H enc)

theorem aesApart_card : Rows.AesApartCardSaid :=
  Claim7.holds_tied_plain_at .later [] [.data] true (true, "3870ea90e8ba3b78e694f39e2f7723a2c9cb9b13981a67c1f7b5d1b71bab7926") false
    aesApart_holds (fun _ h => by cases h) (by kernel_rfl) (fun _ h => by cases h) aesApart_row_tie rfl ⟨rfl, rfl⟩ (by kernel_rfl) rfl
    (fun f fn hf hfn => by
      obtain rfl : f = 7 := Option.some.inj ((show Tryd.prog.funcNamed "cresset/cressetlaw05.AesApart" = some 7 by kernel_rfl).symm.trans hf) |>.symm
      obtain rfl : fn = Tryd.f7 := (Option.some.inj (Tryd.func7.symm.trans hfn)).symm
      exact ⟨by kernel_rfl, fun j t ht => by
        rw [Tryd.params7] at ht
        have hm : t ∈ [9, 9, 9] := by simpa using Array.mem_of_getElem? ht
        have hall : ([9, 9, 9].all fun u => !Tryd.prog.wantsStandIn u) = true := by kernel_rfl
        exact (show Tryd.prog.wantsStandIn t = false by simpa using List.all_eq_true.1 hall t hm)⟩)
    (by kernel_rfl)
#print axioms aesApart_card
end Go.Proofs.YtlbhhnjchhncgaaDoor
