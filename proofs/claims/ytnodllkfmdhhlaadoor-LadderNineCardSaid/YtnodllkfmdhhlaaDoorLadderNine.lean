/- LadderNine: for every two texts: Public is what Share and the text of 9 come to, and it is OK for every secret of 32 bytes; texts of another size are no keys; the chapter's examples hold. No condition; the prime of package field lies as the program's text lays it. -/
import Derived.Test.YtnodllkfmdhhlaaDoorCards
import Derived.Test.YtnodllkfmdhhlaaDoorTie
import Derived.SevenTiedAt
import Derived.Test.YtnodllkfmdhhlaaDoorFldL
import Derived.Test.YtnodllkfmdhhlaaDoorLadWake
import Derived.Test.YtnodllkfmdhhlaaDoorLadPrime
namespace Go.Proofs.YtnodllkfmdhhlaaDoor
open Go.ChangeShapes Go.WideShapes Go.ChangeAt Go.WideMaps Go.WideElems Go.RowKit
open Go.ChangeMaps (open_string shut_string)
set_option maxRecDepth 100000
set_option linter.unusedSimpArgs false
set_option linter.unusedVariables false

/-- A key of 32 bytes always has a public key. -/
theorem nine_ok (s : ByteArray) (h : s.size = 32) : okLB s nineT = true := by
  have h1 : shareF s.data.toList nineT.data.toList ≠ 0 := nine_never s.data.toList (by rw [← Lib.size_eq]; exact h)
  simp [okLB, h, nineT_size, h1]
theorem nine_bad (s : ByteArray) (h : s.size ≠ 32) : okLB s nineT = false := bad_eq s nineT (.inl h)
set_option maxHeartbeats 4000000 in
theorem ladderNine_any (s : ByteArray) (p : ByteArray) (w : World) (_ : s.size ≤ maxLen) (_ : p.size ≤ maxLen) (hT : PrmQ w) :
    Calls Tryd.prog 5 #[.string s, .string p] w fun e w' => e = .returned (.bool true) ∧ Below w.heap.size w w' := by
  by_cases h0 : s.size = 32
  · by_cases h1 : p.size = 32
    · cases h2 : okLB s p
      · have C1 := Lib.hid (fun W hW => publicT_any s W hW)
        have C2 := Lib.hid (fun W hW => shareT_any s nineT W hW)
        have C3 := Lib.hid (fun W hW => shareT_any s p W hW)
        have hE : shareE s nineT = 0 := by rw [shareE, nine_ok s h0]; rfl
        have t0 : ((s.size : Int) != 32) = false := by simp; omega
        have t2 : ((s.size : Int) == 32) = true := by simp; omega
        have t1 : ((p.size : Int) != 32) = false := by simp; omega
        have hX : shareX s p = ⟨#[]⟩ ∧ shareE s p = 21 := by rw [shareX, shareE, h2]; exact ⟨rfl, rfl⟩
        rw [hX.1, hX.2] at C3
        clear hX
        rw [hE] at C1 C2
        generalize shareX s nineT = x at *
        have ex : (x.toList == x.toList) = true := by simp
        have hmk := fun W => make_nil W 31 31 rfl (by omega)
        have htx := fun W : World => text_nil (W.alloc (nilO 31)) W.heap.size 31 (blk_new W _)
        have hbn := Lib.hid (fun W => below_new W (nilO 31))
        have hns := nilB_size 31
        have hcat : (⟨#[9]⟩ : ByteArray) ++ nilB 31 = nineT := by decide
        generalize nineT = t at *
        generalize nilB 31 = n31 at *
        generalize nilO 31 = o31 at *
        clear hE h0 h1 h2
        have HA := Lib.hid (fun W hW => lawake_any W hW)
        have HP := Lib.hid hT
        have hb := Below.refl w.heap.size w
        clear hT
        go_enter Tryd.func5, Tryd.ntmps5
        go_wp2_with fail
        refine (C1.out w HP.out).mono ?_
        rintro e W1 ⟨rfl, bk⟩
        replace hb := hb.trans (bk.mono hb.size)
        replace HP := Lib.hid (HP.out.step bk)
        clear bk
        go_wp2_with fail
        replace hb := hb.trans ((hbn.out W1).mono hb.size)
        replace HP := Lib.hid (HP.out.step (hbn.out W1))
        generalize W1.alloc o31 = V1 at *
        refine (C2.out V1 HP.out).mono ?_
        rintro e W2 ⟨rfl, bk⟩
        replace hb := hb.trans (bk.mono hb.size)
        replace HP := Lib.hid (HP.out.step bk)
        clear bk
        go_wp2_with fail
        refine (C3.out W2 HP.out).mono ?_
        rintro e W3 ⟨rfl, bk⟩
        replace hb := hb.trans (bk.mono hb.size)
        replace HP := Lib.hid (HP.out.step bk)
        clear bk
        go_wp2_with fail
        refine (HA.out W3 HP.out).mono ?_
        rintro e W4 ⟨rfl, bk⟩
        replace hb := hb.trans (bk.mono hb.size)
        replace HP := Lib.hid (HP.out.step bk)
        clear bk
        go_wp2_with fail
        go_ret
        exact ⟨rfl, hb⟩
      · have C1 := Lib.hid (fun W hW => publicT_any s W hW)
        have C2 := Lib.hid (fun W hW => shareT_any s nineT W hW)
        have C3 := Lib.hid (fun W hW => shareT_any s p W hW)
        have hE : shareE s nineT = 0 := by rw [shareE, nine_ok s h0]; rfl
        have t0 : ((s.size : Int) != 32) = false := by simp; omega
        have t2 : ((s.size : Int) == 32) = true := by simp; omega
        have t1 : ((p.size : Int) != 32) = false := by simp; omega
        have hX : shareX s p = ⟨(shareL s.data.toList p.data.toList).toArray⟩ ∧ shareE s p = 0 := by rw [shareX, shareE, h2]; exact ⟨rfl, rfl⟩
        have hl := shareL_length s.data.toList p.data.toList
        rw [hX.1, hX.2] at C3
        obtain ⟨z, hz⟩ : ∃ z : ByteArray, z = ⟨(shareL s.data.toList p.data.toList).toArray⟩ := ⟨_, rfl⟩
        have hzs : ((z.size : Int) == 32) = true := by rw [hz, show (⟨(shareL s.data.toList p.data.toList).toArray⟩ : ByteArray).size = 32 from hl]; rfl
        rw [← hz] at C3
        clear hX hl hz
        rw [hE] at C1 C2
        generalize shareX s nineT = x at *
        have ex : (x.toList == x.toList) = true := by simp
        have hmk := fun W => make_nil W 31 31 rfl (by omega)
        have htx := fun W : World => text_nil (W.alloc (nilO 31)) W.heap.size 31 (blk_new W _)
        have hbn := Lib.hid (fun W => below_new W (nilO 31))
        have hns := nilB_size 31
        have hcat : (⟨#[9]⟩ : ByteArray) ++ nilB 31 = nineT := by decide
        generalize nineT = t at *
        generalize nilB 31 = n31 at *
        generalize nilO 31 = o31 at *
        clear hE h0 h1 h2
        have HA := Lib.hid (fun W hW => lawake_any W hW)
        have HP := Lib.hid hT
        have hb := Below.refl w.heap.size w
        clear hT
        go_enter Tryd.func5, Tryd.ntmps5
        go_wp2_with fail
        refine (C1.out w HP.out).mono ?_
        rintro e W1 ⟨rfl, bk⟩
        replace hb := hb.trans (bk.mono hb.size)
        replace HP := Lib.hid (HP.out.step bk)
        clear bk
        go_wp2_with fail
        replace hb := hb.trans ((hbn.out W1).mono hb.size)
        replace HP := Lib.hid (HP.out.step (hbn.out W1))
        generalize W1.alloc o31 = V1 at *
        refine (C2.out V1 HP.out).mono ?_
        rintro e W2 ⟨rfl, bk⟩
        replace hb := hb.trans (bk.mono hb.size)
        replace HP := Lib.hid (HP.out.step bk)
        clear bk
        go_wp2_with fail
        refine (C3.out W2 HP.out).mono ?_
        rintro e W3 ⟨rfl, bk⟩
        replace hb := hb.trans (bk.mono hb.size)
        replace HP := Lib.hid (HP.out.step bk)
        clear bk
        go_wp2_with fail
        refine (HA.out W3 HP.out).mono ?_
        rintro e W4 ⟨rfl, bk⟩
        replace hb := hb.trans (bk.mono hb.size)
        replace HP := Lib.hid (HP.out.step bk)
        clear bk
        go_wp2_with fail
        go_ret
        exact ⟨rfl, hb⟩
    · have h2 : okLB s p = false := bad_eq s p (.inr h1)
      have C1 := Lib.hid (fun W hW => publicT_any s W hW)
      have C2 := Lib.hid (fun W hW => shareT_any s nineT W hW)
      have C3 := Lib.hid (fun W hW => shareT_any s p W hW)
      have hE : shareE s nineT = 0 := by rw [shareE, nine_ok s h0]; rfl
      have t0 : ((s.size : Int) != 32) = false := by simp; omega
      have t2 : ((s.size : Int) == 32) = true := by simp; omega
      have t1 : ((p.size : Int) != 32) = true := by simp; omega
      have hX : shareX s p = ⟨#[]⟩ ∧ shareE s p = 21 := by rw [shareX, shareE, h2]; exact ⟨rfl, rfl⟩
      rw [hX.1, hX.2] at C3
      clear hX
      rw [hE] at C1 C2
      generalize shareX s nineT = x at *
      have ex : (x.toList == x.toList) = true := by simp
      have hmk := fun W => make_nil W 31 31 rfl (by omega)
      have htx := fun W : World => text_nil (W.alloc (nilO 31)) W.heap.size 31 (blk_new W _)
      have hbn := Lib.hid (fun W => below_new W (nilO 31))
      have hns := nilB_size 31
      have hcat : (⟨#[9]⟩ : ByteArray) ++ nilB 31 = nineT := by decide
      generalize nineT = t at *
      generalize nilB 31 = n31 at *
      generalize nilO 31 = o31 at *
      clear hE h0 h1 h2
      have HA := Lib.hid (fun W hW => lawake_any W hW)
      have HP := Lib.hid hT
      have hb := Below.refl w.heap.size w
      clear hT
      go_enter Tryd.func5, Tryd.ntmps5
      go_wp2_with fail
      refine (C1.out w HP.out).mono ?_
      rintro e W1 ⟨rfl, bk⟩
      replace hb := hb.trans (bk.mono hb.size)
      replace HP := Lib.hid (HP.out.step bk)
      clear bk
      go_wp2_with fail
      replace hb := hb.trans ((hbn.out W1).mono hb.size)
      replace HP := Lib.hid (HP.out.step (hbn.out W1))
      generalize W1.alloc o31 = V1 at *
      refine (C2.out V1 HP.out).mono ?_
      rintro e W2 ⟨rfl, bk⟩
      replace hb := hb.trans (bk.mono hb.size)
      replace HP := Lib.hid (HP.out.step bk)
      clear bk
      go_wp2_with fail
      refine (C3.out W2 HP.out).mono ?_
      rintro e W3 ⟨rfl, bk⟩
      replace hb := hb.trans (bk.mono hb.size)
      replace HP := Lib.hid (HP.out.step bk)
      clear bk
      go_wp2_with fail
      refine (HA.out W3 HP.out).mono ?_
      rintro e W4 ⟨rfl, bk⟩
      replace hb := hb.trans (bk.mono hb.size)
      replace HP := Lib.hid (HP.out.step bk)
      clear bk
      go_wp2_with fail
      go_ret
      exact ⟨rfl, hb⟩
  · have h2 : okLB s p = false := bad_eq s p (.inl h0)
    by_cases h1 : p.size = 32
    · have C1 := Lib.hid (fun W hW => publicT_any s W hW)
      have C2 := Lib.hid (fun W hW => shareT_any s nineT W hW)
      have C3 := Lib.hid (fun W hW => shareT_any s p W hW)
      have hE : shareE s nineT = 21 := by rw [shareE, nine_bad s h0]; rfl
      have t0 : ((s.size : Int) != 32) = true := by simp; omega
      have t2 : ((s.size : Int) == 32) = false := by simp; omega
      have t1 : ((p.size : Int) != 32) = false := by simp; omega
      have hX : shareX s p = ⟨#[]⟩ ∧ shareE s p = 21 := by rw [shareX, shareE, h2]; exact ⟨rfl, rfl⟩
      rw [hX.1, hX.2] at C3
      clear hX
      rw [hE] at C1 C2
      generalize shareX s nineT = x at *
      have ex : (x.toList == x.toList) = true := by simp
      have hmk := fun W => make_nil W 31 31 rfl (by omega)
      have htx := fun W : World => text_nil (W.alloc (nilO 31)) W.heap.size 31 (blk_new W _)
      have hbn := Lib.hid (fun W => below_new W (nilO 31))
      have hns := nilB_size 31
      have hcat : (⟨#[9]⟩ : ByteArray) ++ nilB 31 = nineT := by decide
      generalize nineT = t at *
      generalize nilB 31 = n31 at *
      generalize nilO 31 = o31 at *
      clear hE h0 h1 h2
      have HA := Lib.hid (fun W hW => lawake_any W hW)
      have HP := Lib.hid hT
      have hb := Below.refl w.heap.size w
      clear hT
      go_enter Tryd.func5, Tryd.ntmps5
      go_wp2_with fail
      refine (C1.out w HP.out).mono ?_
      rintro e W1 ⟨rfl, bk⟩
      replace hb := hb.trans (bk.mono hb.size)
      replace HP := Lib.hid (HP.out.step bk)
      clear bk
      go_wp2_with fail
      replace hb := hb.trans ((hbn.out W1).mono hb.size)
      replace HP := Lib.hid (HP.out.step (hbn.out W1))
      generalize W1.alloc o31 = V1 at *
      refine (C2.out V1 HP.out).mono ?_
      rintro e W2 ⟨rfl, bk⟩
      replace hb := hb.trans (bk.mono hb.size)
      replace HP := Lib.hid (HP.out.step bk)
      clear bk
      go_wp2_with fail
      refine (C3.out W2 HP.out).mono ?_
      rintro e W3 ⟨rfl, bk⟩
      replace hb := hb.trans (bk.mono hb.size)
      replace HP := Lib.hid (HP.out.step bk)
      clear bk
      go_wp2_with fail
      refine (HA.out W3 HP.out).mono ?_
      rintro e W4 ⟨rfl, bk⟩
      replace hb := hb.trans (bk.mono hb.size)
      replace HP := Lib.hid (HP.out.step bk)
      clear bk
      go_wp2_with fail
      go_ret
      exact ⟨rfl, hb⟩
    · have C1 := Lib.hid (fun W hW => publicT_any s W hW)
      have C2 := Lib.hid (fun W hW => shareT_any s nineT W hW)
      have C3 := Lib.hid (fun W hW => shareT_any s p W hW)
      have hE : shareE s nineT = 21 := by rw [shareE, nine_bad s h0]; rfl
      have t0 : ((s.size : Int) != 32) = true := by simp; omega
      have t2 : ((s.size : Int) == 32) = false := by simp; omega
      have t1 : ((p.size : Int) != 32) = true := by simp; omega
      have hX : shareX s p = ⟨#[]⟩ ∧ shareE s p = 21 := by rw [shareX, shareE, h2]; exact ⟨rfl, rfl⟩
      rw [hX.1, hX.2] at C3
      clear hX
      rw [hE] at C1 C2
      generalize shareX s nineT = x at *
      have ex : (x.toList == x.toList) = true := by simp
      have hmk := fun W => make_nil W 31 31 rfl (by omega)
      have htx := fun W : World => text_nil (W.alloc (nilO 31)) W.heap.size 31 (blk_new W _)
      have hbn := Lib.hid (fun W => below_new W (nilO 31))
      have hns := nilB_size 31
      have hcat : (⟨#[9]⟩ : ByteArray) ++ nilB 31 = nineT := by decide
      generalize nineT = t at *
      generalize nilB 31 = n31 at *
      generalize nilO 31 = o31 at *
      clear hE h0 h1 h2
      have HA := Lib.hid (fun W hW => lawake_any W hW)
      have HP := Lib.hid hT
      have hb := Below.refl w.heap.size w
      clear hT
      go_enter Tryd.func5, Tryd.ntmps5
      go_wp2_with fail
      refine (C1.out w HP.out).mono ?_
      rintro e W1 ⟨rfl, bk⟩
      replace hb := hb.trans (bk.mono hb.size)
      replace HP := Lib.hid (HP.out.step bk)
      clear bk
      go_wp2_with fail
      replace hb := hb.trans ((hbn.out W1).mono hb.size)
      replace HP := Lib.hid (HP.out.step (hbn.out W1))
      generalize W1.alloc o31 = V1 at *
      refine (C2.out V1 HP.out).mono ?_
      rintro e W2 ⟨rfl, bk⟩
      replace hb := hb.trans (bk.mono hb.size)
      replace HP := Lib.hid (HP.out.step bk)
      clear bk
      go_wp2_with fail
      refine (C3.out W2 HP.out).mono ?_
      rintro e W3 ⟨rfl, bk⟩
      replace hb := hb.trans (bk.mono hb.size)
      replace HP := Lib.hid (HP.out.step bk)
      clear bk
      go_wp2_with fail
      refine (HA.out W3 HP.out).mono ?_
      rintro e W4 ⟨rfl, bk⟩
      replace hb := hb.trans (bk.mono hb.size)
      replace HP := Lib.hid (HP.out.step bk)
      clear bk
      go_wp2_with fail
      go_ret
      exact ⟨rfl, hb⟩

theorem ladderNine_lifted (os : Os) (started : os.Started) (H : Type) (enc : TypeId × Value → H) :
    ReturnsInHanded {} Tryd.checked os 5 .any (fun w args => (Rows.ladderNineSpec.pre enc Tryd.prog Tryd.f5 [] false w args ∧ laidMetH Tryd.prog laid1 w) ∧ sizedMet enc Tryd.prog Tryd.f5 (OpenSpec.ofChange Rows.ladderNineSpec) false w args)
      (Rows.ladderNineSpec.post enc Tryd.prog Tryd.f5 false true false false) := by
  refine returnsInHanded_of_change_and (C := Tryd.checked) (X := fun w _ => laidMetH Tryd.prog laid1 w) (fun _ _ _ hh h => h.of_heap hh) own1 started (by kernel_rfl) Tryd.func5
    (ChangeSpec.witness_shaped (enc := enc) (C := Tryd.checked) (os := os) (X := fun w _ => laidMetH Tryd.prog laid1 w) false (World.doorLaid Tryd.prog 400 os) #[.string ⟨#[]⟩, .string ⟨#[]⟩] 8 rfl (World.shaped_of_RefB (by kernel_rfl) (by kernel_rfl)) (by kernel_rfl) (by kernel_rfl) (by kernel_rfl) (door_met1 os _)) ?_
  intro W base args ds gs before hval0 hW _ _ hL _
  have hval : ∀ (j : Nat) t v, Tryd.f5.params[j]? = some t → args[j]? = some v → Value.okWide Tryd.prog W .any base t v := hval0
  have hW' := hW
  obtain ⟨p, q, hA0, hV, rfl, hfz, hnd⟩ := hW
  have hA : DataW.TrodAll enc Tryd.prog W 0 (fun _ => true) true Tryd.f5.params.toList args.toList ds p := hA0
  rw [Tryd.params5] at hA hval
  obtain ⟨v0, v1, d0, d1, p0, p1, rfl, rfl, rfl, h0, h1⟩ := trodAll_two hA
  obtain ⟨rfl, rfl⟩ := trodVars_none hV
  obtain ⟨s0, rfl, rfl, rfl, w0⟩ := open_string Tryd.underlying9 (hval 0 9 v0 rfl rfl) h0
  obtain ⟨s1, rfl, rfl, rfl, w1⟩ := open_string Tryd.underlying9 (hval 1 9 v1 rfl rfl) h1
  have hT := of_laid1 hL
  clear hA0 hval0
  simp only [List.append_nil] at hW'
  refine (ladderNine_any s0 s1 W w0 w1 hT).mono fun e W' ⟨he, hb⟩ => ?_
  subst he
  refine ⟨_, rfl, _, _, _, [], [], [], hW', ?_, ?_, rfl, hb.frame _, fun h => by cases h⟩
  · exact trodAll_mk1 (shut_bool Tryd.underlying4 _)
  · exact trodAll_mk2 (shut_string Tryd.underlying9 w0) (shut_string Tryd.underlying9 w1)

theorem ladderNine_holds : Rows.LadderNineSaid :=
  OpenClaim.holds_of_wide 5 Tryd.f5 rfl rfl rfl rfl rfl rfl rfl ⟨rfl, rfl, rfl, rfl, rfl⟩ rfl rfl rfl rfl rfl (by kernel_rfl) Tryd.func5 (by kernel_rfl)
    (of_decide_eq_true (by kernel_rfl)) (by unfold Func.isWrapper; first | (rw [if_pos (by decide +kernel)]; kernel_rfl) | (rw [if_neg (by decide +kernel)]; exact ⟨rfl, rfl⟩))
    (fun os started H enc _ => ladderNine_lifted os started H enc)

theorem ladderNine_card : Rows.LadderNineCardSaid :=
  Claim7.holds_tied_plain_at .later [] [.data] true (true, "3d8fa569b354870fe76bfeed7cfd70fef40b831b3ed3f75af293c2cd06270a74") false
    ladderNine_holds (fun _ h => by cases h) (by kernel_rfl) (fun _ h => by cases h) ladderNine_row_tie rfl ⟨rfl, rfl⟩ (by kernel_rfl) rfl
    (fun f fn hf hfn => by
      obtain rfl : f = 5 := Option.some.inj ((show Tryd.prog.funcNamed "cresset/cressetlaw09.LadderNine" = some 5 by kernel_rfl).symm.trans hf) |>.symm
      obtain rfl : fn = Tryd.f5 := (Option.some.inj (Tryd.func5.symm.trans hfn)).symm
      exact ⟨by kernel_rfl, fun j t ht => by
        rw [Tryd.params5] at ht
        have hm : t ∈ [9, 9] := by simpa using Array.mem_of_getElem? ht
        have hall : ([9, 9].all fun u => !Tryd.prog.wantsStandIn u) = true := by kernel_rfl
        exact (show Tryd.prog.wantsStandIn t = false by simpa using List.all_eq_true.1 hall t hm)⟩)
    (by kernel_rfl)
#print axioms ladderNine_card
end Go.Proofs.YtnodllkfmdhhlaaDoor
