/- GcmAdds: for every key and two blocks of 16 bytes, the program's digest of one block is the product, in whatever order, and that of both blocks together is both of theirs together; the chapter's examples hold. No condition; the table of squares of package aes lies as the program's text lays it. -/
import Derived.Test.YtoejkiblampecaaDoorCards
import Derived.Test.YtoejkiblampecaaDoorTie
import Derived.SevenTiedAt
import Derived.Test.YtoejkiblampecaaDoorGcmWake
namespace Go.Proofs.YtoejkiblampecaaDoor
open Go.ChangeShapes Go.WideShapes Go.ChangeAt Go.WideMaps Go.WideElems Go.RowKit
open Go.ChangeMaps (open_string shut_string)
set_option maxRecDepth 100000
set_option linter.unusedSimpArgs false
set_option linter.unusedVariables false

theorem one_size (k a : List UInt8) : (⟨(hashG k a).toArray⟩ : ByteArray).size = 16 := hashG_length _ _
set_option maxHeartbeats 2000000 in
theorem gcmAdds_any (k a b : ByteArray) (w : World) (_ : k.size ≤ maxLen) (_ : a.size ≤ maxLen) (_ : b.size ≤ maxLen) (hT : TabQ w) :
    Calls Tryd.prog 7 #[.string k, .string a, .string b] w fun e w' => e = .returned (.bool true) ∧ Below w.heap.size w w' := by
  have HT := Lib.hid hT
  clear hT
  by_cases hgood : k.size = 16 ∧ a.size = 16 ∧ b.size = 16
  · obtain ⟨hk, ha, hb⟩ := hgood
    obtain ⟨i0, hi, hz0, hz1, hz2⟩ := info_parts info_u8
    have d1 : ((k.size : Int) != 16) = false := by simp; omega
    have d2 : ((a.size : Int) != 16) = false := by simp; omega
    have d3 : ((b.size : Int) != 16) = false := by simp; omega
    have hal : a.data.toList.length = 16 := by rw [← Lib.size_eq]; exact ha
    have hbl : b.data.toList.length = 16 := by rw [← Lib.size_eq]; exact hb
    have hkl : k.data.toList.length = 16 := by rw [← Lib.size_eq]; exact hk
    obtain ⟨c, hc⟩ : ∃ c : ByteArray, c = ⟨(plS a.data.toList b.data.toList).toArray⟩ := ⟨_, rfl⟩
    have hcl : c.data.toList = plS a.data.toList b.data.toList := by rw [hc]
    have hcs : c.size = 16 := by rw [hc]; exact plS_length _ _
    have H1 := Lib.hid (fun W => ghash_any k a W hk (by omega) (by omega))
    have H2 := Lib.hid (fun W => ghash_any k b W hk (by omega) (by omega))
    have H3 := Lib.hid (fun W => ghash_any k c W hk (by omega) (by omega))
    have H4 := Lib.hid (fun W => ghash_any a k W ha (by omega) (by omega))
    rw [hashG_swap _ _ hal hkl] at H4
    have HAd := Lib.hid (show hashG k.data.toList c.data.toList = plS (hashG k.data.toList a.data.toList) (hashG k.data.toList b.data.toList) from by rw [hcl]; exact hashG_add _ _ _ hal hbl)
    have hx16 := one_size k.data.toList a.data.toList
    have hy16 := one_size k.data.toList b.data.toList
    have hz16 := one_size k.data.toList c.data.toList
    obtain ⟨x, hx⟩ : ∃ x : ByteArray, x = ⟨(hashG k.data.toList a.data.toList).toArray⟩ := ⟨_, rfl⟩
    obtain ⟨y, hy⟩ : ∃ y : ByteArray, y = ⟨(hashG k.data.toList b.data.toList).toArray⟩ := ⟨_, rfl⟩
    obtain ⟨z, hz⟩ : ∃ z : ByteArray, z = ⟨(hashG k.data.toList c.data.toList).toArray⟩ := ⟨_, rfl⟩
    rw [← hx] at hx16 H1 H4
    rw [← hy] at hy16 H2
    rw [← hz] at hz16 H3
    have HZ := Lib.hid (show ∀ i, i < 16 → z.data.toList.getD i 0 = x.data.toList.getD i 0 ^^^ y.data.toList.getD i 0 from fun i hi => by
      rw [hz, hx, hy]
      show (hashG k.data.toList c.data.toList).getD i 0 = _
      rw [HAd.out, plS, range_getD _ _ _ hi])
    have HCB := Lib.hid hcl
    have s1 : ((x.size : Int) != 16) = false := by simp [hx16]
    have s2 : ((y.size : Int) != 16) = false := by simp [hy16]
    have s3 : ((z.size : Int) != 16) = false := by simp [hz16]
    have ex : (x.toList == x.toList) = true := by simp
    have HIa := Lib.hid (fun (j : Nat) (h : j < 16) (V : World) => index_text a j (by omega) V)
    have HIb := Lib.hid (fun (j : Nat) (h : j < 16) (V : World) => index_text b j (by omega) V)
    have HIx := Lib.hid (fun (j : Nat) (h : j < 16) (V : World) => index_text x j (by omega) V)
    have HIy := Lib.hid (fun (j : Nat) (h : j < 16) (V : World) => index_text y j (by omega) V)
    have HIz := Lib.hid (fun (j : Nat) (h : j < 16) (V : World) => index_text z j (by omega) V)
    have HCL := Lib.hid (show genL (fun i => a.data.toList.getD i 0 ^^^ b.data.toList.getD i 0) 16 = plS a.data.toList b.data.toList from rfl)
    have HCS := Lib.hid hc
    clear hc hcl hcs hx hy hz hal hbl hkl HAd hk ha hb
    generalize a.data.toList = al at *
    generalize b.data.toList = bl at *
    generalize x.data.toList = xl at *
    generalize y.data.toList = yl at *
    generalize z.data.toList = zl at *
    go_enter Tryd.func7, Tryd.ntmps7
    go_wp2_with fail
    generalize hBB : w.heap.size = B at *
    have HBB := Lib.hid hBB
    have hszB : B ≤ w.heap.size := by omega
    clear hBB
    go_loopw [7, 8] (fun v i wr => ∃ (m : Nat) (ao : Option Addr) (cp : Nat), m ≤ 16 ∧ i = .int .i64 (m : Int) ∧ v = .slice ao m cp ∧ Own wr B (.slice ao m cp) (Lib.byteCells (genL (fun i => al.getD i 0 ^^^ bl.getD i 0) m)) ∧ Below B w wr ∧ B ≤ wr.heap.size) (fun _ i _ => 16 - (intOf i).toNat)
    case atStart => exact ⟨0, none, 0, by omega, rfl, rfl, Own.nil _ _, Below.refl _ _, hszB⟩
    case round =>
      clear hszB
      obtain ⟨m, ao, cp, hm, rfl, rfl, hown, hb, hsz⟩ := hrel
      have HO := Lib.hid hown
      have HL := Lib.hid (bcs_length _ _ (genL_length (fun i => al.getD i 0 ^^^ bl.getD i 0) m))
      clear hown
      by_cases hlt : m < 16
      · have hd : decide ((m : Int) < 16) = true := by simp; omega
        have HN := Lib.hid (show Lib.byteCells (genL (fun i => al.getD i 0 ^^^ bl.getD i 0) m) ++ [.int .u8 ((al.getD m 0 ^^^ bl.getD m 0).toNat : Int)] = Lib.byteCells (genL (fun i => al.getD i 0 ^^^ bl.getD i 0) (m + 1)) from by rw [bcs_snoc, genL_succ])
        have ix := HIa.out m hlt
        have iy := HIb.out m hlt
        have HX := Lib.hid (au8x (al.getD m 0) (bl.getD m 0))
        generalize Lib.byteCells (genL (fun i => al.getD i 0 ^^^ bl.getD i 0) m) = cu at *
        generalize al.getD m 0 = x1 at *
        generalize bl.getD m 0 = y1 at *
        go_wp2_with fail
        refine wp_region_moves_tail 8 _ rfl rfl rfl (by kernel_rfl) (by kernel_rfl) (fun _ _ _ _ h => h) ?_
        simp only [Nat.reduceSub, List.take_succ_cons, List.take_zero, List.drop_succ_cons, List.drop_zero]
        dsimp only [Act.put, Act.eval]
        repeat (first | go_big_quiet_step (fail) | quiet_step (fail))
        refine wpQuiet_nil ?_
        intro W4 hb4
        have HO4 := Lib.hid (HO.out.below hb4)
        have hbB : Below B w W4 := hb.trans (hb4.mono hsz)
        have hsz4 := Nat.le_trans hsz hb4.size
        clear HO hb hb4
        go_wp2_with (at_builtin; refine wpList_append_sl rfl (.tmp 36) (.tmp 44) 31 rfl B 5 i0 (.int .u8 0) 1 Tryd.underlying31 hi hz0 hz1 hz2 rfl ao m cp _ rfl (HO4.out.alloc _) HL.out ⟨W4.heap.size, 0, none⟩ 1 1 [.int .u8 _] rfl rfl (cell_one_new _ _ _) ?b2 ?b3 ?b4 ?b5 ?_)
        case b2 => intro u hu; simp at hu; subst hu; rfl
        case b3 => omega
        case b4 => omega
        case b5 => simp; omega
        intro ao5 cp5 W5 hown5 hgrow5
        have hb5 : Below B w W5 := below_append (hbB.alloc hsz4 _) (by simp; omega) (HO4.out.alloc _) hgrow5
        have hsz5 : B ≤ W5.heap.size := by have := hgrow5.size; simp at this; omega
        rw [HX.out, HN.out] at hown5
        clear hgrow5 HO4 hbB hsz4
        go_wp2_with fail
        go_roundw
        case rel => exact ⟨m + 1, ao5, cp5, by omega, by go_num, rfl, hown5, hb5, hsz5⟩
        case measure => simp [intOf]; omega
      · have hd : decide ((m : Int) < 16) = false := by simp; omega
        obtain rfl : m = 16 := by omega
        have ho := HO.out
        rw [HCL.out] at ho
        rw [show ((16 : Nat) : Int) = (16 : Int) from rfl]
        have HOw := Lib.hid ho
        have HT1 := Lib.hid (HT.out.step (show Below w.heap.size w wr by rw [HBB.out]; exact hb))
        clear ho HO HL HCL
        go_wp2_with fail
        refine (H1.out wr).mono ?_
        rintro e W1 ⟨rfl, hb1⟩
        have HT2 := Lib.hid (HT1.out.step hb1)
        have HOw1 := Lib.hid (HOw.out.below hb1)
        have hb2 := hb.trans (hb1.mono hsz)
        have hsz2 := Nat.le_trans hsz hb1.size
        clear H1 HT1 HOw hb1 hb hsz
        go_wp2_with fail
        refine (H2.out W1).mono ?_
        rintro e W2 ⟨rfl, hb1⟩
        have HT3 := Lib.hid (HT2.out.step hb1)
        have HOw2 := Lib.hid (HOw1.out.below hb1)
        have hb3 := hb2.trans (hb1.mono hsz2)
        have hsz3 := Nat.le_trans hsz2 hb1.size
        clear H2 HT2 HOw1 hb1 hb2 hsz2
        have hcv := run_string_own HOw2.out (plS_length _ _)
        rw [← HCS.out] at hcv
        go_wp2_with fail
        clear hcv HCS HOw2
        refine (H3.out W2).mono ?_
        rintro e W3 ⟨rfl, hb1⟩
        have HT4 := Lib.hid (HT3.out.step hb1)
        have hb4 := hb3.trans (hb1.mono hsz3)
        have hsz4 := Nat.le_trans hsz3 hb1.size
        clear H3 HT3 hb1 hb3 hsz3
        go_wp2_with fail
        refine (H4.out W3).mono ?_
        rintro e W4 ⟨rfl, hb1⟩
        have HT5 := Lib.hid (HT4.out.step hb1)
        have hb5 := hb4.trans (hb1.mono hsz4)
        have hsz5 := Nat.le_trans hsz4 hb1.size
        clear H4 HT4 hb1 hb4 hsz4
        go_wp2_with fail
        go_loopw [17] (fun i wr => ∃ m : Nat, m ≤ 16 ∧ i = .int .i64 (m : Int) ∧ TabQ wr ∧ Below B w wr ∧ B ≤ wr.heap.size) (fun i _ => 16 - (intOf i).toNat)
        case atStart => exact ⟨0, by omega, rfl, HT5.out, hb5, hsz5⟩
        case round =>
          clear hb5 hsz5 HT5
          obtain ⟨m, hm, rfl, hTr, hb, hsz⟩ := hrel
          have HTr := Lib.hid hTr
          clear hTr
          by_cases hlt : m < 16
          · have hd2 : decide ((m : Int) < 16) = true := by simp; omega
            have ix := HIx.out m hlt
            have iy := HIy.out m hlt
            have iz := HIz.out m hlt
            rw [HZ.out m hlt] at iz
            have hX := au8x (xl.getD m 0) (yl.getD m 0)
            have hE : ((((xl.getD m 0 ^^^ yl.getD m 0).toNat : Nat) : Int) != (((xl.getD m 0 ^^^ yl.getD m 0).toNat : Nat) : Int)) = false := by simp
            generalize (xl.getD m 0 ^^^ yl.getD m 0).toNat = zz at *
            generalize xl.getD m 0 = x1 at *
            generalize yl.getD m 0 = y1 at *
            go_wp2_with fail
            refine wp_region_reads (by kernel_rfl) (by kernel_rfl) ?_
            repeat (first | go_big_quiet_step (fail) | quiet_step (fail))
            refine wpQuiet_nil ?_
            intro V hV
            have HTv := Lib.hid (HTr.out.step hV)
            have hbv := hb.trans (hV.mono hsz)
            have hszv := Nat.le_trans hsz hV.size
            clear HTr hb hsz hV
            try rw [hX]
            go_wp2_with fail
            go_roundw
            case rel => exact ⟨m + 1, by omega, by go_num, HTv.out, hbv, hszv⟩
            case measure => simp [intOf]; omega
          · have hd2 : decide ((m : Int) < 16) = false := by simp; omega
            obtain rfl : m = 16 := by omega
            go_wp2_with fail
            refine (gawake_any _ HTr.out).mono ?_
            rintro e W5 ⟨rfl, hb1⟩
            go_wp2_with fail
            go_ret
            exact ⟨rfl, by rw [HBB.out]; exact hb.trans (hb1.mono hsz)⟩
  · by_cases h1 : k.size = 16
    · have d1 : ((k.size : Int) != 16) = false := by simp; omega
      by_cases h2 : a.size = 16
      · have h3 : ¬ b.size = 16 := fun h => hgood ⟨h1, h2, h⟩
        have d2 : ((a.size : Int) != 16) = false := by simp; omega
        have d3 : ((b.size : Int) != 16) = true := by simp; omega
        clear hgood h1 h2 h3
        go_enter Tryd.func7, Tryd.ntmps7
        go_wp2_with fail
        refine (gawake_any w HT.out).mono ?_
        rintro e W1 ⟨rfl, hb1⟩
        go_wp2_with fail
        go_ret
        exact ⟨rfl, hb1⟩
      · have d2 : ((a.size : Int) != 16) = true := by simp; omega
        clear hgood h1 h2
        go_enter Tryd.func7, Tryd.ntmps7
        go_wp2_with fail
        refine (gawake_any w HT.out).mono ?_
        rintro e W1 ⟨rfl, hb1⟩
        go_wp2_with fail
        go_ret
        exact ⟨rfl, hb1⟩
    · have d1 : ((k.size : Int) != 16) = true := by simp; omega
      clear hgood h1
      go_enter Tryd.func7, Tryd.ntmps7
      go_wp2_with fail
      refine (gawake_any w HT.out).mono ?_
      rintro e W1 ⟨rfl, hb1⟩
      go_wp2_with fail
      go_ret
      exact ⟨rfl, hb1⟩

theorem gcmAdds_lifted (os : Os) (started : os.Started) (H : Type) (enc : TypeId × Value → H) :
    ReturnsInHanded {} Tryd.checked os 7 .any (fun w args => (Rows.gcmAddsSpec.pre enc Tryd.prog Tryd.f7 [] false w args ∧ laidMetH Tryd.prog laid1 w) ∧ sizedMet enc Tryd.prog Tryd.f7 (OpenSpec.ofChange Rows.gcmAddsSpec) false w args)
      (Rows.gcmAddsSpec.post enc Tryd.prog Tryd.f7 false true false false) := by
  refine returnsInHanded_of_change_and (C := Tryd.checked) (X := fun w _ => laidMetH Tryd.prog laid1 w) (fun _ _ _ hh h => h.of_heap hh) own1 started (by kernel_rfl) Tryd.func7
    (ChangeSpec.witness_shaped (enc := enc) (C := Tryd.checked) (os := os) (X := fun w _ => laidMetH Tryd.prog laid1 w) false (World.doorLaid Tryd.prog 400 os) #[.string ⟨#[]⟩, .string ⟨#[]⟩, .string ⟨#[]⟩] 8 rfl (World.shaped_of_RefB (by kernel_rfl) (by kernel_rfl)) (by kernel_rfl) (by kernel_rfl) (by kernel_rfl) (door_met1 os _)) ?_
  intro W base args ds gs before hval0 hW _ _ hL _
  have hval : ∀ (j : Nat) t v, Tryd.f7.params[j]? = some t → args[j]? = some v → Value.okWide Tryd.prog W .any base t v := hval0
  have hW' := hW
  obtain ⟨p, q, hA0, hV, rfl, hfz, hnd⟩ := hW
  have hA : DataW.TrodAll enc Tryd.prog W 0 (fun _ => true) true Tryd.f7.params.toList args.toList ds p := hA0
  rw [Tryd.params7] at hA hval
  obtain ⟨v0, v1, v2, d0, d1, d2, p0, p1, p2, rfl, rfl, rfl, h0, h1, h2⟩ := trodAll_three hA
  obtain ⟨rfl, rfl⟩ := trodVars_none hV
  obtain ⟨s0, rfl, rfl, rfl, w0⟩ := open_string Tryd.underlying9 (hval 0 9 v0 rfl rfl) h0
  obtain ⟨s1, rfl, rfl, rfl, w1⟩ := open_string Tryd.underlying9 (hval 1 9 v1 rfl rfl) h1
  obtain ⟨s2, rfl, rfl, rfl, w2⟩ := open_string Tryd.underlying9 (hval 2 9 v2 rfl rfl) h2
  have hT := of_laid1 hL
  clear hA0 hval0
  simp only [List.append_nil] at hW'
  refine (gcmAdds_any s0 s1 s2 W w0 w1 w2 hT).mono fun e W' ⟨he, hb⟩ => ?_
  subst he
  refine ⟨_, rfl, _, _, _, [], [], [], hW', ?_, ?_, rfl, hb.frame _, fun h => by cases h⟩
  · exact trodAll_mk1 (shut_bool Tryd.underlying4 _)
  · exact trodAll_mk3 (shut_string Tryd.underlying9 w0) (shut_string Tryd.underlying9 w1) (shut_string Tryd.underlying9 w2)

theorem gcmAdds_holds : Rows.GcmAddsSaid :=
  OpenClaim.holds_of_wide 7 Tryd.f7 rfl rfl rfl rfl rfl rfl rfl ⟨rfl, rfl, rfl, rfl, rfl⟩ rfl rfl rfl rfl rfl (by kernel_rfl) Tryd.func7 (by kernel_rfl)
    (of_decide_eq_true (by kernel_rfl)) (by unfold Func.isWrapper; first | (rw [if_pos (by decide +kernel)]; kernel_rfl) | (rw [if_neg (by decide +kernel)]; exact ⟨rfl, rfl⟩))
    (fun os started H enc _ => gcmAdds_lifted os started H enc)

theorem gcmAdds_card : Rows.GcmAddsCardSaid :=
  Claim7.holds_tied_plain_at .later [] [.data] true (true, "1920fc86ffd897d46695fa6bd7019bebb46195e78957edda70977a529471b633") false
    gcmAdds_holds (fun _ h => by cases h) (by kernel_rfl) (fun _ h => by cases h) gcmAdds_row_tie rfl ⟨rfl, rfl⟩ (by kernel_rfl) rfl
    (fun f fn hf hfn => by
      obtain rfl : f = 7 := Option.some.inj ((show Tryd.prog.funcNamed "cresset/cressetlaw06.GcmAdds" = some 7 by kernel_rfl).symm.trans hf) |>.symm
      obtain rfl : fn = Tryd.f7 := (Option.some.inj (Tryd.func7.symm.trans hfn)).symm
      exact ⟨by kernel_rfl, fun j t ht => by
        rw [Tryd.params7] at ht
        have hm : t ∈ [9, 9, 9] := by simpa using Array.mem_of_getElem? ht
        have hall : ([9, 9, 9].all fun u => !Tryd.prog.wantsStandIn u) = true := by kernel_rfl
        exact (show Tryd.prog.wantsStandIn t = false by simpa using List.all_eq_true.1 hall t hm)⟩)
    (by kernel_rfl)
#print axioms gcmAdds_card
end Go.Proofs.YtoejkiblampecaaDoor
