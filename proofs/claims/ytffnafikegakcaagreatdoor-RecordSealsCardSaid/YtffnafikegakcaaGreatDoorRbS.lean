/- Package record: (*Box).Seal and (*Box).Open. -/
import Derived.Test.YtffnafikegakcaaGreatDoorRbP
namespace Go.Proofs.YtffnafikegakcaaGreatDoor
open Go.RowKit Go.Sort
set_option maxRecDepth 100000
set_option linter.unusedSimpArgs false
set_option linter.unusedVariables false

/-- What Seal answers. -/
def selA (s : BSt) (kind : Int) (plain : ByteArray) (pad : Int) : Ending := .returned (.tuple #[.string (selX s kind plain pad), .int .i64 (selE s kind plain pad)])
theorem sel_bad (s : BSt) (kind : Int) (plain : ByteArray) (pad e : Int) (h : selE s kind plain pad = e) (he : e ≠ 0) : selA s kind plain pad = .returned (.tuple #[.string emB, .int .i64 e]) ∧ selS s kind plain pad = s := by
  rw [selA, selX, selS, if_neg (by rw [h]; exact he), if_neg (by rw [h]; exact he), h]; exact ⟨rfl, rfl⟩
/-- What Open answers. -/
def opnA (s : BSt) (body : ByteArray) : Ending := .returned (.tuple #[.int .i64 (opnK s body), .string (opnB s body), .int .i64 (opnE s body)])
theorem opn_bad (s : BSt) (body : ByteArray) (e : Int) (h : opnE s body = e) (he : e ≠ 0) : opnA s body = .returned (.tuple #[.int .i64 0, .string emB, .int .i64 e]) ∧ opnS s body = s := by
  rw [opnA, opnK, opnB, opnS, if_neg (by rw [h]; exact he), if_neg (by rw [h]; exact he), if_neg (by rw [h]; exact he), h]; exact ⟨rfl, rfl⟩

set_option maxHeartbeats 8000000 in
theorem boxSeal_any (b : Nat) (s : BSt) (kind : Int) (plain : ByteArray) (pad : Int) (w : World) (h : BxAt w b s) (hok : BOk s) (hT : TabQ w) (hpl : plain.size ≤ maxLen) :
    Calls Tryz.prog 11 #[.pointer (some ⟨b, 0, none⟩), .int .i64 kind, .string plain, .int .i64 pad] w fun e w' => e = selA s kind plain pad ∧ BxAt w' b (selS s kind plain pad) ∧ But b w w' := by
  have HB := Lib.hid h
  have CK := Lib.hid (fun W => isKind_any kind W)
  have hpi : (plain.size : Int) ≤ 9223372036854775807 := by unfold maxLen at hpl; omega
  obtain ⟨c0, c1, c2, c3, f3⟩ := bx_cells h
  clear h hpl
  cases hk : isK kind with
  | false =>
    have HA := Lib.hid (sel_bad s kind plain pad 1 (by rw [selE, if_pos hk]) (by decide))
    rw [hk] at CK
    clear hk hT
    go_enter Tryz.func11, Tryz.ntmps11
    go_wp2_with fail
    refine (CK.out w).mono ?_
    rintro e W ⟨rfl, rfl⟩
    go_wp2_with fail
    go_ret2
    exact ⟨by rw [HA.out.1]; rfl, by rw [HA.out.2]; exact HB.out, .refl _ _⟩
  | true =>
  have N0 := Lib.hid (show ¬ isK kind = false by rw [hk]; decide)
  rw [hk] at CK
  clear hk
  by_cases h0 : pad < 0
  · have HA := Lib.hid (sel_bad s kind plain pad 1 (by rw [selE, if_neg N0.out, if_pos h0]) (by decide))
    have d0 : decide (pad < 0) = true := decide_eq_true (by omega)
    clear hT
    go_enter Tryz.func11, Tryz.ntmps11
    go_wp2_with fail
    refine (CK.out w).mono ?_
    rintro e W ⟨rfl, rfl⟩
    go_wp2_with fail
    go_ret2
    exact ⟨by rw [HA.out.1]; rfl, by rw [HA.out.2]; exact HB.out, .refl _ _⟩
  have N1 := Lib.hid (show ¬ pad < 0 from h0)
  have d0 : decide (pad < 0) = false := decide_eq_false (by omega)
  by_cases h1 : 16384 < plain.size
  · have HA := Lib.hid (sel_bad s kind plain pad 13 (by rw [selE, if_neg N0.out, if_neg N1.out, if_pos h1]) (by decide))
    have d1 : decide ((16384 : Int) < (plain.size : Int)) = true := decide_eq_true (by omega)
    clear hT
    go_enter Tryz.func11, Tryz.ntmps11
    go_wp2_with fail
    refine (CK.out w).mono ?_
    rintro e W ⟨rfl, rfl⟩
    go_wp2_with fail
    go_ret2
    exact ⟨by rw [HA.out.1]; rfl, by rw [HA.out.2]; exact HB.out, .refl _ _⟩
  have N2 := Lib.hid (show ¬ 16384 < plain.size from h1)
  have d1 : decide ((16384 : Int) < (plain.size : Int)) = false := decide_eq_false (by omega)
  by_cases h2 : 16600 - (plain.size : Int) < pad
  · have HA := Lib.hid (sel_bad s kind plain pad 13 (by rw [selE, if_neg N0.out, if_neg N1.out, if_neg N2.out, if_pos h2]) (by decide))
    have d2 : decide (16600 - (plain.size : Int) < pad) = true := decide_eq_true (by omega)
    clear hT
    go_enter Tryz.func11, Tryz.ntmps11
    go_wp2_with fail
    refine (CK.out w).mono ?_
    rintro e W ⟨rfl, rfl⟩
    go_wp2_with fail
    go_ret2
    exact ⟨by rw [HA.out.1]; rfl, by rw [HA.out.2]; exact HB.out, .refl _ _⟩
  have N3 := Lib.hid (show ¬ 16600 - (plain.size : Int) < pad from h2)
  have d2 : decide (16600 - (plain.size : Int) < pad) = false := decide_eq_false (by omega)
  by_cases h3 : s.n = 65536
  · have HA := Lib.hid (sel_bad s kind plain pad 44 (by rw [selE, if_neg N0.out, if_neg N1.out, if_neg N2.out, if_neg N3.out, if_pos h3]) (by decide))
    have d3 : ((s.n : Int) == 65536) = true := by rw [beq_iff_eq]; omega
    clear hT
    go_enter Tryz.func11, Tryz.ntmps11
    go_wp2_with fail
    refine (CK.out w).mono ?_
    rintro e W ⟨rfl, rfl⟩
    go_wp2_with fail
    go_ret2
    exact ⟨by rw [HA.out.1]; rfl, by rw [HA.out.2]; exact HB.out, .refl _ _⟩
  have N4 := Lib.hid (show ¬ s.n = 65536 from h3)
  have d3 : ((s.n : Int) == 65536) = false := by rw [beq_eq_false_iff_ne]; omega
  have hE : selE s kind plain pad = 0 := by rw [selE, if_neg N0.out, if_neg N1.out, if_neg N2.out, if_neg N3.out, if_neg N4.out]
  obtain ⟨p, rfl⟩ : ∃ p : Nat, pad = (p : Int) := ⟨pad.toNat, by omega⟩
  have hpb : p ≤ 16600 := by omega
  have hps := padB_size kind plain p
  have CP := Lib.hid (fun W => padded_any kind plain p W (by omega) (by omega))
  obtain ⟨inn, hinn⟩ : ∃ inn, inn = padB kind plain p := ⟨_, rfl⟩
  rw [← hinn] at hps CP
  have hib : inn.size ≤ 16601 := by omega
  obtain ⟨hs1, hs2⟩ := hid_ok s hok inn
  have CHd := Lib.hid (fun W => header_any 23 (inn.size + 16) W)
  have hca : ((inn.size : Int) + 16) = ((inn.size + 16 : Nat) : Int) := by omega
  rw [← hca] at CHd
  have hhs := headB_size 23 (inn.size + 16)
  have CS := Lib.hid (fun (W : World) (hq : TabQ W) => sealO_any s.suite s.key (nonB s) (headB 23 (inn.size + 16)) inn W (by omega) (by omega) hq)
  rw [hs1] at CS
  unfold ansO at CS
  have HA : Hid (selA s kind plain p = .returned (.tuple #[.string (headB 23 (inn.size + 16) ++ hidB s inn), .int .i64 0]) ∧ selS s kind plain p = nxtB s) := Lib.hid ⟨by rw [selA, selX, if_pos hE, hE, Int.toNat_natCast, ← hinn], by rw [selS, if_pos hE]⟩
  have CN := Lib.hid (fun (W : World) (hx : BxAt W b s) => nonce_any b s W hx hok)
  have hnb : s.n < 65536 := by have := hok.n; omega
  have hnb2 : (s.n : Int) < 65536 := by omega
  generalize headB 23 (inn.size + 16) = hd at *
  generalize hidB s inn = hb at *
  generalize nonB s = nb at *
  have k1 : hd.size + hb.size ≤ 9223372036854775807 := by omega
  have HT := Lib.hid hT
  have k00 := cell_regrown c0; have k11 := cell_regrown c1
  clear hinn hps hs1 hs2 hhs hE hok hT hca
  go_enter Tryz.func11, Tryz.ntmps11
  go_wp2_with fail
  refine (CK.out w).mono ?_
  rintro e W ⟨rfl, rfl⟩
  go_wp2_with fail
  refine (CP.out w).mono ?_
  rintro e W1 ⟨rfl, hb1⟩
  go_wp2_with fail
  refine (CHd.out W1).mono ?_
  rintro e W2 ⟨rfl, hb2⟩
  have HBl := Lib.hid (hb1.trans (hb2.mono hb1.size))
  clear hb1 hb2 c0 c1 c2 c3 f3 k00 k11
  have HB2 := Lib.hid (HB.out.below HBl.out)
  have HT2 := Lib.hid (HT.out.step HBl.out)
  obtain ⟨c0, c1, c2, c3, f3⟩ := bx_cells HB2.out
  have k00 := cell_regrown c0; have k11 := cell_regrown c1
  go_wp2_with fail
  refine wp_region_reads (by kernel_rfl) (by kernel_rfl) ?_
  repeat (first | go_big_quiet_step (first | with_reducible exact Calls.regrown_of (CN.out _ (HB2.out.below (below_regrown _ _ _))) | with_reducible exact Calls.regrown_of (CS.out _ (HT2.out.step (below_regrown _ _ _)))) | quiet_step (first | with_reducible exact Calls.regrown_of (CN.out _ (HB2.out.below (below_regrown _ _ _))) | with_reducible exact Calls.regrown_of (CS.out _ (HT2.out.step (below_regrown _ _ _)))))
  refine wpQuiet_nil ?_
  intro W3 hb3
  have HB3 := Lib.hid (HB2.out.below hb3)
  have HBt := Lib.hid (HBl.out.trans (hb3.mono HBl.out.size))
  have HF := Lib.hid (And.intro (bx_next HB3.out) ((But.of_below (b := b) HBt.out).trans (But.setCell b W3 ⟨b, 3, none⟩ (.int .i64 ((s.n : Int) + 1)) rfl)))
  clear hb3 c0 c1 c2 c3 f3 k00 k11 HB2 HBl HT2 HT
  obtain ⟨c0, c1, c2, c3, f3⟩ := bx_cells HB3.out
  go_wp2_with fail
  go_ret2
  exact ⟨by rw [HA.out.1]; rfl, by rw [HA.out.2]; exact HF.out.1, HF.out.2⟩

set_option maxHeartbeats 8000000 in
theorem boxOpen_any (b : Nat) (s : BSt) (body : ByteArray) (w : World) (h : BxAt w b s) (hok : BOk s) (hT : TabQ w) (hpl : body.size ≤ maxLen) :
    Calls Tryz.prog 13 #[.pointer (some ⟨b, 0, none⟩), .string body] w fun e w' => e = opnA s body ∧ BxAt w' b (opnS s body) ∧ But b w w' := by
  have HB := Lib.hid h
  have hpi : (body.size : Int) ≤ 9223372036854775807 := by unfold maxLen at hpl; omega
  obtain ⟨c0, c1, c2, c3, f3⟩ := bx_cells h
  clear h hpl
  by_cases h0 : s.n = 65536
  · have HA := Lib.hid (opn_bad s body 44 (by rw [opnE, if_pos h0]) (by decide))
    have d0 : ((s.n : Int) == 65536) = true := by rw [beq_iff_eq]; omega
    clear hT
    go_enter Tryz.func13, Tryz.ntmps13
    go_wp2_with fail
    go_ret3
    exact ⟨by rw [HA.out.1]; rfl, by rw [HA.out.2]; exact HB.out, .refl _ _⟩
  have N0 := Lib.hid h0
  have d0 : ((s.n : Int) == 65536) = false := by rw [beq_eq_false_iff_ne]; omega
  by_cases h1 : 16640 < body.size
  · have HA := Lib.hid (opn_bad s body 20 (by rw [opnE, if_neg h0, if_pos h1]) (by decide))
    have d1 : decide ((16640 : Int) < (body.size : Int)) = true := decide_eq_true (by omega)
    clear hT
    go_enter Tryz.func13, Tryz.ntmps13
    go_wp2_with fail
    go_ret3
    exact ⟨by rw [HA.out.1]; rfl, by rw [HA.out.2]; exact HB.out, .refl _ _⟩
  have N1 := Lib.hid h1
  have d1 : decide ((16640 : Int) < (body.size : Int)) = false := decide_eq_false (by omega)
  have hhs := headB_size 23 body.size
  have CHd := Lib.hid (fun W => header_any 23 body.size W)
  have CS := Lib.hid (fun (W : World) (hq : TabQ W) => openO_any s.suite s.key (nonB s) (headB 23 body.size) body W (by omega) (by omega) hq)
  rw [show openO s.suite s.key (nonB s) (headB 23 body.size) body = opnP s body from rfl] at CS
  unfold ansO at CS
  have CN := Lib.hid (fun (W : World) (hx : BxAt W b s) => nonce_any b s W hx hok)
  have hos := opnP_size s body
  have hnb : s.n < 65536 := by have := hok.n; omega
  have hnb2 : (s.n : Int) < 65536 := by omega
  have HEq : Hid (opnE s body = if (opnP s body).2 ≠ 0 then (opnP s body).2 else unpE (opnP s body).1) := Lib.hid (by rw [opnE, if_neg h0, if_neg h1])
  have HKq : Hid (opnK s body = if opnE s body = 0 then unpK (opnP s body).1 else 0) := Lib.hid rfl
  have HBq : Hid (opnB s body = if opnE s body = 0 then unpB (opnP s body).1 else emB) := Lib.hid rfl
  generalize opnP s body = pr at *
  obtain ⟨t, er⟩ := pr
  have hts : t.size ≤ 1048576 := by simp only at hos; omega
  have CU := Lib.hid (fun W => unpadded_any t W hts)
  unfold unpA at CU
  generalize headB 23 body.size = hd at *
  generalize nonB s = nb at *
  have HT := Lib.hid hT
  have k00 := cell_regrown c0; have k11 := cell_regrown c1
  clear hhs hok hT hos hts h0 h1
  by_cases he : er = 0
  · subst he
    by_cases hu : unpE t = 0
    · have hE : opnE s body = 0 := by rw [HEq.out, if_neg (fun h => h rfl)]; exact hu
      have HA : Hid (opnA s body = .returned (.tuple #[.int .i64 (unpK t), .string (unpB t), .int .i64 0]) ∧ opnS s body = nxtB s) := Lib.hid ⟨by rw [opnA, HKq.out, HBq.out, if_pos hE, if_pos hE, hE], by rw [opnS, if_pos hE]⟩
      rw [hu] at CU
      generalize unpK t = x1 at *
      generalize unpB t = x2 at *
      clear hu hE HEq HKq HBq
      go_enter Tryz.func13, Tryz.ntmps13
      go_wp2_with fail
      refine wp_region_reads (by kernel_rfl) (by kernel_rfl) ?_
      repeat (first | go_big_quiet_step (first | with_reducible exact Calls.regrown_of (CN.out _ (HB.out.below (below_regrown _ _ _))) | with_reducible exact Calls.regrown_of (CHd.out _) | with_reducible exact Calls.regrown_of (CS.out _ (HT.out.step (below_regrown _ _ _)))) | quiet_step (first | with_reducible exact Calls.regrown_of (CN.out _ (HB.out.below (below_regrown _ _ _))) | with_reducible exact Calls.regrown_of (CHd.out _) | with_reducible exact Calls.regrown_of (CS.out _ (HT.out.step (below_regrown _ _ _)))))
      refine wpQuiet_nil ?_
      intro W1 hb1
      have HB1 := Lib.hid (HB.out.below hb1)
      have HBl := Lib.hid hb1
      clear hb1 c0 c1 c2 c3 f3 k00 k11
      go_wp2_with fail
      refine (CU.out W1).mono ?_
      rintro e W2 ⟨rfl, hb2⟩
      have HB2 := Lib.hid (HB1.out.below hb2)
      have HBt := Lib.hid (HBl.out.trans (hb2.mono HBl.out.size))
      clear hb2
      obtain ⟨c0, c1, c2, c3, f3⟩ := bx_cells HB2.out
      have HF := Lib.hid (And.intro (bx_next HB2.out) ((But.of_below (b := b) HBt.out).trans (But.setCell b W2 ⟨b, 3, none⟩ (.int .i64 ((s.n : Int) + 1)) rfl)))
      go_wp2_with fail
      go_ret3
      exact ⟨by rw [HA.out.1]; rfl, by rw [HA.out.2]; exact HF.out.1, HF.out.2⟩
    · have hE : opnE s body = unpE t := by rw [HEq.out, if_neg (fun h => h rfl)]
      have HA := Lib.hid (opn_bad s body (unpE t) hE hu)
      have hx : unpK t = 0 ∧ unpB t = emB := ⟨by rw [unpK, if_neg hu], by rw [unpB, if_neg hu]⟩
      rw [hx.1, hx.2] at CU
      have d2 : (unpE t == 0) = false := by rw [beq_eq_false_iff_ne]; exact hu
      generalize unpE t = x3 at *
      clear hu hE HEq HKq HBq hx
      go_enter Tryz.func13, Tryz.ntmps13
      go_wp2_with fail
      refine wp_region_reads (by kernel_rfl) (by kernel_rfl) ?_
      repeat (first | go_big_quiet_step (first | with_reducible exact Calls.regrown_of (CN.out _ (HB.out.below (below_regrown _ _ _))) | with_reducible exact Calls.regrown_of (CHd.out _) | with_reducible exact Calls.regrown_of (CS.out _ (HT.out.step (below_regrown _ _ _)))) | quiet_step (first | with_reducible exact Calls.regrown_of (CN.out _ (HB.out.below (below_regrown _ _ _))) | with_reducible exact Calls.regrown_of (CHd.out _) | with_reducible exact Calls.regrown_of (CS.out _ (HT.out.step (below_regrown _ _ _)))))
      refine wpQuiet_nil ?_
      intro W1 hb1
      have HB1 := Lib.hid (HB.out.below hb1)
      have HBl := Lib.hid hb1
      clear hb1 c0 c1 c2 c3 f3 k00 k11
      go_wp2_with fail
      refine (CU.out W1).mono ?_
      rintro e W2 ⟨rfl, hb2⟩
      have HB2 := Lib.hid (HB1.out.below hb2)
      have HBt := Lib.hid (HBl.out.trans (hb2.mono HBl.out.size))
      clear hb2
      obtain ⟨c0, c1, c2, c3, f3⟩ := bx_cells HB2.out
      go_wp2_with fail
      go_ret3
      exact ⟨by rw [HA.out.1]; rfl, by rw [HA.out.2]; exact HB2.out, .of_below HBt.out⟩
  · have hE : opnE s body = er := by rw [HEq.out, if_pos he]
    have HA := Lib.hid (opn_bad s body er hE he)
    have d2 : (er != 0) = true := by rw [bne_iff_ne]; exact he
    clear he hE HEq HKq HBq
    go_enter Tryz.func13, Tryz.ntmps13
    go_wp2_with fail
    refine wp_region_reads (by kernel_rfl) (by kernel_rfl) ?_
    repeat (first | go_big_quiet_step (first | with_reducible exact Calls.regrown_of (CN.out _ (HB.out.below (below_regrown _ _ _))) | with_reducible exact Calls.regrown_of (CHd.out _) | with_reducible exact Calls.regrown_of (CS.out _ (HT.out.step (below_regrown _ _ _)))) | quiet_step (first | with_reducible exact Calls.regrown_of (CN.out _ (HB.out.below (below_regrown _ _ _))) | with_reducible exact Calls.regrown_of (CHd.out _) | with_reducible exact Calls.regrown_of (CS.out _ (HT.out.step (below_regrown _ _ _)))))
    refine wpQuiet_nil ?_
    intro W1 hb1
    have HB1 := Lib.hid (HB.out.below hb1)
    have HBl := Lib.hid hb1
    clear hb1 c0 c1 c2 c3 f3 k00 k11
    go_wp2_with fail
    go_ret3
    exact ⟨by rw [HA.out.1]; rfl, by rw [HA.out.2]; exact HB1.out, .of_below HBl.out⟩
end Go.Proofs.YtffnafikegakcaaGreatDoor
