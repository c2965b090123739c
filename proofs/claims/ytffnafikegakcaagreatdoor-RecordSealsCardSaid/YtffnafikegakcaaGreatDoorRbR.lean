/- The reference's boxes: NewBox, Seal, Open. -/
import Derived.Test.YtffnafikegakcaaGreatDoorRbS
import Derived.Test.YtffnafikegakcaaGreatDoorSealR
import Derived.Test.YtffnafikegakcaaGreatDoorSealN
namespace Go.Proofs.YtffnafikegakcaaGreatDoor
open Go.RowKit Go.Sort
set_option maxRecDepth 100000
set_option linter.unusedSimpArgs false
set_option linter.unusedVariables false

/-- Block b holds a reference's box that stands so. -/
def BrAt (w : World) (b : Nat) (s : BSt) : Prop := w.heap[b]? = some (.cells (bxC s) 42)
theorem BrAt.below {w w' : World} {b : Nat} {s : BSt} (h : BrAt w b s) (hb : Below w.heap.size w w') : BrAt w' b s := blk_below hb (blk_lt h) h
theorem br_cells {w : World} {b : Nat} {s : BSt} (h : BrAt w b s) : w.cell? ⟨b, 0, none⟩ = some (.int .i64 s.suite) ∧ w.cell? ⟨b, 1, none⟩ = some (.string s.key) ∧ w.cell? ⟨b, 2, none⟩ = some (.string s.iv) ∧ w.cell? ⟨b, 3, none⟩ = some (.int .i64 (s.n : Int)) ∧ w.frozen? ⟨b, 3, none⟩ = false := by
  refine ⟨?_, ?_, ?_, ?_, frozen_of_row w _ _ _ _ h⟩ <;> rw [cell_of_row w _ _ _ _ _ h] <;> rfl
theorem br_next {w : World} {b : Nat} {s : BSt} (h : BrAt w b s) : BrAt (w.setCell ⟨b, 3, none⟩ (.int .i64 ((s.n : Int) + 1))) b (nxtB s) := heap_setCell_same _ _ _ _ _ _ h
/-- A new slice of noughts. -/
def rbNil (n : Nat) : Told := ⟨fun w v => ∃ g, v = .slice (some ⟨g, 0, none⟩) n n ∧ w.heap[g]? = some (nilO n), fun w w' v hb ⟨g, e, hc⟩ => ⟨g, e, blk_below hb (blk_lt hc) hc⟩⟩
set_option maxHeartbeats 2000000 in
theorem rnewBoxBad_any (su : Int) (k i : ByteArray) (w : World) (h : newE su k i ≠ 0) :
    Calls Tryz.prog 9 #[.int .i64 su, .string k, .string i] w fun e w' => e = .returned (.tuple #[.pointer none, .int .i64 (newE su k i)]) ∧ w = w' := by
  have CS := Lib.hid (fun W => rSize_any su W)
  unfold newE at h ⊢
  by_cases h1 : sizeS su = 0
  · have d1 : (sizeS su == 0) = true := by rw [h1]; rfl
    rw [if_pos h1]
    generalize sizeS su = z at *
    clear h h1
    go_enter Tryz.func9, Tryz.ntmps9
    go_wp2_with fail
    refine (CS.out w).mono ?_
    rintro e W ⟨rfl, rfl⟩
    go_wp2_with fail
    go_ret2
    exact ⟨rfl, rfl⟩
  have d1 : (sizeS su == 0) = false := by rw [beq_eq_false_iff_ne]; exact h1
  rw [if_neg h1] at h ⊢
  by_cases h2 : (k.size : Int) ≠ sizeS su
  · have d2 : ((k.size : Int) != sizeS su) = true := by rw [bne_iff_ne]; exact h2
    rw [if_pos h2]
    generalize sizeS su = z at *
    clear h h1 h2
    go_enter Tryz.func9, Tryz.ntmps9
    go_wp2_with fail
    refine (CS.out w).mono ?_
    rintro e W ⟨rfl, rfl⟩
    go_wp2_with fail
    go_ret2
    exact ⟨rfl, rfl⟩
  have d2 : ((k.size : Int) != sizeS su) = false := by rw [bne_eq_false_iff_eq]; exact Classical.not_not.1 h2
  rw [if_neg h2] at h ⊢
  by_cases h3 : i.size ≠ 12
  · have d3 : ((i.size : Int) != 12) = true := by rw [bne_iff_ne]; omega
    rw [if_pos h3]
    generalize sizeS su = z at *
    clear h h1 h2 h3
    go_enter Tryz.func9, Tryz.ntmps9
    go_wp2_with fail
    refine (CS.out w).mono ?_
    rintro e W ⟨rfl, rfl⟩
    go_wp2_with fail
    go_ret2
    exact ⟨rfl, rfl⟩
  · rw [if_neg h3] at h; exact absurd rfl h
set_option maxHeartbeats 2000000 in
theorem rnewBox_any (su : Int) (k i : ByteArray) (w : World) (h : newE su k i = 0) :
    Calls Tryz.prog 9 #[.int .i64 su, .string k, .string i] w fun e w' => ∃ b, e = .returned (.tuple #[.pointer (some ⟨b, 0, none⟩), .int .i64 0]) ∧ w.heap.size ≤ b ∧ BrAt w' b ⟨su, k, i, 0⟩ ∧ Below w.heap.size w w' := by
  have CS := Lib.hid (fun W => rSize_any su W)
  have hok := new_ok su k i h
  have hks : (k.size : Int) = sizeS su := by
    rcases hok.su with ⟨h1, h2⟩ | ⟨h1, h2⟩ <;> (simp only at h1 h2; rw [h1, h2]; rfl)
  have hz : sizeS su = 16 ∨ sizeS su = 32 := by
    rcases hok.su with ⟨h1, h2⟩ | ⟨h1, h2⟩ <;> (simp only at h1; rw [h1]) <;> simp [sizeS]
  have d1 : (sizeS su == 0) = false := by rw [beq_eq_false_iff_ne]; omega
  have d2 : ((k.size : Int) != sizeS su) = false := by rw [bne_eq_false_iff_eq]; exact hks
  have d3 : ((i.size : Int) != 12) = false := by rw [bne_eq_false_iff_eq]; have := hok.iv; simp only at this; omega
  generalize sizeS su = z at *
  clear h hok hks hz
  go_enter Tryz.func9, Tryz.ntmps9
  go_wp2_with fail
  refine (CS.out w).mono ?_
  rintro e W ⟨rfl, rfl⟩
  go_wp2_with fail
  go_ret2
  exact ⟨_, rfl, Nat.le_refl _, blk_new w _, below_new w _⟩


set_option maxHeartbeats 16000000 in
theorem rboxSeal_any (b : Nat) (s : BSt) (kind : Int) (plain : ByteArray) (pad : Int) (w : World) (h : BrAt w b s) (hok : BOk s) (hpl : plain.size ≤ maxLen) :
    Calls Tryz.prog 12 #[.pointer (some ⟨b, 0, none⟩), .int .i64 kind, .string plain, .int .i64 pad] w fun e w' => e = selA s kind plain pad ∧ BrAt w' b (selS s kind plain pad) ∧ But b w w' := by
  have HB := Lib.hid h
  have CK := Lib.hid (fun W => risKind_any kind W)
  have hpi : (plain.size : Int) ≤ 9223372036854775807 := by unfold maxLen at hpl; omega
  obtain ⟨c0, c1, c2, c3, f3⟩ := br_cells h
  clear h hpl
  cases hk : isK kind with
  | false =>
    have HA := Lib.hid (sel_bad s kind plain pad 1 (by rw [selE, if_pos hk]) (by decide))
    rw [hk] at CK
    clear hk
    go_enter Tryz.func12, Tryz.ntmps12
    go_wp2_with fail
    refine (CK.out w).mono ?_
    rintro e W ⟨rfl, rfl⟩
    go_wp2_with fail
    go_ret2
    exact ⟨by rw [HA.out.1]; rfl, by rw [HA.out.2]; exact HB.out, .refl _ _⟩
  | true =>
  have N0 := Lib.hid (show ¬ isK kind = false by rw [hk]; decide)
  rw [hk] at CK
  clear hk
  by_cases h0 : pad < 0
  · have HA := Lib.hid (sel_bad s kind plain pad 1 (by rw [selE, if_neg N0.out, if_pos h0]) (by decide))
    have d0 : decide (pad < 0) = true := decide_eq_true (by omega)
    go_enter Tryz.func12, Tryz.ntmps12
    go_wp2_with fail
    refine (CK.out w).mono ?_
    rintro e W ⟨rfl, rfl⟩
    go_wp2_with fail
    go_ret2
    exact ⟨by rw [HA.out.1]; rfl, by rw [HA.out.2]; exact HB.out, .refl _ _⟩
  have N1 := Lib.hid (show ¬ pad < 0 from h0)
  have d0 : decide (pad < 0) = false := decide_eq_false (by omega)
  by_cases h1 : 16384 < plain.size
  · have HA := Lib.hid (sel_bad s kind plain pad 13 (by rw [selE, if_neg N0.out, if_neg N1.out, if_pos h1]) (by decide))
    have d1 : decide ((16384 : Int) < (plain.size : Int)) = true := decide_eq_true (by omega)
    go_enter Tryz.func12, Tryz.ntmps12
    go_wp2_with fail
    refine (CK.out w).mono ?_
    rintro e W ⟨rfl, rfl⟩
    go_wp2_with fail
    go_ret2
    exact ⟨by rw [HA.out.1]; rfl, by rw [HA.out.2]; exact HB.out, .refl _ _⟩
  have N2 := Lib.hid (show ¬ 16384 < plain.size from h1)
  have d1 : decide ((16384 : Int) < (plain.size : Int)) = false := decide_eq_false (by omega)
  by_cases h2 : 16600 - (plain.size : Int) < pad
  · have HA := Lib.hid (sel_bad s kind plain pad 13 (by rw [selE, if_neg N0.out, if_neg N1.out, if_neg N2.out, if_pos h2]) (by decide))
    by_cases hp : 16600 < pad
    · have d2 : decide (16600 < pad) = true := decide_eq_true hp
      go_enter Tryz.func12, Tryz.ntmps12
      go_wp2_with fail
      refine (CK.out w).mono ?_
      rintro e W ⟨rfl, rfl⟩
      go_wp2_with fail
      go_ret2
      exact ⟨by rw [HA.out.1]; rfl, by rw [HA.out.2]; exact HB.out, .refl _ _⟩
    · have d2 : decide (16600 < pad) = false := decide_eq_false hp
      have d3 : decide (16600 < (plain.size : Int) + pad) = true := decide_eq_true (by omega)
      have hw : IntKind.i64.wrap ((plain.size : Int) + pad) = (plain.size : Int) + pad := IntWalk.i64_in _ (by omega)
      go_enter Tryz.func12, Tryz.ntmps12
      go_wp2_with fail
      refine (CK.out w).mono ?_
      rintro e W ⟨rfl, rfl⟩
      go_wp2_with fail
      go_ret2
      exact ⟨by rw [HA.out.1]; rfl, by rw [HA.out.2]; exact HB.out, .refl _ _⟩
  have N3 := Lib.hid (show ¬ 16600 - (plain.size : Int) < pad from h2)
  have d2 : decide (16600 < pad) = false := decide_eq_false (by omega)
  have d3 : decide (16600 < (plain.size : Int) + pad) = false := decide_eq_false (by omega)
  by_cases h3 : s.n = 65536
  · have HA := Lib.hid (sel_bad s kind plain pad 44 (by rw [selE, if_neg N0.out, if_neg N1.out, if_neg N2.out, if_neg N3.out, if_pos h3]) (by decide))
    have d4 : decide ((65536 : Int) ≤ (s.n : Int)) = true := decide_eq_true (by omega)
    have hw : IntKind.i64.wrap ((plain.size : Int) + pad) = (plain.size : Int) + pad := IntWalk.i64_in _ (by omega)
    go_enter Tryz.func12, Tryz.ntmps12
    go_wp2_with fail
    refine (CK.out w).mono ?_
    rintro e W ⟨rfl, rfl⟩
    go_wp2_with fail
    go_ret2
    exact ⟨by rw [HA.out.1]; rfl, by rw [HA.out.2]; exact HB.out, .refl _ _⟩
  have N4 := Lib.hid h3
  have d4 : decide ((65536 : Int) ≤ (s.n : Int)) = false := decide_eq_false (by have := hok.n; omega)
  have hE : selE s kind plain pad = 0 := by rw [selE, if_neg N0.out, if_neg N1.out, if_neg N2.out, if_neg N3.out, if_neg N4.out]
  obtain ⟨p, rfl⟩ : ∃ p : Nat, pad = (p : Int) := ⟨pad.toNat, by omega⟩
  have hpb : p ≤ 16600 := by omega
  have HP : Hid (p ≤ 1048576) := Lib.hid (by omega)
  have hps := padB_size kind plain p
  have wt : IntKind.u8.wrap kind = ((wbyte kind 0).toNat : Int) := by rw [IntKind.wrap_u8, wbyte_toNat]; simp
  have ls1 : (⟨#[wbyte kind 0]⟩ : ByteArray).size = 1 := rfl
  have ns := nilB_size p
  have k1 : plain.size + 1 ≤ 9223372036854775807 := by omega
  have k2 : plain.size + 1 + p ≤ 9223372036854775807 := by omega
  obtain ⟨inn, hinn⟩ : ∃ inn, inn = padB kind plain p := ⟨_, rfl⟩
  have HINN : Hid (plain ++ ⟨#[wbyte kind 0]⟩ ++ nilB p = inn) := Lib.hid (by rw [hinn]; rfl)
  rw [← hinn] at hps
  have hib : inn.size ≤ 16601 := by omega
  obtain ⟨hs1, hs2⟩ := hid_ok s hok inn
  have CHd := Lib.hid (fun W => rhead_any 23 (inn.size + 16) W (by omega))
  have hca : ((inn.size : Int) + 16) = ((inn.size + 16 : Nat) : Int) := by omega
  rw [← hca] at CHd
  have hhs := headB_size 23 (inn.size + 16)
  have CS := Lib.hid (fun (W : World) => rsealO_any s.suite s.key (nonB s) (headB 23 (inn.size + 16)) inn W (by omega) (by omega))
  rw [hs1] at CS
  unfold ansO at CS
  have HA : Hid (selA s kind plain p = .returned (.tuple #[.string (headB 23 (inn.size + 16) ++ hidB s inn), .int .i64 0]) ∧ selS s kind plain p = nxtB s) := Lib.hid ⟨by rw [selA, selX, if_pos hE, hE, Int.toNat_natCast, ← hinn], by rw [selS, if_pos hE]⟩
  have CN := Lib.hid (fun (W : World) => rNonce_any s.iv s.n W hok.iv (by have := hok.n; omega))
  rw [show (⟨(nonS s.iv.data.toList s.n 8).toArray⟩ : ByteArray) = nonB s from rfl] at CN
  have hnb : s.n < 65536 := by have := hok.n; omega
  have hnb2 : (s.n : Int) < 65536 := by omega
  generalize headB 23 (inn.size + 16) = hd at *
  generalize hidB s inn = hb at *
  generalize nonB s = nb at *
  have k3 : hd.size + hb.size ≤ 9223372036854775807 := by omega
  have HK3 := Lib.hid k3
  have HIB := Lib.hid hib
  obtain ⟨zs, hzs⟩ : ∃ zs, zs = nilB p := ⟨_, rfl⟩
  have HZS : Hid (nilB p = zs) := Lib.hid hzs.symm
  rw [← hzs] at ns HINN
  clear hzs
  generalize wbyte kind 0 = kb at *
  have hb0 := Below.refl w.heap.size w
  clear hinn hps hs1 hs2 hhs hE hok hca k3 hib h0 h1 h2 h3
  go_enter Tryz.func12, Tryz.ntmps12
  go_wp2_with fail
  refine (CK.out w).mono ?_
  rintro e W ⟨rfl, rfl⟩
  go_wp2_with fail
  refine wp_region_told 10 94 [(Told.val (.string plain), [2]),
    (Told.val (.int .i64 kind), [1]),
    (Told.val (.int .u8 (kb.toNat : Int)), [43]),
    (rbOne (.int .u8 (kb.toNat : Int)), [44]),
    (Told.val (.string ⟨#[kb]⟩), [45]),
    (Told.val (.string (plain ++ ⟨#[kb]⟩)), [42, 46]),
    (Told.val (.int .i64 (p : Int)), [3]),
    (rbNil p, [48]),
    (Told.val (.string zs), [49]),
    (Told.val (.string (plain ++ ⟨#[kb]⟩ ++ zs)), [47, 50])]
    (by kernel_rfl) (by kernel_rfl) rfl ?_ ?_
  · simp only [List.take_succ_cons, List.take_zero, toldObl, and_true]
    refine And.intro ?_ (And.intro ?_ (And.intro ?_ (And.intro ?_ (And.intro ?_ (And.intro ?_ (And.intro ?_ (And.intro ?_ (And.intro ?_ (?_)))))))))
    · intro a w hb h
      have e0 : a.tmps.getD 2 undef = .string plain := h 2 (by simp)
      simp only [Array.getD_eq_getD_getElem?] at e0
      refine told_q ?_
      simp [go_sem, e0, sQuiet]
    · intro a w hb h
      have e0 : a.tmps.getD 1 undef = .int .i64 kind := h 1 (by simp)
      simp only [Array.getD_eq_getD_getElem?] at e0
      refine told_q ?_
      simp [go_sem, e0, sQuiet]
    · intro a w hb h
      have e0 : a.tmps.getD 43 undef = .int .i64 kind := h 43 (by simp)
      simp only [Array.getD_eq_getD_getElem?] at e0
      refine told_q ?_
      simp [go_sem, e0, sQuiet, wt]
    · intro a w hb h
      have e0 : a.tmps.getD 44 undef = .int .u8 (kb.toNat : Int) := h 44 (by simp)
      simp only [Array.getD_eq_getD_getElem?] at e0
      simp [go_sem, e0, toldQuiet]
      exact ⟨below_new _ _, _, rfl, rbOne_new _ _ _⟩
    · intro a w hb h
      have t0 := h 45 (by simp)
      replace t0 : (rbOne (.int .u8 (kb.toNat : Int))).T w (a.tmps.getD 45 undef) := t0
      obtain ⟨g0, e0, c0⟩ := t0
      simp only [Array.getD_eq_getD_getElem?] at e0
      have hcv := conv_text w g0 0 1 1 [kb] rfl (fun j x hx => by
        rw [Nat.zero_add]
        match j, hx with
        | 0, hx => simp at hx; subst hx; exact c0
        | j + 1, hx => simp at hx)
      refine told_q ?_
      simp [go_sem, e0, sQuiet, hcv]
    · intro a w hb h
      have e0 : a.tmps.getD 42 undef = .string plain := h 42 (by simp)
      have e1 : a.tmps.getD 46 undef = .string ⟨#[kb]⟩ := h 46 (by simp)
      simp only [Array.getD_eq_getD_getElem?] at e0 e1
      refine told_q ?_
      simp [go_sem, e0, e1, sQuiet, ls1, Nat.not_lt.2 k1]
    · intro a w hb h
      have e0 : a.tmps.getD 3 undef = .int .i64 (p : Int) := h 3 (by simp)
      simp only [Array.getD_eq_getD_getElem?] at e0
      refine told_q ?_
      simp [go_sem, e0, sQuiet]
    · intro a w hb h
      have e0 : a.tmps.getD 48 undef = .int .i64 (p : Int) := h 48 (by simp)
      simp only [Array.getD_eq_getD_getElem?] at e0
      have hmk := make_nil w p (p : Int) rfl HP.out
      simp [go_sem, e0, toldQuiet, hmk]
      exact ⟨below_new _ _, _, rfl, blk_new _ _⟩
    · intro a w hb h
      have t0 := h 49 (by simp)
      replace t0 : (rbNil p).T w (a.tmps.getD 49 undef) := t0
      obtain ⟨g0, e0, c0⟩ := t0
      simp only [Array.getD_eq_getD_getElem?] at e0
      have hcv := text_nil w g0 p c0
      rw [HZS.out] at hcv
      refine told_q ?_
      simp [go_sem, e0, sQuiet, hcv]
    · intro a w hb h
      have e0 : a.tmps.getD 47 undef = .string (plain ++ ⟨#[kb]⟩) := h 47 (by simp)
      have e1 : a.tmps.getD 50 undef = .string zs := h 50 (by simp)
      simp only [Array.getD_eq_getD_getElem?] at e0 e1
      refine told_q ?_
      simp [go_sem, e0, e1, sQuiet, ls1, ns, Nat.not_lt.2 k2]
  simp only [List.take_succ_cons, List.take_zero, List.drop_succ_cons, List.drop_zero, toldEnd, Act.put, List.setIfInBounds_toArray, List.set_cons_succ, List.set_cons_zero]
  rintro X bk v42 q42 v43 q43 v44 q44 v45 q45 v46 q46 v47 q47 v48 q48 v49 q49 v50 q50 v51 q51
  obtain rfl := q42.symm
  obtain rfl := q43.symm
  obtain rfl := q44.symm
  obtain rfl := q46.symm
  obtain rfl := q47.symm
  obtain rfl := q48.symm
  obtain rfl := q50.symm
  obtain rfl := q51.symm
  clear q42 q43 q44 q46 q47 q48 q50 q51
  clear q45 q49
  rw [HINN.out]
  have hib := HIB.out
  have HBl := Lib.hid (hb0.trans bk)
  have HB1 := Lib.hid (HB.out.below HBl.out)
  clear c0 c1 c2 c3 f3 bk hb0
  obtain ⟨c0, c1, c2, c3, f3⟩ := br_cells HB1.out
  have k22 := cell_regrown c2; have k33 := cell_regrown c3
  go_wp2_with fail
  refine wp_region_reads (by kernel_rfl) (by kernel_rfl) ?_
  repeat (first | go_big_quiet_step (with_reducible exact Calls.regrown_of (CN.out _)) | quiet_step (with_reducible exact Calls.regrown_of (CN.out _)))
  refine wpQuiet_nil ?_
  intro W2 hb2
  have HB2 := Lib.hid (HB1.out.below hb2)
  have HBl2 := Lib.hid (HBl.out.trans (hb2.mono HBl.out.size))
  clear hb2 c0 c1 c2 c3 f3 k22 k33 HB1 HBl
  go_wp2_with fail
  refine (CHd.out W2).mono ?_
  rintro e W3 ⟨rfl, hb3⟩
  have HB3 := Lib.hid (HB2.out.below hb3)
  have HBl3 := Lib.hid (HBl2.out.trans (hb3.mono HBl2.out.size))
  clear hb3 HB2 HBl2
  obtain ⟨c0, c1, c2, c3, f3⟩ := br_cells HB3.out
  have k00 := cell_regrown c0; have k11 := cell_regrown c1
  go_wp2_with fail
  refine wp_region_reads (by kernel_rfl) (by kernel_rfl) ?_
  repeat (first | go_big_quiet_step (with_reducible exact Calls.regrown_of (CS.out _)) | quiet_step (with_reducible exact Calls.regrown_of (CS.out _)))
  refine wpQuiet_nil ?_
  intro W4 hb4
  have HB4 := Lib.hid (HB3.out.below hb4)
  have HBt := Lib.hid (HBl3.out.trans (hb4.mono HBl3.out.size))
  have HF := Lib.hid (And.intro (br_next HB4.out) ((But.of_below (b := b) HBt.out).trans (But.setCell b W4 ⟨b, 3, none⟩ (.int .i64 ((s.n : Int) + 1)) rfl)))
  clear hb4 c0 c1 c2 c3 f3 k00 k11 HB3 HBl3
  obtain ⟨c0, c1, c2, c3, f3⟩ := br_cells HB4.out
  have k3 := HK3.out
  go_wp2_with fail
  go_ret2
  exact ⟨by rw [HA.out.1]; rfl, by rw [HA.out.2]; exact HF.out.1, HF.out.2⟩

set_option maxHeartbeats 16000000 in
theorem rboxOpen_any (b : Nat) (s : BSt) (body : ByteArray) (w : World) (h : BrAt w b s) (hok : BOk s) (hpl : body.size ≤ maxLen) :
    Calls Tryz.prog 14 #[.pointer (some ⟨b, 0, none⟩), .string body] w fun e w' => e = opnA s body ∧ BrAt w' b (opnS s body) ∧ But b w w' := by
  have HB := Lib.hid h
  have hpi : (body.size : Int) ≤ 9223372036854775807 := by unfold maxLen at hpl; omega
  obtain ⟨c0, c1, c2, c3, f3⟩ := br_cells h
  clear h hpl
  by_cases h0 : s.n = 65536
  · have HA := Lib.hid (opn_bad s body 44 (by rw [opnE, if_pos h0]) (by decide))
    have d0 : decide ((65536 : Int) ≤ (s.n : Int)) = true := decide_eq_true (by omega)
    go_enter Tryz.func14, Tryz.ntmps14
    go_wp2_with fail
    go_ret3
    exact ⟨by rw [HA.out.1]; rfl, by rw [HA.out.2]; exact HB.out, .refl _ _⟩
  have d0 : decide ((65536 : Int) ≤ (s.n : Int)) = false := decide_eq_false (by have := hok.n; omega)
  by_cases h1 : 16640 < body.size
  · have HA := Lib.hid (opn_bad s body 20 (by rw [opnE, if_neg h0, if_pos h1]) (by decide))
    have d1 : decide ((16640 : Int) < (body.size : Int)) = true := decide_eq_true (by omega)
    go_enter Tryz.func14, Tryz.ntmps14
    go_wp2_with fail
    go_ret3
    exact ⟨by rw [HA.out.1]; rfl, by rw [HA.out.2]; exact HB.out, .refl _ _⟩
  have d1 : decide ((16640 : Int) < (body.size : Int)) = false := decide_eq_false (by omega)
  have hhs := headB_size 23 body.size
  have CHd := Lib.hid (fun W => rhead_any 23 body.size W (by omega))
  have CS := Lib.hid (fun (W : World) => ropenO_any s.suite s.key (nonB s) (headB 23 body.size) body W (by omega) (by omega))
  rw [show openO s.suite s.key (nonB s) (headB 23 body.size) body = opnP s body from rfl] at CS
  unfold ansO at CS
  have CN := Lib.hid (fun (W : World) => rNonce_any s.iv s.n W hok.iv (by have := hok.n; omega))
  rw [show (⟨(nonS s.iv.data.toList s.n 8).toArray⟩ : ByteArray) = nonB s from rfl] at CN
  have hos := opnP_size s body
  have hnb : s.n < 65536 := by have := hok.n; omega
  have hnb2 : (s.n : Int) < 65536 := by omega
  have HEq : Hid (opnE s body = if (opnP s body).2 ≠ 0 then (opnP s body).2 else unpE (opnP s body).1) := Lib.hid (by rw [opnE, if_neg h0, if_neg h1])
  have HKq : Hid (opnK s body = if opnE s body = 0 then unpK (opnP s body).1 else 0) := Lib.hid rfl
  have HBq : Hid (opnB s body = if opnE s body = 0 then unpB (opnP s body).1 else emB) := Lib.hid rfl
  generalize opnP s body = pr at *
  obtain ⟨t, er⟩ := pr
  have hts : t.size ≤ 16640 := by simp only at hos; omega
  generalize headB 23 body.size = hd at *
  generalize nonB s = nb at *
  have k22 := cell_regrown c2; have k33 := cell_regrown c3
  clear hhs hok hos h0 h1
  by_cases he : er = 0
  case neg =>
    have hE : opnE s body = er := by rw [HEq.out, if_pos he]
    have HA := Lib.hid (opn_bad s body er hE he)
    have d2 : (er != 0) = true := by rw [bne_iff_ne]; exact he
    clear he hE HEq HKq HBq
    go_enter Tryz.func14, Tryz.ntmps14
    go_wp2_with fail
    refine wp_region_reads (by kernel_rfl) (by kernel_rfl) ?_
    repeat (first | go_big_quiet_step (with_reducible exact Calls.regrown_of (CN.out _)) | quiet_step (with_reducible exact Calls.regrown_of (CN.out _)))
    refine wpQuiet_nil ?_
    intro W1 hb1
    have HB1 := Lib.hid (HB.out.below hb1)
    have HBl := Lib.hid hb1
    clear hb1 c0 c1 c2 c3 f3 k22 k33
    obtain ⟨c0, c1, c2, c3, f3⟩ := br_cells HB1.out
    have k00 := cell_regrown c0; have k11 := cell_regrown c1
    go_wp2_with fail
    refine wp_region_reads (by kernel_rfl) (by kernel_rfl) ?_
    repeat (first | go_big_quiet_step (first | with_reducible exact Calls.regrown_of (CHd.out _) | with_reducible exact Calls.regrown_of (CS.out _)) | quiet_step (first | with_reducible exact Calls.regrown_of (CHd.out _) | with_reducible exact Calls.regrown_of (CS.out _)))
    refine wpQuiet_nil ?_
    intro W2 hb2
    have HB2 := Lib.hid (HB1.out.below hb2)
    have HBl2 := Lib.hid (HBl.out.trans (hb2.mono HBl.out.size))
    clear hb2 c0 c1 c2 c3 f3 k00 k11 HB1 HBl
    go_wp2_with fail
    go_ret3
    exact ⟨by rw [HA.out.1]; rfl, by rw [HA.out.2]; exact HB2.out, .of_below HBl2.out⟩
  subst he
  have HE2 : Hid (opnE s body = unpE t) := Lib.hid (by rw [HEq.out, if_neg (fun h => h rfl)])
  have BADU : Hid (∀ x, unpE t = x → x ≠ 0 → opnA s body = .returned (.tuple #[.int .i64 0, .string emB, .int .i64 x]) ∧ opnS s body = s) := Lib.hid (fun x hx hn => opn_bad s body x (HE2.out.trans hx) hn)
  have GOODU : Hid (unpE t = 0 → opnA s body = .returned (.tuple #[.int .i64 (unpK t), .string (unpB t), .int .i64 0]) ∧ opnS s body = nxtB s) := Lib.hid (fun hu => by
    have hE := HE2.out.trans hu
    exact ⟨by rw [opnA, HKq.out, HBq.out, if_pos hE, if_pos hE, hE], by rw [opnS, if_pos hE]⟩)
  have AT : Hid (∀ j, j < t.size → ∀ W, (Instr.index 9 (.string t) (.int .i64 (j : Int))).run Tryz.prog W = .ok (.int .u8 ((t.data.toList.getD j 0).toNat : Int)) W) := Lib.hid (fun j hj W => at_byte t j hj W)
  have HTS : Hid (t.data.toList.length = t.size) := Lib.hid (Lib.size_eq t).symm
  clear HEq HKq HBq
  go_enter Tryz.func14, Tryz.ntmps14
  go_wp2_with fail
  refine wp_region_reads (by kernel_rfl) (by kernel_rfl) ?_
  repeat (first | go_big_quiet_step (with_reducible exact Calls.regrown_of (CN.out _)) | quiet_step (with_reducible exact Calls.regrown_of (CN.out _)))
  refine wpQuiet_nil ?_
  intro W1 hb1
  have HB1 := Lib.hid (HB.out.below hb1)
  have HBl := Lib.hid hb1
  clear hb1 c0 c1 c2 c3 f3 k22 k33
  obtain ⟨c0, c1, c2, c3, f3⟩ := br_cells HB1.out
  have k00 := cell_regrown c0; have k11 := cell_regrown c1
  go_wp2_with fail
  refine wp_region_reads (by kernel_rfl) (by kernel_rfl) ?_
  repeat (first | go_big_quiet_step (first | with_reducible exact Calls.regrown_of (CHd.out _) | with_reducible exact Calls.regrown_of (CS.out _)) | quiet_step (first | with_reducible exact Calls.regrown_of (CHd.out _) | with_reducible exact Calls.regrown_of (CS.out _)))
  refine wpQuiet_nil ?_
  intro W2 hb2
  have HB2 := Lib.hid (HB1.out.below hb2)
  have HBl2 := Lib.hid (HBl.out.trans (hb2.mono HBl.out.size))
  clear hb2 c0 c1 c2 c3 f3 k00 k11 HB1 HBl
  go_wp2_with fail
  go_loopw [11] (fun nv wr => ∃ k : Nat, k ≤ t.size ∧ nv = .int .i64 (k : Int) ∧ (∀ j, k ≤ j → j < t.size → t.data.toList.getD j 0 = 0) ∧ BrAt wr b s ∧ Below w.heap.size w wr) (fun nv _ => (intOf nv).toNat)
  case atStart => exact ⟨t.size, Nat.le_refl _, rfl, fun j h1 h2 => absurd h1 (by omega), HB2.out, HBl2.out⟩
  case round =>
    obtain ⟨k, hkn, rfl, hz, hbr, hbl⟩ := hrel
    have HZ := Lib.hid hz
    have HBR := Lib.hid hbr
    have HBW := Lib.hid hbl
    clear hz hbr hbl HB2 HBl2
    cases k with
    | zero =>
      have HM : unpM t = [] := by
        have := trim_at t.data.toList 0 (Nat.zero_le _) (fun j h1 h2 => HZ.out j h1 (by rw [← HTS.out]; exact h2)) (fun h => absurd h (by decide))
        rw [List.take_zero] at this; exact this
      have HA := Lib.hid (BADU.out 11 (by rw [unpE, HM, if_pos List.length_nil]) (by decide))
      have d2 : decide ((0 : Int) < ((0 : Nat) : Int)) = false := by decide
      clear HM
      go_wp2_with fail
      go_ret3
      exact ⟨by rw [HA.out.1]; rfl, by rw [HA.out.2]; exact HBR.out, .of_below HBW.out⟩
    | succ m =>
      have hmt : m < t.size := by omega
      have hat := AT.out m hmt
      have hmi : (m : Int) < (t.size : Int) := by omega
      have hmi2 : (m : Int) ≤ (t.size : Int) := by omega
      have d2 : decide ((0 : Int) < (m : Int) + 1) = true := decide_eq_true (by omega)
      have d5 : (((m : Int) + 1) == 0) = false := by rw [beq_eq_false_iff_ne]; omega
      by_cases hb0 : t.data.toList.getD m 0 = 0
      · rw [hb0, show (((0 : UInt8).toNat : Nat) : Int) = 0 from rfl] at hat
        go_wp2_with fail
        go_roundw
        case rel => exact ⟨m, by omega, by go_num, fun j h1 h2 => by
          by_cases hj : j = m
          · rw [hj]; exact hb0
          · exact HZ.out j (by omega) h2, HBR.out, HBW.out⟩
        case measure => simp [intOf]
      · have HM : unpM t = t.data.toList.take (m + 1) := trim_at t.data.toList (m + 1) (by rw [HTS.out]; exact hkn) (fun j h1 h2 => HZ.out j h1 (by rw [← HTS.out]; exact h2)) (fun _ => hb0)
        have HML : (unpM t).length = m + 1 := by rw [HM, List.length_take, HTS.out]; omega
        have HTL : tlB t = t.data.toList.getD m 0 := by
          rw [tlB, HML, Nat.add_sub_cancel, HM, List.getD_eq_getElem?_getD, List.getD_eq_getElem?_getD, List.getElem?_take, if_pos (Nat.lt_succ_self m)]
        have hne : ((((t.data.toList.getD m 0).toNat : Nat) : Int) == 0) = false := by
          rw [beq_eq_false_iff_ne]; intro h; exact hb0 (UInt8.toNat_inj.1 (by show _ = 0; omega))
        have x0 : IntKind.i64.wrap ((t.data.toList.getD m 0).toNat : Int) = ((t.data.toList.getD m 0).toNat : Int) := by have := (t.data.toList.getD m 0).toNat_lt; rw [IntKind.wrap_i64]; omega
        have CK := Lib.hid (fun W => risKind_any ((t.data.toList.getD m 0).toNat : Int) W)
        have NL := Lib.hid (show ¬ (unpM t).length = 0 by rw [HML]; omega)
        have HX : Hid (⟨((unpM t).take ((unpM t).length - 1)).toArray⟩ = t.extract 0 m) := Lib.hid (by
          rw [HML, Nat.add_sub_cancel, HM, List.take_take, Nat.min_eq_left (Nat.le_succ m), Lib.extract_eq]; simp)
        have HB13 : Hid (16384 < (unpM t).length - 1 ↔ 16384 < m) := Lib.hid (by rw [HML, Nat.add_sub_cancel])
        have KEQ : Hid (isK ((tlB t).toNat : Int) = isK ((t.data.toList.getD m 0).toNat : Int) ∧ ((tlB t).toNat : Int) = ((t.data.toList.getD m 0).toNat : Int)) := Lib.hid (by rw [HTL]; exact ⟨rfl, rfl⟩)
        clear HM HML HTL hb0
        cases hk : isK ((t.data.toList.getD m 0).toNat : Int) with
        | false =>
          have HA := Lib.hid (BADU.out 11 (by rw [unpE, if_neg NL.out, if_pos (by rw [KEQ.out.1]; exact hk)]) (by decide))
          rw [hk] at CK
          obtain ⟨b0, e0⟩ : ∃ b0, ((t.data.toList.getD m 0).toNat : Int) = b0 := ⟨_, rfl⟩
          rw [e0] at CK hat x0 hne
          clear hk e0
          go_wp2_with fail
          refine (CK.out _).mono ?_
          rintro e W ⟨rfl, rfl⟩
          go_wp2_with fail
          go_ret3
          exact ⟨by rw [HA.out.1]; rfl, by rw [HA.out.2]; exact HBR.out, .of_below HBW.out⟩
        | true =>
          have N1 := Lib.hid (show ¬ isK ((tlB t).toNat : Int) = false by rw [KEQ.out.1, hk]; decide)
          rw [hk] at CK
          obtain ⟨b0, e0⟩ : ∃ b0, ((t.data.toList.getD m 0).toNat : Int) = b0 := ⟨_, rfl⟩
          rw [e0] at CK hat x0 hne
          have E0 := Lib.hid e0
          clear hk e0
          by_cases hm13 : 16384 < m
          · have HA := Lib.hid (BADU.out 13 (by rw [unpE, if_neg NL.out, if_neg N1.out, if_pos (HB13.out.2 hm13)]) (by decide))
            have d3 : decide ((16384 : Int) < (m : Int)) = true := decide_eq_true (by omega)
            clear hm13
            go_wp2_with fail
            refine (CK.out _).mono ?_
            rintro e W ⟨rfl, rfl⟩
            go_wp2_with fail
            go_ret3
            exact ⟨by rw [HA.out.1]; rfl, by rw [HA.out.2]; exact HBR.out, .of_below HBW.out⟩
          · have hu : unpE t = 0 := by rw [unpE, if_neg NL.out, if_neg N1.out, if_neg (fun h => hm13 (HB13.out.1 h))]
            have hA := GOODU.out hu
            rw [show unpK t = b0 by rw [unpK, if_pos hu, KEQ.out.2, E0.out], show unpB t = t.extract 0 m by rw [unpB, if_pos hu, HX.out]] at hA
            have HA := Lib.hid hA
            have d3 : decide ((16384 : Int) < (m : Int)) = false := decide_eq_false (by omega)
            have HF := Lib.hid (And.intro (br_next HBR.out) ((But.of_below (b := b) HBW.out).trans (But.setCell b wr ⟨b, 3, none⟩ (.int .i64 ((s.n : Int) + 1)) rfl)))
            obtain ⟨c0, c1, c2, c3, f3⟩ := br_cells HBR.out
            clear hm13 hu hA
            go_wp2_with fail
            refine (CK.out _).mono ?_
            rintro e W ⟨rfl, rfl⟩
            go_wp2_with fail
            go_quiet (fail)
            have hbd := below_drewN (Below.refl (wr.setCell ⟨b, 3, none⟩ (.int .i64 ((s.n : Int) + 1))).heap.size (wr.setCell ⟨b, 3, none⟩ (.int .i64 ((s.n : Int) + 1)))) nq
            go_wp2_with fail
            go_ret3
            exact ⟨by rw [HA.out.1]; rfl, by rw [HA.out.2]; exact HF.out.1.below hbd, HF.out.2.trans (.of_below hbd)⟩
end Go.Proofs.YtffnafikegakcaaGreatDoor
