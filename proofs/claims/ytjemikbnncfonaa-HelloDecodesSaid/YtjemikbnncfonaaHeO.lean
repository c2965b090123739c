/- Decode of a whole message, kind by kind: the reference's. -/
import Derived.Test.YtjemikbnncfonaaHeN
namespace Go.Proofs.Ytjemikbnncfonaa
open Go.RowKit Go.Sort
set_option maxRecDepth 100000
set_option linter.unusedSimpArgs false
set_option linter.unusedVariables false

set_option maxHeartbeats 4000000 in
theorem rdec2b (d : ByteArray) (w : World) (h9 : ¬ 32 ≤ szH d) (hk : kindH d = 2) (h4 : ¬ d.size < 4) (h5 : ¬ 4096 < szH d) (h6 : ¬ d.size < 4 + szH d) (hs : d.size ≤ 100000) :
    Calls Try.prog 13 #[.string d] w fun e w' => (∃ ao c, e = decA d (decE d) ao c ∧ IntsAt w' ao (decM d).su ∧ (decM d).su.length ≤ c) ∧ Below w.heap.size w w' := by
  obtain ⟨hzz, -⟩ := zero_of_info infoMsg
  have HR := Lib.hid (blk_new w (.cells zM 31))
  have hb := below_new w (.cells zM 31)
  have d1 : decide ((d.size : Int) < 4) = false := by simp; omega
  have j0 : (0 : Int) < (d.size : Int) := by omega
  have j1 : (1 : Int) < (d.size : Int) := by omega
  have j2 : (2 : Int) < (d.size : Int) := by omega
  have j3 : (3 : Int) < (d.size : Int) := by omega
  have t0 := he_run d 0 (by omega)
  rw [show ((0 : Nat) : Int) = 0 from rfl, show (((ofB d).getD 0 0).toNat : Int) = 2 from hk] at t0
  have t1 := he_run d 1 (by omega)
  have t2 := he_run d 2 (by omega)
  have t3 := he_run d 3 (by omega)
  rw [show ((1 : Nat) : Int) = 1 from rfl] at t1
  rw [show ((2 : Nat) : Int) = 2 from rfl] at t2
  rw [show ((3 : Nat) : Int) = 3 from rfl] at t3
  have l1 := ((ofB d).getD 1 0).toNat_lt
  have l2 := ((ofB d).getD 2 0).toNat_lt
  have l3 := ((ofB d).getD 3 0).toNat_lt
  obtain ⟨b1, e1⟩ : ∃ b, ((ofB d).getD 1 0).toNat = b := ⟨_, rfl⟩
  obtain ⟨b2, e2⟩ : ∃ b, ((ofB d).getD 2 0).toNat = b := ⟨_, rfl⟩
  obtain ⟨b3, e3⟩ : ∃ b, ((ofB d).getD 3 0).toNat = b := ⟨_, rfl⟩
  obtain ⟨z, hz⟩ : ∃ z, szH d = z := ⟨_, rfl⟩
  have hzs : (65536 : Int) * (b1 : Int) + 256 * (b2 : Int) + (b3 : Int) = (z : Int) := by rw [← hz, szH, e1, e2, e3]; omega
  rw [e1] at t1 l1
  rw [e2] at t2 l2
  rw [e3] at t3 l3
  have x1 : IntKind.i64.wrap (b1 : Int) = (b1 : Int) := by rw [IntKind.wrap_i64]; omega
  have x2 : IntKind.i64.wrap (b2 : Int) = (b2 : Int) := by rw [IntKind.wrap_i64]; omega
  have x3 : IntKind.i64.wrap (b3 : Int) = (b3 : Int) := by rw [IntKind.wrap_i64]; omega
  clear e1 e2 e3
  rw [hz] at h5 h6
  have d2 : decide ((4096 : Int) < (z : Int)) = false := by simp; omega
  have d3 : decide ((d.size : Int) < 4 + (z : Int)) = false := by simp; omega
  have g1 : (4 : Int) ≤ 4 + (z : Int) := by omega
  have g2 : 4 + (z : Int) ≤ (d.size : Int) := by omega
  have g3 : (0 : Int) ≤ 4 + (z : Int) := by omega
  rw [hz] at h9
  have m1 : ¬ (32 : Int) ≤ (z : Int) := by omega
  have m2 : ¬ (32 : Int) - (z : Int) ≤ 0 := by omega
  have m3 : (0 : Int) < 32 - (z : Int) := by omega
  have m4 : (z : Int) - 32 + (32 - (z : Int)) = 0 := by omega
  have q1 := cut_text d z hz
  have q2 := head_text d z hz
  have q3 := rest_text d z hz
  have hcs := cut_size d z hz (by omega)
  have x0 : IntKind.i64.wrap 2 = 2 := by decide
  have hw4 : IntKind.i64.wrap (4 + (z : Int)) = 4 + (z : Int) := by rw [IntKind.wrap_i64]; omega
  go_enter Try.func13, Try.ntmps13
  go_wp2_with fail
  go_quiet (fail)
  have hb := below_drewN hb nq
  replace HR := Lib.hid (blk_below (below_drewN (Below.refl _ _) nq) (blk_lt HR.out) HR.out)
  have CP := Lib.hid (fun W => rpart_any (cutB d) 2 32 W (by rw [hcs]; omega) (by decide) (by decide))
  have CQ := Lib.hid (fun W => rpart_any (cutB d) (z - 32) 32 W (by rw [hcs]; omega) (by omega) (by decide))
  have CT := Lib.hid (fun W => rtwo_any (cutB d) 35 W (by rw [hcs]; omega) (by decide))
  rw [show ((z - 32 : Nat) : Int) = 0 by omega] at CQ
  have htw := two_in (cutB d) 35
  have hlt := blk_lt HR.out
  generalize (w.alloc (.cells zM 31)).drewN nq = W1 at *
  generalize hBB : w.heap.size = B at *
  have HBB := Lib.hid hBB
  clear hBB
  have hB1 : B ≤ W1.heap.size := Nat.le_of_lt hlt
  have HNW := Lib.hid (blk_new W1 (.cells zM 31))
  have HG := Lib.hid (setRow_heap _ W1.heap.size _ (kR 2) _ _ HNW.out)
  have bk2 := below_setRow (below_new W1 (.cells zM 31)) (Nat.le_refl _) (kR 2)
  have hb2 := hb.trans (bk2.mono hB1)
  have HR2 := Lib.hid (blk_below bk2 hlt HR.out)
  obtain ⟨c0, c1, c2, c3, c4, c5⟩ := ms_cells HG.out
  have rk := rowK 2
  dsimp only [kM] at c0 c1 c2 c3 c4 c5
  clear HR hb
  go_wp2_with (with_reducible refine wpList_store_row rfl 31 _ _ rfl W1.heap.size (kR 2) rfl rfl 31 _ HNW.out (sizeK _) rfl (oneK _) ?_)
  generalize hW2 : (W1.alloc (.cells zM 31)).setRow W1.heap.size (kR 2) = W2 at *
  have hB2 : B ≤ W2.heap.size := Nat.le_trans (Nat.le_of_lt (blk_lt HR2.out)) (Nat.le_refl _)
  generalize W1.heap.size = g at *
  have HG2 : Hid (W2.heap[g]? = some (.cells (msC ⟨2, emB, emB, [], emB, false⟩ (.slice none 0 0)) 31)) := HG
  have HI2 : Hid (IntsAt W2 none []) := Lib.hid (IntsAt.nil _ _)
  clear hW2 HNW HG bk2 rk c0 c1 c2 c3 c4 c5 hB1
  refine (CP.out W2).mono ?_
  rintro e W3 ⟨rfl, bk⟩
  have HR3' := blk_below bk (blk_lt HR2.out) HR2.out
  have HG3' := blk_below bk (blk_lt HG2.out) HG2.out
  have hb3' := hb2.trans (bk.mono hB2)
  obtain ⟨c0, c1, c2, c3, c4, c5⟩ := ms_cells HG3'
  dsimp only at c0 c1 c2 c3 c4 c5
  obtain ⟨p1, p2, p3, fz, p5⟩ := ms_put hlt HG3' HR3' hb3' 1 (.string (partB (cutB d) 2 32)) ⟨2, (partB (cutB d) 2 32), emB, [], emB, false⟩ (.slice none 0 0) rfl
  obtain ⟨s0, s1, s2, s3, s4, s5⟩ := ms_cells p1
  dsimp only at s0 s1 s2 s3 s4 s5
  have P1 := Lib.hid p1
  have P2 := Lib.hid p2
  have P3 := Lib.hid p3
  have P5 := Lib.hid p5
  clear p1 p2 p3 p5 HR2 hb2 hB2 HG2 HR3' HG3' hb3' bk CP HI2
  go_wp2_with fail
  generalize World.setCell _ _ _ = W4 at *
  have HR2 := P2
  have hb2 := P3.out
  have hB2 := P5.out
  have HG2 := P1
  clear c0 c1 c2 c3 c4 c5 s0 s1 s2 s3 s4 s5 fz P1 P2 P3 P5
  refine (CT.out W4).mono ?_
  rintro e W5 ⟨rfl, bk⟩
  have HR3' := blk_below bk (blk_lt HR2.out) HR2.out
  have HG3' := blk_below bk (blk_lt HG2.out) HG2.out
  have hb3' := hb2.trans (bk.mono hB2)
  have hgx : g < W5.heap.size := blk_lt HG3'
  have hsz5 : (W5.setCell ⟨g, 3, none⟩ (.slice (some ⟨W5.heap.size, 0, none⟩) 1 1)).heap.size = W5.heap.size := by simp
  obtain ⟨c0, c1, c2, c3, c4, c5⟩ := ms_cells (blk_below (below_new W5 (.cells #[.int .i64 (twoB (cutB d) 35)] 3)) hgx HG3')
  dsimp only at c0 c1 c2 c3 c4 c5
  obtain ⟨p1, p2, p3, -, p5⟩ := ms_put hlt HG3' HR3' hb3' 3 (.slice (some ⟨W5.heap.size, 0, none⟩) 1 1) ⟨2, (partB (cutB d) 2 32), emB, [(twoB (cutB d) 35)], emB, false⟩ (.slice (some ⟨W5.heap.size, 0, none⟩) 1 1) rfl
  have fz := frozen_of_row _ _ 3 _ _ (blk_below (below_new W5 (.cells #[.int .i64 (twoB (cutB d) 35)] 3)) hgx HG3')
  have bk6 := below_new (W5.setCell ⟨g, 3, none⟩ (.slice (some ⟨W5.heap.size, 0, none⟩) 1 1)) (.cells #[.int .i64 (twoB (cutB d) 35)] 3)
  have r0 := blk_new (W5.setCell ⟨g, 3, none⟩ (.slice (some ⟨W5.heap.size, 0, none⟩) 1 1)) (.cells #[.int .i64 (twoB (cutB d) 35)] 3)
  rw [hsz5] at r0
  have r1 := blk_below bk6 (blk_lt p1) p1
  have r2 := blk_below bk6 (blk_lt p2) p2
  have r3 := p3.trans (bk6.mono p5)
  have r5 := Nat.le_trans p5 bk6.size
  obtain ⟨s0, s1, s2, s3, s4, s5⟩ := ms_cells r1
  dsimp only at s0 s1 s2 s3 s4 s5
  have P0 := Lib.hid r0
  have P1 := Lib.hid r1
  have P2 := Lib.hid r2
  have P3 := Lib.hid r3
  have P5 := Lib.hid r5
  clear r0 r1 r2 r3 r5 hsz5
  clear p1 p2 p3 p5 HR2 hb2 hB2 HG2 HR3' HG3' hb3' bk CT bk6
  go_wp2_with fail
  generalize World.alloc (World.setCell _ _ _) _ = W6 at *
  generalize W5.heap.size = gs at *
  have HR2 := P2
  have hb2 := P3.out
  have hB2 := P5.out
  have HG2 := P1
  have HX2 := P0
  clear c0 c1 c2 c3 c4 c5 s0 s1 s2 s3 s4 s5 fz P0 P1 P2 P3 P5
  refine (CQ.out W6).mono ?_
  rintro e W7 ⟨rfl, bk⟩
  have HR3' := blk_below bk (blk_lt HR2.out) HR2.out
  have HG3' := blk_below bk (blk_lt HG2.out) HG2.out
  have hb3' := hb2.trans (bk.mono hB2)
  have HX3 := blk_below bk (blk_lt HX2.out) HX2.out
  obtain ⟨c0, c1, c2, c3, c4, c5⟩ := ms_cells HG3'
  dsimp only at c0 c1 c2 c3 c4 c5
  obtain ⟨p1, p2, p3, fz, p5⟩ := ms_put hlt HG3' HR3' hb3' 2 (.string (partB (cutB d) (z - 32) 32)) ⟨2, (partB (cutB d) 2 32), (partB (cutB d) (z - 32) 32), [(twoB (cutB d) 35)], emB, false⟩ (.slice (some ⟨gs, 0, none⟩) 1 1) rfl
  obtain ⟨s0, s1, s2, s3, s4, s5⟩ := ms_cells p1
  dsimp only at s0 s1 s2 s3 s4 s5
  have P1 := Lib.hid p1
  have P2 := Lib.hid p2
  have P3 := Lib.hid p3
  have P5 := Lib.hid p5
  have P0 := Lib.hid ((heap_setCell_other W7 ⟨g, 2, none⟩ gs (.string (partB (cutB d) (z - 32) 32)) (by simp; omega)).trans HX3)
  clear p1 p2 p3 p5 HR2 hb2 hB2 HG2 HR3' HG3' hb3' bk CQ HX3 HX2
  go_wp2_with fail
  generalize World.setCell _ _ _ = W8 at *
  have HR2 := P2
  have hb2 := P3.out
  have hB2 := P5.out
  have HG2 := P1
  clear c0 c1 c2 c3 c4 c5 s0 s1 s2 s3 s4 s5 fz P1 P2 P3 P5
  have HX2 := P0
  have HI2 : Hid (IntsAt W8 (some ⟨gs, 0, none⟩) [(twoB (cutB d) 35)]) := Lib.hid (he_ints HX2.out)
  have hM : seemH d = ⟨2, (partB (cutB d) 2 32), (partB (cutB d) (z - 32) 32), [(twoB (cutB d) 35)], emB, false⟩ := by rw [seemH, hk, seem, if_neg (by decide), if_pos rfl, hcs]
  have hgB : gs ≠ B := by omega
  clear P0
  have HFIN := dec_fin d h4 (by rw [hz]; exact h5) (by rw [hz]; exact h6)
  rw [hM] at HFIN
  have CE := Lib.hid (rencodeL 2 (partB (cutB d) 2 32) (partB (cutB d) (z - 32) 32) [(twoB (cutB d) 35)] emB false (some ⟨gs, 0, none⟩) 1 1 W8 rfl (by decide) (by rw [part_size]; split <;> omega) (by rw [part_size]; split <;> omega) (by decide) (he_bound htw) HI2.out)
  unfold encX encE at CE
  cases hq : okM ⟨2, (partB (cutB d) 2 32), (partB (cutB d) (z - 32) 32), [(twoB (cutB d) 35)], emB, false⟩ with
  | false =>
    rw [hq, if_neg (by decide), if_neg (by decide)] at CE
    have he : decE d = 11 := by rw [HFIN, hq, if_neg (by simp)]
    have HV : Hid (decA d (decE d) none 0 = .returned (.tuple #[.agg zM, .string ⟨#[]⟩, .int .i64 11]) ∧ (decM d).su = []) := Lib.hid ⟨by rw [he]; exact dec_bad d 11 he (by decide), dec_none d (by rw [he]; decide)⟩
    have e1 : ((1 : Int) != 0) = true := by decide
    clear he hq HFIN hM
    refine CE.out.mono ?_
    rintro e W3 ⟨rfl, bk⟩
    have HR3 := Lib.hid (blk_below bk (blk_lt HR2.out) HR2.out)
    have HG3 := Lib.hid (blk_below bk (blk_lt HG2.out) HG2.out)
    have hb3 := hb2.trans (bk.mono hB2)
    have HI3 := Lib.hid (HI2.out.step bk)
    have hB3 := Nat.le_trans hB2 bk.size
    have HX3 := Lib.hid (blk_below bk (blk_lt HX2.out) HX2.out)
    clear HX2
    clear CE HR2 HG2 hb2 bk HI2 hB2
    go_wp2_with (with_reducible refine wpList_store_row rfl 31 _ _ rfl B zM rfl rfl 31 _ HR3.out sizeZ rfl oneZ ?_)
    (try simp only [Exit.inBlock, Exit.then]); exact bodyPost_ret (results_row_tmp2 (by rfl) _ _ B 31 _ (0, 0) _ rfl (setRow_heap _ _ _ _ _ _ HR3.out) Try.underlying31 rfl sizeZ) rfl ⟨⟨none, 0, by rw [HV.out.1]; rfl, by rw [HV.out.2]; exact IntsAt.nil _ _, by rw [HV.out.2]; exact Nat.le_refl 0⟩, by rw [HBB.out]; exact below_setRow hb3 (Nat.le_refl _) _⟩
  | true =>
    rw [hq, if_pos rfl, if_pos rfl] at CE
    have e1 : ((0 : Int) != 0) = false := by decide
    have hne := he_eq (encB ⟨2, (partB (cutB d) 2 32), (partB (cutB d) (z - 32) 32), [(twoB (cutB d) 35)], emB, false⟩) (headB d)
    by_cases hh : encB ⟨2, (partB (cutB d) 2 32), (partB (cutB d) (z - 32) 32), [(twoB (cutB d) 35)], emB, false⟩ = headB d
    case neg =>
      have he : decE d = 11 := by rw [HFIN, hq, if_neg (by simp [hh])]
      have HV : Hid (decA d (decE d) none 0 = .returned (.tuple #[.agg zM, .string ⟨#[]⟩, .int .i64 11]) ∧ (decM d).su = []) := Lib.hid ⟨by rw [he]; exact dec_bad d 11 he (by decide), dec_none d (by rw [he]; decide)⟩
      rw [decide_eq_false hh] at hne
      clear he hq HFIN hM hh
      generalize encB ⟨2, (partB (cutB d) 2 32), (partB (cutB d) (z - 32) 32), [(twoB (cutB d) 35)], emB, false⟩ = ex at *
      refine CE.out.mono ?_
      rintro e W3 ⟨rfl, bk⟩
      have HR3 := Lib.hid (blk_below bk (blk_lt HR2.out) HR2.out)
      have HG3 := Lib.hid (blk_below bk (blk_lt HG2.out) HG2.out)
      have hb3 := hb2.trans (bk.mono hB2)
      have HI3 := Lib.hid (HI2.out.step bk)
      have hB3 := Nat.le_trans hB2 bk.size
      have HX3 := Lib.hid (blk_below bk (blk_lt HX2.out) HX2.out)
      clear HX2
      clear CE HR2 HG2 hb2 bk HI2 hB2
      go_wp2_with (with_reducible refine wpList_store_row rfl 31 _ _ rfl B zM rfl rfl 31 _ HR3.out sizeZ rfl oneZ ?_)
      (try simp only [Exit.inBlock, Exit.then]); exact bodyPost_ret (results_row_tmp2 (by rfl) _ _ B 31 _ (0, 0) _ rfl (setRow_heap _ _ _ _ _ _ HR3.out) Try.underlying31 rfl sizeZ) rfl ⟨⟨none, 0, by rw [HV.out.1]; rfl, by rw [HV.out.2]; exact IntsAt.nil _ _, by rw [HV.out.2]; exact Nat.le_refl 0⟩, by rw [HBB.out]; exact below_setRow hb3 (Nat.le_refl _) _⟩
    case pos =>
      have he : decE d = 0 := by rw [HFIN, hq, if_pos ⟨rfl, hh⟩]
      have HV := Lib.hid (fun ao c => dec_good d ⟨2, (partB (cutB d) 2 32), (partB (cutB d) (z - 32) 32), [(twoB (cutB d) 35)], emB, false⟩ he hM ao c)
      have HS : Hid ((decM d).su = [(twoB (cutB d) 35)]) := Lib.hid (by rw [decM, if_pos he, hM])
      rw [decide_eq_true hh] at hne
      clear he hq HFIN hM hh
      generalize encB ⟨2, (partB (cutB d) 2 32), (partB (cutB d) (z - 32) 32), [(twoB (cutB d) 35)], emB, false⟩ = ex at *
      refine CE.out.mono ?_
      rintro e W3 ⟨rfl, bk⟩
      have HR3 := Lib.hid (blk_below bk (blk_lt HR2.out) HR2.out)
      have HG3 := Lib.hid (blk_below bk (blk_lt HG2.out) HG2.out)
      have hb3 := hb2.trans (bk.mono hB2)
      have HI3 := Lib.hid (HI2.out.step bk)
      have hB3 := Nat.le_trans hB2 bk.size
      have HX3 := Lib.hid (blk_below bk (blk_lt HX2.out) HX2.out)
      clear HX2
      clear CE HR2 HG2 hb2 bk HI2 hB2
      go_wp2_with fail
      obtain ⟨ROW, hrow⟩ : ∃ r, r = msC ⟨2, (partB (cutB d) 2 32), (partB (cutB d) (z - 32) 32), [(twoB (cutB d) 35)], emB, false⟩ (.slice (some ⟨gs, 0, none⟩) 1 1) := ⟨_, rfl⟩
      have HROW : Hid (ROW = msC ⟨2, (partB (cutB d) 2 32), (partB (cutB d) (z - 32) 32), [(twoB (cutB d) 35)], emB, false⟩ (.slice (some ⟨gs, 0, none⟩) 1 1)) := Lib.hid hrow
      have HSZ : Hid ((Try.prog.info? 31).map (·.size) = some ROW.size ∧ ROW.all (·.oneCell') = true) := Lib.hid (by rw [hrow]; exact ⟨sizeMsg _ _, oneMsg _ _ _ _⟩)
      have hg3 := HG3.out
      rw [← hrow] at hg3
      clear hrow HG3
      refine wp_region_stored 5 148 [.val (.agg ROW) [(7, .pointer (some ⟨g, 0, none⟩))], .val (.string d) [(0, .string d)], .val (.int .i64 (z : Int)) [(5, .int .i64 (z : Int))], .val (.int .i64 (4 + (z : Int))) [(145, .int .i64 (z : Int))], .val (.string (restB d)) [(144, .string d), (146, .int .i64 (4 + (z : Int)))]]
        [(2, .pointer (some ⟨B, 0, none⟩)), (143, .agg ROW)]
        (fun w' => Below B w w' ∧ w'.heap[B]? = some (.cells zM 31) ∧ w'.heap[g]? = some (.cells ROW 31) ∧ w'.heap[gs]? = some (.cells #[.int .i64 (twoB (cutB d) 35)] 3))
        (fun w' => Below B w w' ∧ w'.heap[B]? = some (.cells ROW 31) ∧ w'.heap[g]? = some (.cells ROW 31) ∧ w'.heap[gs]? = some (.cells #[.int .i64 (twoB (cutB d) 35)] 3))
        _ rfl rfl (by kernel_rfl) rfl ?_ ?_ ?_ ?_ ?_ ?_ ?_ ?_
      · exact ⟨hb3.trans ⟨rfl, rfl, rfl, Nat.le_refl _, fun _ _ => rfl⟩, HR3.out, hg3, HX3.out⟩
      · rintro w1 w2 ⟨k1, k2, k3, k4⟩ hb
        exact ⟨k1.trans (hb.mono (Nat.le_of_lt (blk_lt k2))), blk_below hb (blk_lt k2) k2, blk_below hb (blk_lt k3) k3, blk_below hb (blk_lt k4) k4⟩
      · rintro w1 w2 ⟨k1, k2, k3, k4⟩ hb
        exact ⟨k1.trans (hb.mono (Nat.le_of_lt (blk_lt k2))), blk_below hb (blk_lt k2) k2, blk_below hb (blk_lt k3) k3, blk_below hb (blk_lt k4) k4⟩
      · simp only [List.take_succ_cons, List.take_zero, storedObl, HeadSpec.val, and_true]
        refine ⟨?_, ?_, ?_, ?_, ?_⟩
        · intro act w' hk h
          have e0 := h (7, .pointer (some ⟨g, 0, none⟩)) (by simp)
          have hk3 : w'.heap[g]? = some (.cells ROW 31) := by rcases hk with hk | hk <;> exact hk.2.2.1
          exact sQuiet_load_row 31 (.tmp 7) rfl g e0 31 _ (0, 0) _ hk3 Try.underlying31 rfl HSZ.out.1
        · intro act w' hk h
          have e0 := h (0, .string d) (by simp)
          simp only [Array.getD_eq_getD_getElem?] at e0
          simp [go_sem, e0, sQuiet]
        · intro act w' hk h
          have e0 := h (5, .int .i64 (z : Int)) (by simp)
          simp only [Array.getD_eq_getD_getElem?] at e0
          simp [go_sem, e0, sQuiet]
        · intro act w' hk h
          have e0 := h (145, .int .i64 (z : Int)) (by simp)
          simp only [Array.getD_eq_getD_getElem?] at e0
          simp [go_sem, e0, sQuiet, hw4]
        · intro act w' hk h
          have e0 := h (144, .string d) (by simp)
          have e1 := h (146, .int .i64 (4 + (z : Int))) (by simp)
          simp only [Array.getD_eq_getD_getElem?] at e0 e1
          simp [go_sem, e0, e1, sQuiet, g2, g3, q3]
      · rintro act w' ⟨k1, k2, k3, k4⟩ h
        have e0 : act.eval (.tmp 2) = .pointer (some ⟨B, 0, none⟩) := h (2, .pointer (some ⟨B, 0, none⟩)) (by simp)
        have e1 : act.eval (.tmp 143) = .agg ROW := h (143, .agg ROW) (by simp)
        refine ⟨w'.setRow B ROW, ?_, below_setRow k1 (Nat.le_refl _) _, setRow_heap _ _ _ _ _ _ k2, by rw [setRow_other _ _ _ _ (by omega)]; exact k3, (setRow_other _ _ _ _ hgB).trans k4⟩
        have hrun := run_storeVar_row (P := Try.prog) w' B 31 31 zM ROW k2 HSZ.out.1 (by rw [HROW.out]; rfl) HSZ.out.2
        unfold execOp
        simp only [e0, e1, Instr.storeAt, Instr.sureAddr, Sem.run_bind, Sem.run_pure, Result.andThen_ok, hrun]
      · simp [headReads, headPut, specV, HeadSpec.val, Act.put]
      · simp [headReads, headPut, specV, HeadSpec.val, Act.put]
      · rintro w' ⟨k1, k2, k3, k4⟩
        have HN := Lib.hid k2
        have HK4 := Lib.hid k4
        clear k2 k3 k4 HR3 hg3 hb3
        simp only [List.take_succ_cons, List.take_zero, List.drop_succ_cons, List.drop_zero, headPut, specV, HeadSpec.val, Act.put, List.setIfInBounds_toArray, List.set_cons_succ, List.set_cons_zero, List.getElem?_cons_succ, List.getElem?_cons_zero, Option.map_some, Option.getD_some]
        go_wp2_with fail
        exact bodyPost_ret (results_row_tmp2 (by rfl) _ _ B 31 _ (0, 0) _ rfl HN.out Try.underlying31 rfl HSZ.out.1) rfl ⟨⟨(some ⟨gs, 0, none⟩), 1, by rw [HV.out, HROW.out]; rfl, by rw [HS.out]; exact he_ints HK4.out, by rw [HS.out]; exact Nat.le_refl 1⟩, by rw [HBB.out]; exact k1⟩
end Go.Proofs.Ytjemikbnncfonaa
