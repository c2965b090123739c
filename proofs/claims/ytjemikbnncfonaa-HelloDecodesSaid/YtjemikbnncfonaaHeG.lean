/- Decode of a whole message of kind 1: the reference's. -/
import Derived.Test.YtjemikbnncfonaaHeF
namespace Go.Proofs.Ytjemikbnncfonaa
open Go.RowKit Go.Sort
set_option maxRecDepth 100000
set_option linter.unusedSimpArgs false
set_option linter.unusedVariables false

set_option maxHeartbeats 16000000 in
theorem rdec1b (d : ByteArray) (w : World) (h9 : ¬ 32 ≤ szH d) (hk : kindH d = 1) (h4 : ¬ d.size < 4) (h5 : ¬ 4096 < szH d) (h6 : ¬ d.size < 4 + szH d) (hs : d.size ≤ 100000) :
    Calls Try.prog 13 #[.string d] w fun e w' => (∃ ao c, e = decA d (decE d) ao c ∧ IntsAt w' ao (decM d).su ∧ (decM d).su.length ≤ c) ∧ Below w.heap.size w w' := by
  obtain ⟨hzz, -⟩ := zero_of_info infoMsg
  have HR := Lib.hid (blk_new w (.cells zM 31))
  have hb := below_new w (.cells zM 31)
  have d1 : decide ((d.size : Int) < 4) = false := by simp; omega
  have j0 : (0 : Int) < (d.size : Int) := by omega
  have j1 : (1 : Int) < (d.size : Int) := by omega
  have j2 : (2 : Int) < (d.size : Int) := by omega
  have j3 : (3 : Int) < (d.size : Int) := by omega
  have t0 := he_run d 0 (by omega)
  rw [show ((0 : Nat) : Int) = 0 from rfl, show (((ofB d).getD 0 0).toNat : Int) = 1 from hk] at t0
  have t1 := he_run d 1 (by omega)
  have t2 := he_run d 2 (by omega)
  have t3 := he_run d 3 (by omega)
  rw [show ((1 : Nat) : Int) = 1 from rfl] at t1
  rw [show ((2 : Nat) : Int) = 2 from rfl] at t2
  rw [show ((3 : Nat) : Int) = 3 from rfl] at t3
  have l1 := ((ofB d).getD 1 0).toNat_lt
  have l2 := ((ofB d).getD 2 0).toNat_lt
  have l3 := ((ofB d).getD 3 0).toNat_lt
  obtain ⟨b1, e1⟩ : ∃ b, ((ofB d).getD 1 0).toNat = b := ⟨_, rfl⟩
  obtain ⟨b2, e2⟩ : ∃ b, ((ofB d).getD 2 0).toNat = b := ⟨_, rfl⟩
  obtain ⟨b3, e3⟩ : ∃ b, ((ofB d).getD 3 0).toNat = b := ⟨_, rfl⟩
  obtain ⟨z, hz⟩ : ∃ z, szH d = z := ⟨_, rfl⟩
  have hzs : (65536 : Int) * (b1 : Int) + 256 * (b2 : Int) + (b3 : Int) = (z : Int) := by rw [← hz, szH, e1, e2, e3]; omega
  rw [e1] at t1 l1
  rw [e2] at t2 l2
  rw [e3] at t3 l3
  have x1 : IntKind.i64.wrap (b1 : Int) = (b1 : Int) := by rw [IntKind.wrap_i64]; omega
  have x2 : IntKind.i64.wrap (b2 : Int) = (b2 : Int) := by rw [IntKind.wrap_i64]; omega
  have x3 : IntKind.i64.wrap (b3 : Int) = (b3 : Int) := by rw [IntKind.wrap_i64]; omega
  clear e1 e2 e3
  rw [hz] at h5 h6
  have d2 : decide ((4096 : Int) < (z : Int)) = false := by simp; omega
  have d3 : decide ((d.size : Int) < 4 + (z : Int)) = false := by simp; omega
  have g1 : (4 : Int) ≤ 4 + (z : Int) := by omega
  have g2 : 4 + (z : Int) ≤ (d.size : Int) := by omega
  have g3 : (0 : Int) ≤ 4 + (z : Int) := by omega
  rw [hz] at h9
  have m1 : ¬ (32 : Int) ≤ (z : Int) := by omega
  have m2 : ¬ (32 : Int) - (z : Int) ≤ 0 := by omega
  have m3 : (0 : Int) < 32 - (z : Int) := by omega
  have m4 : (z : Int) - 32 + (32 - (z : Int)) = 0 := by omega
  have q1 := cut_text d z hz
  have q2 := head_text d z hz
  have q3 := rest_text d z hz
  have hcs := cut_size d z hz (by omega)
  have x0 : IntKind.i64.wrap 1 = 1 := by decide
  have hw4 : IntKind.i64.wrap (4 + (z : Int)) = 4 + (z : Int) := by rw [IntKind.wrap_i64]; omega
  go_enter Try.func13, Try.ntmps13
  go_wp2_with fail
  go_quiet (fail)
  have hb := below_drewN hb nq
  replace HR := Lib.hid (blk_below (below_drewN (Below.refl _ _) nq) (blk_lt HR.out) HR.out)
  have CP := Lib.hid (fun W => rpart_any (cutB d) 2 32 W (by rw [hcs]; omega) (by decide) (by decide))
  have CQ := Lib.hid (fun W => rpart_any (cutB d) (z - 32) 32 W (by rw [hcs]; omega) (by omega) (by decide))
  have CT := Lib.hid (fun W => rtwo_any (cutB d) 35 W (by rw [hcs]; omega) (by decide))
  have CU := Lib.hid (fun (j : Nat) (h : j < 5) W => rtwo_any (cutB d) (37 + 2 * j) W (by rw [hcs]; omega) (by omega))
  rw [show ((z - 32 : Nat) : Int) = 0 by omega] at CQ
  have htw := two_in (cutB d) 35
  obtain ⟨i0, hi, hz0, hz1, hz2⟩ := info_parts hp_infoI
  have hM0 : seemH d = ⟨1, (partB (cutB d) 2 32), (partB (cutB d) (z - 32) 32), susB (cutB d) (min 5 (((twoB (cutB d) 35).toNat + 1) / 2)), emB, false⟩ := by rw [seemH, hk, seem, if_pos rfl, hcs]
  have hlt0 := blk_lt HR.out
  generalize (w.alloc (.cells zM 31)).drewN nq = W1 at *
  generalize hBB : w.heap.size = B at *
  have HBB := Lib.hid hBB
  clear hBB
  have hB1 : B ≤ W1.heap.size := Nat.le_of_lt hlt0
  have HNW := Lib.hid (blk_new W1 (.cells zM 31))
  have HG := Lib.hid (setRow_heap _ W1.heap.size _ (kR 1) _ _ HNW.out)
  have bk2 := below_setRow (below_new W1 (.cells zM 31)) (Nat.le_refl _) (kR 1)
  have hb2 := hb.trans (bk2.mono hB1)
  have HR2 := Lib.hid (blk_below bk2 hlt0 HR.out)
  obtain ⟨c0, c1, c2, c3, c4, c5⟩ := ms_cells HG.out
  have rk := rowK 1
  dsimp only [kM] at c0 c1 c2 c3 c4 c5
  clear HR hb
  go_wp2_with (with_reducible refine wpList_store_row rfl 31 _ _ rfl W1.heap.size (kR 1) rfl rfl 31 _ HNW.out (sizeK _) rfl (oneK _) ?_)
  generalize hW2 : (W1.alloc (.cells zM 31)).setRow W1.heap.size (kR 1) = W2 at *
  have hB2 : B ≤ W2.heap.size := Nat.le_trans (Nat.le_of_lt (blk_lt HR2.out)) (Nat.le_refl _)
  generalize W1.heap.size = g at *
  have HG2 : Hid (W2.heap[g]? = some (.cells (msC ⟨1, emB, emB, [], emB, false⟩ (.slice none 0 0)) 31)) := HG
  have HI2 : Hid (IntsAt W2 none []) := Lib.hid (IntsAt.nil _ _)
  clear hW2 HNW HG bk2 rk c0 c1 c2 c3 c4 c5 hB1
  refine (CP.out W2).mono ?_
  rintro e W3 ⟨rfl, bk⟩
  have HR3' := blk_below bk (blk_lt HR2.out) HR2.out
  have HG3' := blk_below bk (blk_lt HG2.out) HG2.out
  have hb3' := hb2.trans (bk.mono hB2)
  obtain ⟨c0, c1, c2, c3, c4, c5⟩ := ms_cells HG3'
  dsimp only at c0 c1 c2 c3 c4 c5
  obtain ⟨p1, p2, p3, fz, p5⟩ := ms_put hlt0 HG3' HR3' hb3' 1 (.string (partB (cutB d) 2 32)) ⟨1, (partB (cutB d) 2 32), emB, [], emB, false⟩ (.slice none 0 0) rfl
  obtain ⟨s0, s1, s2, s3, s4, s5⟩ := ms_cells p1
  dsimp only at s0 s1 s2 s3 s4 s5
  have P1 := Lib.hid p1
  have P2 := Lib.hid p2
  have P3 := Lib.hid p3
  have P5 := Lib.hid p5
  clear p1 p2 p3 p5 HR2 hb2 hB2 HG2 HR3' HG3' hb3' bk CP HI2
  go_wp2_with fail
  generalize World.setCell _ _ _ = W4 at *
  have HR2 := P2
  have hb2 := P3.out
  have hB2 := P5.out
  have HG2 := P1
  clear c0 c1 c2 c3 c4 c5 s0 s1 s2 s3 s4 s5 fz P1 P2 P3 P5
  refine (CT.out W4).mono ?_
  rintro e W5 ⟨rfl, bk⟩
  have HR3' := blk_below bk (blk_lt HR2.out) HR2.out
  have HG3' := blk_below bk (blk_lt HG2.out) HG2.out
  have hb3' := hb2.trans (bk.mono hB2)
  have HR5 := Lib.hid HR3'
  have HG5 := Lib.hid HG3'
  have hb5 := hb3'
  clear HR3' HG3' hb3' HR2 HG2 hb2 hB2 bk CT
  obtain ⟨N, hN⟩ : ∃ N, min 5 (((twoB (cutB d) 35).toNat + 1) / 2) = N := ⟨_, rfl⟩
  rw [hN] at hM0
  have HM0 := Lib.hid hM0
  generalize (twoB (cutB d) 35) = x35 at *
  have hN5 : N ≤ 5 := by omega
  have HNX : Hid (∀ j : Nat, j < N ↔ (2 * (j : Int) < x35 ∧ 2 * (j : Int) < 10)) := Lib.hid (fun j => by omega)
  clear hN hM0
  go_wp2_with fail
  go_loopw [9] (fun iv wr => ∃ (j : Nat) (ao : Option Addr) (cap : Nat), j ≤ N ∧ iv = .int .i64 (2 * (j : Int)) ∧ wr.heap[B]? = some (.cells zM 31) ∧ wr.heap[g]? = some (.cells (msC ⟨1, (partB (cutB d) 2 32), emB, susB (cutB d) j, emB, false⟩ (.slice ao j cap)) 31) ∧ wr.ownsRow (g + 1) 3 1 (.slice ao j cap) j (iCells (susB (cutB d) j)) ∧ Below B w wr) (fun iv _ => 12 - (intOf iv).toNat)
  case atStart => exact ⟨0, none, 0, Nat.zero_le _, rfl, HR5.out, HG5.out, World.ownsRow_nil _ _ _ _, hb5⟩
  case round =>
    clear HR5 HG5 hb5
    obtain ⟨j, ao, cap, hj, rfl, hR, hG, hO, hbw⟩ := hrel
    have HR2 := Lib.hid hR
    have HG2 := Lib.hid hG
    have HO2 := Lib.hid hO
    have hb2 := hbw
    have hB2 : B ≤ wr.heap.size := Nat.le_of_lt (blk_lt hR)
    have hg2 : g < wr.heap.size := blk_lt hG
    clear hR hG hO hbw
    obtain ⟨c0, c1, c2, c3, c4, c5⟩ := ms_cells HG2.out
    dsimp only at c0 c1 c2 c3 c4 c5
    by_cases hlt : j < N
    · obtain ⟨x1, x2⟩ := (HNX.out j).1 hlt
      have dx1 : decide (2 * (j : Int) < x35) = true := decide_eq_true x1
      have dx2 : decide (2 * (j : Int) < 10) = true := decide_eq_true x2
      have w37 : IntKind.i64.wrap (37 + 2 * (j : Int)) = 37 + 2 * (j : Int) := by rw [IntKind.wrap_i64]; omega
      have w22 : IntKind.i64.wrap (2 * (j : Int) + 2) = 2 * (j : Int) + 2 := by rw [IntKind.wrap_i64]; omega
      have CJ := Lib.hid (CU.out j (by omega))
      rw [show ((37 + 2 * j : Nat) : Int) = 37 + 2 * (j : Int) by omega] at CJ
      have HSN : Hid (iCells (susB (cutB d) j) ++ [.int .i64 (twoB (cutB d) (37 + 2 * j))] = iCells (susB (cutB d) (j + 1))) := Lib.hid (by rw [← susB_snoc, iCells_append]; rfl)
      have HLN : Hid ((iCells (susB (cutB d) j)).length = j) := Lib.hid (by rw [iCells_length, susB_length])
      generalize twoB (cutB d) (37 + 2 * j) = y at *
      clear CU CQ
      go_wp2_with fail
      refine wp_region_told 7 148 [(Told.val (.pointer (some ⟨g, 3, none⟩)), [7]),
        (Told.val (.slice ao j cap), [64]),
        (Told.val (.string (cutB d)), [6]),
        (Told.val (.int .i64 (2 * (j : Int))), [9]),
        (Told.val (.int .i64 (37 + 2 * (j : Int))), [67]),
        (Told.val (.int .i64 y), [66, 68]),
        (tOne y, [69])]
        (by kernel_rfl) (by kernel_rfl) rfl ?_ ?_
      · simp only [List.take_succ_cons, List.take_zero, toldObl, and_true]
        refine And.intro ?_ (And.intro ?_ (And.intro ?_ (And.intro ?_ (And.intro ?_ (And.intro ?_ (?_))))))
        · intro a w hb h
          have e0 : a.tmps.getD 7 undef = .pointer (some ⟨g, 0, none⟩) := h 7 (by simp)
          simp only [Array.getD_eq_getD_getElem?] at e0
          refine told_q ?_
          simp [go_sem, e0, sQuiet]
        · intro a w hb h
          have e0 : a.tmps.getD 64 undef = .pointer (some ⟨g, 3, none⟩) := h 64 (by simp)
          simp only [Array.getD_eq_getD_getElem?] at e0
          have hc := (hb.cell (block_lt_of_cell c3)).trans c3
          refine told_q ?_
          simp [go_sem, e0, sQuiet, hc]
        · intro a w hb h
          have e0 : a.tmps.getD 6 undef = .string (cutB d) := h 6 (by simp)
          simp only [Array.getD_eq_getD_getElem?] at e0
          refine told_q ?_
          simp [go_sem, e0, sQuiet]
        · intro a w hb h
          have e0 : a.tmps.getD 9 undef = .int .i64 (2 * (j : Int)) := h 9 (by simp)
          simp only [Array.getD_eq_getD_getElem?] at e0
          refine told_q ?_
          simp [go_sem, e0, sQuiet]
        · intro a w hb h
          have e0 : a.tmps.getD 67 undef = .int .i64 (2 * (j : Int)) := h 67 (by simp)
          simp only [Array.getD_eq_getD_getElem?] at e0
          refine told_q ?_
          simp [go_sem, e0, sQuiet, w37]
        · intro a w hb h
          have e0 : a.tmps.getD 66 undef = .string (cutB d) := h 66 (by simp)
          have e1 : a.tmps.getD 68 undef = .int .i64 (37 + 2 * (j : Int)) := h 68 (by simp)
          simp only [Array.getD_eq_getD_getElem?] at e0 e1
          refine told_q ?_
          simp [go_sem, e0, e1, sQuiet]
          exact CJ.out _
        · intro a w hb h
          have e0 : a.tmps.getD 69 undef = .int .i64 y := h 69 (by simp)
          simp only [Array.getD_eq_getD_getElem?] at e0
          simp [go_sem, e0, toldQuiet]
          exact ⟨below_new _ _, _, rfl, blk_new _ _⟩
      simp only [List.take_succ_cons, List.take_zero, List.drop_succ_cons, List.drop_zero, toldEnd, Act.put, List.setIfInBounds_toArray, List.set_cons_succ, List.set_cons_zero]
      rintro X bk v64 q64 v65 q65 v66 q66 v67 q67 v68 q68 v69 q69 v70 q70
      obtain rfl := q64.symm
      obtain rfl := q65.symm
      obtain rfl := q66.symm
      obtain rfl := q67.symm
      obtain rfl := q68.symm
      obtain rfl := q69.symm
      clear q64 q65 q66 q67 q68 q69
      obtain ⟨h, rfl, hh⟩ := q70
      have hO3 := orow_below HO2.out bk
      have hG3 := blk_below bk (blk_lt HG2.out) HG2.out
      have hR3 := blk_below bk (blk_lt HR2.out) HR2.out
      have hb3 := hb2.trans (bk.mono hB2)
      have hg3 : g + 1 ≤ X.heap.size := blk_lt hG3
      have HO3 := Lib.hid hO3
      have HG3 := Lib.hid hG3
      have HR3 := Lib.hid hR3
      have HH := Lib.hid hh
      clear bk hO3 hG3 hR3 hh HO2 HG2 HR2 hb2 hB2 hg2 c0 c1 c2 c3 c4 c5 CJ
      go_wp2_with (at_builtin; refine wpList_append_slT rfl (.tmp 65) (.tmp 70) 22 rfl (g + 1) 3 i0 (.int .i64 0) 8 Try.underlying22 hi hz0 hz1 hz2 rfl ao j cap _ rfl HO3.out ⟨h, 0, none⟩ 1 1 [.int .i64 y] rfl rfl ?b1 ?b2 ?b3 ?b4 hg3 ?_)
      case b1 =>
        intro q u hu
        cases q with
        | zero =>
          obtain rfl : Value.int .i64 y = u := by simpa using hu
          rw [show (⟨h, 0, none⟩ : Addr).add 0 = ⟨h, 0, none⟩ from rfl, cell_of_row _ _ _ _ _ _ HH.out]; rfl
        | succ q => simp at hu
      case b2 => intro u hu; simp at hu; subst hu; rfl
      case b3 => omega
      case b4 => omega
      intro ao5 cp5 W7 hown5 hgrow5
      have hbA := below_append (Below.refl (g + 1) X) hg3 (own_of_row HO3.out).1 hgrow5
      have hG5 := blk_below hbA (Nat.lt_succ_self g) HG3.out
      have hR5 := blk_below hbA (show B < g + 1 by omega) HR3.out
      have hb5 := hb3.trans (hbA.mono (show B ≤ g + 1 by omega))
      rw [HSN.out] at hown5
      obtain ⟨p1, p2, p3, fz, p5⟩ := ms_put hlt0 hG5 hR5 hb5 3 (.slice ao5 (j + 1) cp5) ⟨1, (partB (cutB d) 2 32), emB, susB (cutB d) (j + 1), emB, false⟩ (.slice ao5 (j + 1) cp5) rfl
      obtain ⟨c0, c1, c2, c3, c4, c5⟩ := ms_cells hG5
      obtain ⟨s0, s1, s2, s3, s4, s5⟩ := ms_cells p1
      dsimp only at c0 c1 c2 c3 c4 c5 s0 s1 s2 s3 s4 s5
      have PO := Lib.hid (orow_low (W' := W7.setCell ⟨g, 3, none⟩ (.slice ao5 (j + 1) cp5)) hown5 (fun k _ _ hk _ => heap_setCell_other _ _ _ _ (by simp; omega)))
      have P1' := Lib.hid p1
      have P2' := Lib.hid p2
      have P3' := Lib.hid p3
      clear p1 p2 p3 p5 hG5 hR5 hb5 hown5 hgrow5 hbA HO3 HG3 HR3 hb3 hg3 HH
      go_wp2_with fail
      go_roundw
      case rel => exact ⟨j + 1, ao5, cp5, by omega, by go_num, P2'.out, P1'.out, PO.out, P3'.out⟩
      case measure => simp [intOf]; omega
    · obtain rfl : j = N := by omega
      have hno : ¬ (2 * (j : Int) < x35 ∧ 2 * (j : Int) < 10) := fun h => absurd ((HNX.out j).2 h) (Nat.lt_irrefl j)
      have HM1 := HM0.out
      have hn5 : j ≤ 5 := hN5
      have HLN : Hid ((susB (cutB d) j).length = j) := Lib.hid (susB_length _ _)
      have HIN := Lib.hid (susB_in (cutB d) j)
      generalize susB (cutB d) j = l at *
      clear CU HNX HM0 hj hN5 hlt
      by_cases x1 : 2 * (j : Int) < x35
      case pos =>
        have dx1 : decide (2 * (j : Int) < x35) = true := decide_eq_true x1
        have nx2 : ¬ 2 * (j : Int) < 10 := fun h => hno ⟨x1, h⟩
        have dx2 : decide (2 * (j : Int) < 10) = false := decide_eq_false nx2
        clear hno
        go_wp2_with fail
        refine (CQ.out wr).mono ?_
        rintro e W7 ⟨rfl, bk⟩
        have HR3' := blk_below bk (blk_lt HR2.out) HR2.out
        have HG3' := blk_below bk (blk_lt HG2.out) HG2.out
        have hb3' := hb2.trans (bk.mono hB2)
        have HO3' := orow_below HO2.out bk
        have hg7 := Nat.lt_of_lt_of_le hg2 bk.size
        clear c0 c1 c2 c3 c4 c5
        obtain ⟨c0, c1, c2, c3, c4, c5⟩ := ms_cells HG3'
        dsimp only at c0 c1 c2 c3 c4 c5
        obtain ⟨p1, p2, p3, fz, p5⟩ := ms_put hlt0 HG3' HR3' hb3' 2 (.string (partB (cutB d) (z - 32) 32)) ⟨1, (partB (cutB d) 2 32), (partB (cutB d) (z - 32) 32), l, emB, false⟩ (.slice ao j cap) rfl
        obtain ⟨s0, s1, s2, s3, s4, s5⟩ := ms_cells p1
        dsimp only at s0 s1 s2 s3 s4 s5
        have P1 := Lib.hid p1
        have P2 := Lib.hid p2
        have P3 := Lib.hid p3
        have P5 := Lib.hid p5
        have P0 := Lib.hid (orow_low (W' := W7.setCell ⟨g, 2, none⟩ (.string (partB (cutB d) (z - 32) 32))) HO3' (fun k _ _ hk _ => heap_setCell_other _ _ _ _ (by simp; omega)))
        clear p1 p2 p3 p5 HR2 hb2 hB2 HG2 HR3' HG3' hb3' bk CQ HO2 HO3' hg2
        go_wp2_with fail
        generalize World.setCell _ _ _ = W8 at *
        have HR2 := P2
        have hb2 := P3.out
        have hB2 := P5.out
        have HG2 := P1
        clear c0 c1 c2 c3 c4 c5 s0 s1 s2 s3 s4 s5 fz P1 P2 P3 P5
        have HX2 := P0
        have HI2 : Hid (IntsAt W8 ao l) := Lib.hid (orow_ints HX2.out)
        have hM : seemH d = ⟨1, (partB (cutB d) 2 32), (partB (cutB d) (z - 32) 32), l, emB, false⟩ := HM1
        have hgB : B < g := hlt0
        clear P0 HM1
        have HFIN := dec_fin d h4 (by rw [hz]; exact h5) (by rw [hz]; exact h6)
        rw [hM] at HFIN
        have CE := Lib.hid (rencodeL 1 (partB (cutB d) 2 32) (partB (cutB d) (z - 32) 32) l emB false ao j cap W8 HLN.out (by omega) (by rw [part_size]; split <;> omega) (by rw [part_size]; split <;> omega) (by decide) HIN.out HI2.out)
        unfold encX encE at CE
        cases hq : okM ⟨1, (partB (cutB d) 2 32), (partB (cutB d) (z - 32) 32), l, emB, false⟩ with
        | false =>
          rw [hq, if_neg (by decide), if_neg (by decide)] at CE
          have he : decE d = 11 := by rw [HFIN, hq, if_neg (by simp)]
          have HV : Hid (decA d (decE d) none 0 = .returned (.tuple #[.agg zM, .string ⟨#[]⟩, .int .i64 11]) ∧ (decM d).su = []) := Lib.hid ⟨by rw [he]; exact dec_bad d 11 he (by decide), dec_none d (by rw [he]; decide)⟩
          have e1 : ((1 : Int) != 0) = true := by decide
          clear he hq HFIN hM
          refine CE.out.mono ?_
          rintro e W3 ⟨rfl, bk⟩
          have HR3 := Lib.hid (blk_below bk (blk_lt HR2.out) HR2.out)
          have HG3 := Lib.hid (blk_below bk (blk_lt HG2.out) HG2.out)
          have hb3 := hb2.trans (bk.mono hB2)
          have HI3 := Lib.hid (HI2.out.step bk)
          have hB3 := Nat.le_trans hB2 bk.size
          have HX3 := Lib.hid (orow_below HX2.out bk)
          clear HX2
          clear CE HR2 HG2 hb2 bk HI2 hB2
          go_wp2_with (with_reducible refine wpList_store_row rfl 31 _ _ rfl B zM rfl rfl 31 _ HR3.out sizeZ rfl oneZ ?_)
          (try simp only [Exit.inBlock, Exit.then]); exact bodyPost_ret (results_row_tmp2 (by rfl) _ _ B 31 _ (0, 0) _ rfl (setRow_heap _ _ _ _ _ _ HR3.out) Try.underlying31 rfl sizeZ) rfl ⟨⟨none, 0, by rw [HV.out.1]; rfl, by rw [HV.out.2]; exact IntsAt.nil _ _, by rw [HV.out.2]; exact Nat.le_refl 0⟩, by rw [HBB.out]; exact below_setRow hb3 (Nat.le_refl _) _⟩
        | true =>
          rw [hq, if_pos rfl, if_pos rfl] at CE
          have e1 : ((0 : Int) != 0) = false := by decide
          have hne := he_eq (encB ⟨1, (partB (cutB d) 2 32), (partB (cutB d) (z - 32) 32), l, emB, false⟩) (headB d)
          by_cases hh : encB ⟨1, (partB (cutB d) 2 32), (partB (cutB d) (z - 32) 32), l, emB, false⟩ = headB d
          case neg =>
            have he : decE d = 11 := by rw [HFIN, hq, if_neg (by simp [hh])]
            have HV : Hid (decA d (decE d) none 0 = .returned (.tuple #[.agg zM, .string ⟨#[]⟩, .int .i64 11]) ∧ (decM d).su = []) := Lib.hid ⟨by rw [he]; exact dec_bad d 11 he (by decide), dec_none d (by rw [he]; decide)⟩
            rw [decide_eq_false hh] at hne
            clear he hq HFIN hM hh
            generalize encB ⟨1, (partB (cutB d) 2 32), (partB (cutB d) (z - 32) 32), l, emB, false⟩ = ex at *
            refine CE.out.mono ?_
            rintro e W3 ⟨rfl, bk⟩
            have HR3 := Lib.hid (blk_below bk (blk_lt HR2.out) HR2.out)
            have HG3 := Lib.hid (blk_below bk (blk_lt HG2.out) HG2.out)
            have hb3 := hb2.trans (bk.mono hB2)
            have HI3 := Lib.hid (HI2.out.step bk)
            have hB3 := Nat.le_trans hB2 bk.size
            have HX3 := Lib.hid (orow_below HX2.out bk)
            clear HX2
            clear CE HR2 HG2 hb2 bk HI2 hB2
            go_wp2_with (with_reducible refine wpList_store_row rfl 31 _ _ rfl B zM rfl rfl 31 _ HR3.out sizeZ rfl oneZ ?_)
            (try simp only [Exit.inBlock, Exit.then]); exact bodyPost_ret (results_row_tmp2 (by rfl) _ _ B 31 _ (0, 0) _ rfl (setRow_heap _ _ _ _ _ _ HR3.out) Try.underlying31 rfl sizeZ) rfl ⟨⟨none, 0, by rw [HV.out.1]; rfl, by rw [HV.out.2]; exact IntsAt.nil _ _, by rw [HV.out.2]; exact Nat.le_refl 0⟩, by rw [HBB.out]; exact below_setRow hb3 (Nat.le_refl _) _⟩
          case pos =>
            have he : decE d = 0 := by rw [HFIN, hq, if_pos ⟨rfl, hh⟩]
            have HV := Lib.hid (fun ao c => dec_good d ⟨1, (partB (cutB d) 2 32), (partB (cutB d) (z - 32) 32), l, emB, false⟩ he hM ao c)
            have HS : Hid ((decM d).su = l) := Lib.hid (by rw [decM, if_pos he, hM])
            rw [decide_eq_true hh] at hne
            clear he hq HFIN hM hh
            generalize encB ⟨1, (partB (cutB d) 2 32), (partB (cutB d) (z - 32) 32), l, emB, false⟩ = ex at *
            refine CE.out.mono ?_
            rintro e W3 ⟨rfl, bk⟩
            have HR3 := Lib.hid (blk_below bk (blk_lt HR2.out) HR2.out)
            have HG3 := Lib.hid (blk_below bk (blk_lt HG2.out) HG2.out)
            have hb3 := hb2.trans (bk.mono hB2)
            have HI3 := Lib.hid (HI2.out.step bk)
            have hB3 := Nat.le_trans hB2 bk.size
            have HX3 := Lib.hid (orow_below HX2.out bk)
            clear HX2
            clear CE HR2 HG2 hb2 bk HI2 hB2
            go_wp2_with fail
            obtain ⟨ROW, hrow⟩ : ∃ r, r = msC ⟨1, (partB (cutB d) 2 32), (partB (cutB d) (z - 32) 32), l, emB, false⟩ (.slice ao j cap) := ⟨_, rfl⟩
            have HROW : Hid (ROW = msC ⟨1, (partB (cutB d) 2 32), (partB (cutB d) (z - 32) 32), l, emB, false⟩ (.slice ao j cap)) := Lib.hid hrow
            have HSZ : Hid ((Try.prog.info? 31).map (·.size) = some ROW.size ∧ ROW.all (·.oneCell') = true) := Lib.hid (by rw [hrow]; exact ⟨sizeMsg _ _, oneMsg _ _ _ _⟩)
            have hg3 := HG3.out
            rw [← hrow] at hg3
            clear hrow HG3
            refine wp_region_stored 5 148 [.val (.agg ROW) [(7, .pointer (some ⟨g, 0, none⟩))], .val (.string d) [(0, .string d)], .val (.int .i64 (z : Int)) [(5, .int .i64 (z : Int))], .val (.int .i64 (4 + (z : Int))) [(145, .int .i64 (z : Int))], .val (.string (restB d)) [(144, .string d), (146, .int .i64 (4 + (z : Int)))]]
              [(2, .pointer (some ⟨B, 0, none⟩)), (143, .agg ROW)]
              (fun w' => Below B w w' ∧ w'.heap[B]? = some (.cells zM 31) ∧ w'.heap[g]? = some (.cells ROW 31) ∧ w'.ownsRow (g + 1) 3 1 (.slice ao j cap) j (iCells l))
              (fun w' => Below B w w' ∧ w'.heap[B]? = some (.cells ROW 31) ∧ w'.heap[g]? = some (.cells ROW 31) ∧ w'.ownsRow (g + 1) 3 1 (.slice ao j cap) j (iCells l))
              _ rfl rfl (by kernel_rfl) rfl ?_ ?_ ?_ ?_ ?_ ?_ ?_ ?_
            · exact ⟨hb3.trans ⟨rfl, rfl, rfl, Nat.le_refl _, fun _ _ => rfl⟩, HR3.out, hg3, HX3.out⟩
            · rintro w1 w2 ⟨k1, k2, k3, k4⟩ hb
              exact ⟨k1.trans (hb.mono (Nat.le_of_lt (blk_lt k2))), blk_below hb (blk_lt k2) k2, blk_below hb (blk_lt k3) k3, orow_below k4 hb⟩
            · rintro w1 w2 ⟨k1, k2, k3, k4⟩ hb
              exact ⟨k1.trans (hb.mono (Nat.le_of_lt (blk_lt k2))), blk_below hb (blk_lt k2) k2, blk_below hb (blk_lt k3) k3, orow_below k4 hb⟩
            · simp only [List.take_succ_cons, List.take_zero, storedObl, HeadSpec.val, and_true]
              refine ⟨?_, ?_, ?_, ?_, ?_⟩
              · intro act w' hk h
                have e0 := h (7, .pointer (some ⟨g, 0, none⟩)) (by simp)
                have hk3 : w'.heap[g]? = some (.cells ROW 31) := by rcases hk with hk | hk <;> exact hk.2.2.1
                exact sQuiet_load_row 31 (.tmp 7) rfl g e0 31 _ (0, 0) _ hk3 Try.underlying31 rfl HSZ.out.1
              · intro act w' hk h
                have e0 := h (0, .string d) (by simp)
                simp only [Array.getD_eq_getD_getElem?] at e0
                simp [go_sem, e0, sQuiet]
              · intro act w' hk h
                have e0 := h (5, .int .i64 (z : Int)) (by simp)
                simp only [Array.getD_eq_getD_getElem?] at e0
                simp [go_sem, e0, sQuiet]
              · intro act w' hk h
                have e0 := h (145, .int .i64 (z : Int)) (by simp)
                simp only [Array.getD_eq_getD_getElem?] at e0
                simp [go_sem, e0, sQuiet, hw4]
              · intro act w' hk h
                have e0 := h (144, .string d) (by simp)
                have e1 := h (146, .int .i64 (4 + (z : Int))) (by simp)
                simp only [Array.getD_eq_getD_getElem?] at e0 e1
                simp [go_sem, e0, e1, sQuiet, g2, g3, q3]
            · rintro act w' ⟨k1, k2, k3, k4⟩ h
              have e0 : act.eval (.tmp 2) = .pointer (some ⟨B, 0, none⟩) := h (2, .pointer (some ⟨B, 0, none⟩)) (by simp)
              have e1 : act.eval (.tmp 143) = .agg ROW := h (143, .agg ROW) (by simp)
              refine ⟨w'.setRow B ROW, ?_, below_setRow k1 (Nat.le_refl _) _, setRow_heap _ _ _ _ _ _ k2, by rw [setRow_other _ _ _ _ (by omega)]; exact k3, orow_low k4 (fun k _ _ hk _ => setRow_other _ _ _ _ (by omega))⟩
              have hrun := run_storeVar_row (P := Try.prog) w' B 31 31 zM ROW k2 HSZ.out.1 (by rw [HROW.out]; rfl) HSZ.out.2
              unfold execOp
              simp only [e0, e1, Instr.storeAt, Instr.sureAddr, Sem.run_bind, Sem.run_pure, Result.andThen_ok, hrun]
            · simp [headReads, headPut, specV, HeadSpec.val, Act.put]
            · simp [headReads, headPut, specV, HeadSpec.val, Act.put]
            · rintro w' ⟨k1, k2, k3, k4⟩
              have HN := Lib.hid k2
              have HK4 := Lib.hid k4
              clear k2 k3 k4 HR3 hg3 hb3
              simp only [List.take_succ_cons, List.take_zero, List.drop_succ_cons, List.drop_zero, headPut, specV, HeadSpec.val, Act.put, List.setIfInBounds_toArray, List.set_cons_succ, List.set_cons_zero, List.getElem?_cons_succ, List.getElem?_cons_zero, Option.map_some, Option.getD_some]
              go_wp2_with fail
              exact bodyPost_ret (results_row_tmp2 (by rfl) _ _ B 31 _ (0, 0) _ rfl HN.out Try.underlying31 rfl HSZ.out.1) rfl ⟨⟨ao, cap, by rw [HV.out, HROW.out]; dsimp only; rw [HLN.out]; rfl, by rw [HS.out]; exact orow_ints HK4.out, by rw [HS.out]; exact (by rw [HLN.out]; exact orow_cap HK4.out)⟩, by rw [HBB.out]; exact k1⟩
      case neg =>
        have dx1 : decide (2 * (j : Int) < x35) = false := decide_eq_false x1
        clear hno
        go_wp2_with fail
        refine (CQ.out wr).mono ?_
        rintro e W7 ⟨rfl, bk⟩
        have HR3' := blk_below bk (blk_lt HR2.out) HR2.out
        have HG3' := blk_below bk (blk_lt HG2.out) HG2.out
        have hb3' := hb2.trans (bk.mono hB2)
        have HO3' := orow_below HO2.out bk
        have hg7 := Nat.lt_of_lt_of_le hg2 bk.size
        clear c0 c1 c2 c3 c4 c5
        obtain ⟨c0, c1, c2, c3, c4, c5⟩ := ms_cells HG3'
        dsimp only at c0 c1 c2 c3 c4 c5
        obtain ⟨p1, p2, p3, fz, p5⟩ := ms_put hlt0 HG3' HR3' hb3' 2 (.string (partB (cutB d) (z - 32) 32)) ⟨1, (partB (cutB d) 2 32), (partB (cutB d) (z - 32) 32), l, emB, false⟩ (.slice ao j cap) rfl
        obtain ⟨s0, s1, s2, s3, s4, s5⟩ := ms_cells p1
        dsimp only at s0 s1 s2 s3 s4 s5
        have P1 := Lib.hid p1
        have P2 := Lib.hid p2
        have P3 := Lib.hid p3
        have P5 := Lib.hid p5
        have P0 := Lib.hid (orow_low (W' := W7.setCell ⟨g, 2, none⟩ (.string (partB (cutB d) (z - 32) 32))) HO3' (fun k _ _ hk _ => heap_setCell_other _ _ _ _ (by simp; omega)))
        clear p1 p2 p3 p5 HR2 hb2 hB2 HG2 HR3' HG3' hb3' bk CQ HO2 HO3' hg2
        go_wp2_with fail
        generalize World.setCell _ _ _ = W8 at *
        have HR2 := P2
        have hb2 := P3.out
        have hB2 := P5.out
        have HG2 := P1
        clear c0 c1 c2 c3 c4 c5 s0 s1 s2 s3 s4 s5 fz P1 P2 P3 P5
        have HX2 := P0
        have HI2 : Hid (IntsAt W8 ao l) := Lib.hid (orow_ints HX2.out)
        have hM : seemH d = ⟨1, (partB (cutB d) 2 32), (partB (cutB d) (z - 32) 32), l, emB, false⟩ := HM1
        have hgB : B < g := hlt0
        clear P0 HM1
        have HFIN := dec_fin d h4 (by rw [hz]; exact h5) (by rw [hz]; exact h6)
        rw [hM] at HFIN
        have CE := Lib.hid (rencodeL 1 (partB (cutB d) 2 32) (partB (cutB d) (z - 32) 32) l emB false ao j cap W8 HLN.out (by omega) (by rw [part_size]; split <;> omega) (by rw [part_size]; split <;> omega) (by decide) HIN.out HI2.out)
        unfold encX encE at CE
        cases hq : okM ⟨1, (partB (cutB d) 2 32), (partB (cutB d) (z - 32) 32), l, emB, false⟩ with
        | false =>
          rw [hq, if_neg (by decide), if_neg (by decide)] at CE
          have he : decE d = 11 := by rw [HFIN, hq, if_neg (by simp)]
          have HV : Hid (decA d (decE d) none 0 = .returned (.tuple #[.agg zM, .string ⟨#[]⟩, .int .i64 11]) ∧ (decM d).su = []) := Lib.hid ⟨by rw [he]; exact dec_bad d 11 he (by decide), dec_none d (by rw [he]; decide)⟩
          have e1 : ((1 : Int) != 0) = true := by decide
          clear he hq HFIN hM
          refine CE.out.mono ?_
          rintro e W3 ⟨rfl, bk⟩
          have HR3 := Lib.hid (blk_below bk (blk_lt HR2.out) HR2.out)
          have HG3 := Lib.hid (blk_below bk (blk_lt HG2.out) HG2.out)
          have hb3 := hb2.trans (bk.mono hB2)
          have HI3 := Lib.hid (HI2.out.step bk)
          have hB3 := Nat.le_trans hB2 bk.size
          have HX3 := Lib.hid (orow_below HX2.out bk)
          clear HX2
          clear CE HR2 HG2 hb2 bk HI2 hB2
          go_wp2_with (with_reducible refine wpList_store_row rfl 31 _ _ rfl B zM rfl rfl 31 _ HR3.out sizeZ rfl oneZ ?_)
          (try simp only [Exit.inBlock, Exit.then]); exact bodyPost_ret (results_row_tmp2 (by rfl) _ _ B 31 _ (0, 0) _ rfl (setRow_heap _ _ _ _ _ _ HR3.out) Try.underlying31 rfl sizeZ) rfl ⟨⟨none, 0, by rw [HV.out.1]; rfl, by rw [HV.out.2]; exact IntsAt.nil _ _, by rw [HV.out.2]; exact Nat.le_refl 0⟩, by rw [HBB.out]; exact below_setRow hb3 (Nat.le_refl _) _⟩
        | true =>
          rw [hq, if_pos rfl, if_pos rfl] at CE
          have e1 : ((0 : Int) != 0) = false := by decide
          have hne := he_eq (encB ⟨1, (partB (cutB d) 2 32), (partB (cutB d) (z - 32) 32), l, emB, false⟩) (headB d)
          by_cases hh : encB ⟨1, (partB (cutB d) 2 32), (partB (cutB d) (z - 32) 32), l, emB, false⟩ = headB d
          case neg =>
            have he : decE d = 11 := by rw [HFIN, hq, if_neg (by simp [hh])]
            have HV : Hid (decA d (decE d) none 0 = .returned (.tuple #[.agg zM, .string ⟨#[]⟩, .int .i64 11]) ∧ (decM d).su = []) := Lib.hid ⟨by rw [he]; exact dec_bad d 11 he (by decide), dec_none d (by rw [he]; decide)⟩
            rw [decide_eq_false hh] at hne
            clear he hq HFIN hM hh
            generalize encB ⟨1, (partB (cutB d) 2 32), (partB (cutB d) (z - 32) 32), l, emB, false⟩ = ex at *
            refine CE.out.mono ?_
            rintro e W3 ⟨rfl, bk⟩
            have HR3 := Lib.hid (blk_below bk (blk_lt HR2.out) HR2.out)
            have HG3 := Lib.hid (blk_below bk (blk_lt HG2.out) HG2.out)
            have hb3 := hb2.trans (bk.mono hB2)
            have HI3 := Lib.hid (HI2.out.step bk)
            have hB3 := Nat.le_trans hB2 bk.size
            have HX3 := Lib.hid (orow_below HX2.out bk)
            clear HX2
            clear CE HR2 HG2 hb2 bk HI2 hB2
            go_wp2_with (with_reducible refine wpList_store_row rfl 31 _ _ rfl B zM rfl rfl 31 _ HR3.out sizeZ rfl oneZ ?_)
            (try simp only [Exit.inBlock, Exit.then]); exact bodyPost_ret (results_row_tmp2 (by rfl) _ _ B 31 _ (0, 0) _ rfl (setRow_heap _ _ _ _ _ _ HR3.out) Try.underlying31 rfl sizeZ) rfl ⟨⟨none, 0, by rw [HV.out.1]; rfl, by rw [HV.out.2]; exact IntsAt.nil _ _, by rw [HV.out.2]; exact Nat.le_refl 0⟩, by rw [HBB.out]; exact below_setRow hb3 (Nat.le_refl _) _⟩
          case pos =>
            have he : decE d = 0 := by rw [HFIN, hq, if_pos ⟨rfl, hh⟩]
            have HV := Lib.hid (fun ao c => dec_good d ⟨1, (partB (cutB d) 2 32), (partB (cutB d) (z - 32) 32), l, emB, false⟩ he hM ao c)
            have HS : Hid ((decM d).su = l) := Lib.hid (by rw [decM, if_pos he, hM])
            rw [decide_eq_true hh] at hne
            clear he hq HFIN hM hh
            generalize encB ⟨1, (partB (cutB d) 2 32), (partB (cutB d) (z - 32) 32), l, emB, false⟩ = ex at *
            refine CE.out.mono ?_
            rintro e W3 ⟨rfl, bk⟩
            have HR3 := Lib.hid (blk_below bk (blk_lt HR2.out) HR2.out)
            have HG3 := Lib.hid (blk_below bk (blk_lt HG2.out) HG2.out)
            have hb3 := hb2.trans (bk.mono hB2)
            have HI3 := Lib.hid (HI2.out.step bk)
            have hB3 := Nat.le_trans hB2 bk.size
            have HX3 := Lib.hid (orow_below HX2.out bk)
            clear HX2
            clear CE HR2 HG2 hb2 bk HI2 hB2
            go_wp2_with fail
            obtain ⟨ROW, hrow⟩ : ∃ r, r = msC ⟨1, (partB (cutB d) 2 32), (partB (cutB d) (z - 32) 32), l, emB, false⟩ (.slice ao j cap) := ⟨_, rfl⟩
            have HROW : Hid (ROW = msC ⟨1, (partB (cutB d) 2 32), (partB (cutB d) (z - 32) 32), l, emB, false⟩ (.slice ao j cap)) := Lib.hid hrow
            have HSZ : Hid ((Try.prog.info? 31).map (·.size) = some ROW.size ∧ ROW.all (·.oneCell') = true) := Lib.hid (by rw [hrow]; exact ⟨sizeMsg _ _, oneMsg _ _ _ _⟩)
            have hg3 := HG3.out
            rw [← hrow] at hg3
            clear hrow HG3
            refine wp_region_stored 5 148 [.val (.agg ROW) [(7, .pointer (some ⟨g, 0, none⟩))], .val (.string d) [(0, .string d)], .val (.int .i64 (z : Int)) [(5, .int .i64 (z : Int))], .val (.int .i64 (4 + (z : Int))) [(145, .int .i64 (z : Int))], .val (.string (restB d)) [(144, .string d), (146, .int .i64 (4 + (z : Int)))]]
              [(2, .pointer (some ⟨B, 0, none⟩)), (143, .agg ROW)]
              (fun w' => Below B w w' ∧ w'.heap[B]? = some (.cells zM 31) ∧ w'.heap[g]? = some (.cells ROW 31) ∧ w'.ownsRow (g + 1) 3 1 (.slice ao j cap) j (iCells l))
              (fun w' => Below B w w' ∧ w'.heap[B]? = some (.cells ROW 31) ∧ w'.heap[g]? = some (.cells ROW 31) ∧ w'.ownsRow (g + 1) 3 1 (.slice ao j cap) j (iCells l))
              _ rfl rfl (by kernel_rfl) rfl ?_ ?_ ?_ ?_ ?_ ?_ ?_ ?_
            · exact ⟨hb3.trans ⟨rfl, rfl, rfl, Nat.le_refl _, fun _ _ => rfl⟩, HR3.out, hg3, HX3.out⟩
            · rintro w1 w2 ⟨k1, k2, k3, k4⟩ hb
              exact ⟨k1.trans (hb.mono (Nat.le_of_lt (blk_lt k2))), blk_below hb (blk_lt k2) k2, blk_below hb (blk_lt k3) k3, orow_below k4 hb⟩
            · rintro w1 w2 ⟨k1, k2, k3, k4⟩ hb
              exact ⟨k1.trans (hb.mono (Nat.le_of_lt (blk_lt k2))), blk_below hb (blk_lt k2) k2, blk_below hb (blk_lt k3) k3, orow_below k4 hb⟩
            · simp only [List.take_succ_cons, List.take_zero, storedObl, HeadSpec.val, and_true]
              refine ⟨?_, ?_, ?_, ?_, ?_⟩
              · intro act w' hk h
                have e0 := h (7, .pointer (some ⟨g, 0, none⟩)) (by simp)
                have hk3 : w'.heap[g]? = some (.cells ROW 31) := by rcases hk with hk | hk <;> exact hk.2.2.1
                exact sQuiet_load_row 31 (.tmp 7) rfl g e0 31 _ (0, 0) _ hk3 Try.underlying31 rfl HSZ.out.1
              · intro act w' hk h
                have e0 := h (0, .string d) (by simp)
                simp only [Array.getD_eq_getD_getElem?] at e0
                simp [go_sem, e0, sQuiet]
              · intro act w' hk h
                have e0 := h (5, .int .i64 (z : Int)) (by simp)
                simp only [Array.getD_eq_getD_getElem?] at e0
                simp [go_sem, e0, sQuiet]
              · intro act w' hk h
                have e0 := h (145, .int .i64 (z : Int)) (by simp)
                simp only [Array.getD_eq_getD_getElem?] at e0
                simp [go_sem, e0, sQuiet, hw4]
              · intro act w' hk h
                have e0 := h (144, .string d) (by simp)
                have e1 := h (146, .int .i64 (4 + (z : Int))) (by simp)
                simp only [Array.getD_eq_getD_getElem?] at e0 e1
                simp [go_sem, e0, e1, sQuiet, g2, g3, q3]
            · rintro act w' ⟨k1, k2, k3, k4⟩ h
              have e0 : act.eval (.tmp 2) = .pointer (some ⟨B, 0, none⟩) := h (2, .pointer (some ⟨B, 0, none⟩)) (by simp)
              have e1 : act.eval (.tmp 143) = .agg ROW := h (143, .agg ROW) (by simp)
              refine ⟨w'.setRow B ROW, ?_, below_setRow k1 (Nat.le_refl _) _, setRow_heap _ _ _ _ _ _ k2, by rw [setRow_other _ _ _ _ (by omega)]; exact k3, orow_low k4 (fun k _ _ hk _ => setRow_other _ _ _ _ (by omega))⟩
              have hrun := run_storeVar_row (P := Try.prog) w' B 31 31 zM ROW k2 HSZ.out.1 (by rw [HROW.out]; rfl) HSZ.out.2
              unfold execOp
              simp only [e0, e1, Instr.storeAt, Instr.sureAddr, Sem.run_bind, Sem.run_pure, Result.andThen_ok, hrun]
            · simp [headReads, headPut, specV, HeadSpec.val, Act.put]
            · simp [headReads, headPut, specV, HeadSpec.val, Act.put]
            · rintro w' ⟨k1, k2, k3, k4⟩
              have HN := Lib.hid k2
              have HK4 := Lib.hid k4
              clear k2 k3 k4 HR3 hg3 hb3
              simp only [List.take_succ_cons, List.take_zero, List.drop_succ_cons, List.drop_zero, headPut, specV, HeadSpec.val, Act.put, List.setIfInBounds_toArray, List.set_cons_succ, List.set_cons_zero, List.getElem?_cons_succ, List.getElem?_cons_zero, Option.map_some, Option.getD_some]
              go_wp2_with fail
              exact bodyPost_ret (results_row_tmp2 (by rfl) _ _ B 31 _ (0, 0) _ rfl HN.out Try.underlying31 rfl HSZ.out.1) rfl ⟨⟨ao, cap, by rw [HV.out, HROW.out]; dsimp only; rw [HLN.out]; rfl, by rw [HS.out]; exact orow_ints HK4.out, by rw [HS.out]; exact (by rw [HLN.out]; exact orow_cap HK4.out)⟩, by rw [HBB.out]; exact k1⟩
end Go.Proofs.Ytjemikbnncfonaa
