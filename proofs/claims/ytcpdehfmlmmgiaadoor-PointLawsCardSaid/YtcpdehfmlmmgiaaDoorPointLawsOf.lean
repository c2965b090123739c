/- PointLaws, whatever the program's points are. -/
import Derived.Test.YtcpdehfmlmmgiaaDoorPtSmall
import Derived.Test.YtcpdehfmlmmgiaaDoorPart
namespace Go.Proofs.YtcpdehfmlmmgiaaDoor
open Go.RowKit Go.Sort
set_option maxRecDepth 100000
set_option linter.unusedSimpArgs false
set_option linter.unusedVariables false

def twoS (s t : ByteArray) : Array Value := #[.string s, .string t]
theorem infoS2 : (Tryd.prog.info? 49).map (fun i => (i.zero, i.size)) = some (some (.agg (twoS ⟨#[]⟩ ⟨#[]⟩)), 2) := by kernel_rfl
theorem build_two (s t : ByteArray) (w : World) : (Instr.build 49 #[(0, .string s), (1, .string t)]).run Tryd.prog w = .ok (.agg (twoS s t)) w := run_build w 49 _ _ (by kernel_rfl)
theorem wpList_build_two {ops : Array Oper} {rest : List Oper} {o : Oper} {a : Act} {w : World} {Q : Exit → Act → World → Prop} (hg : o.guard = none) (x y : Operand) (ho : o.op = .build 49 #[(0, x), (1, y)]) (s t : ByteArray) (h1 : a.eval x = .string s) (h2 : a.eval y = .string t)
    (h : wpList Tryd.prog ops Q rest (a.put o.dst (.agg (twoS s t))) w) : wpList Tryd.prog ops Q (o :: rest) a w :=
  wpList_plain hg fun _ hK => wp_built 49 #[(0, x), (1, y)] ho (twoS s t) (by
    have e : (#[(0, x), (1, y)] : Array (Nat × Operand)).map (fun (i, x) => (i, a.eval x)) = #[(0, a.eval x), (1, a.eval y)] := by simp
    rw [e, h1, h2]; exact build_two s t w) (hK _ _ h)
theorem twoS_one (s t : ByteArray) : (twoS s t).all (·.oneCell') = true := by simp [twoS, Value.oneCell']
theorem lay_size {row cs : Array Value} {off n : Nat} (hr : row.size = n) : (setMany row off cs.toList).size = n := by rw [setMany_size, hr]

set_option maxHeartbeats 16000000 in
theorem pointLaws_of {IsPt : Array Value → PtN → Prop} {zv zw : Array Value} (C : PtCalls IsPt zv 16) (hI2 : (Tryd.prog.info? 48).map (fun i => (i.zero, i.size)) = some (some (.agg zw), 32)) (hzw : zw.size = 32) (HA : ∀ W : World, PrmQ W → Calls Tryd.prog 15 #[] W fun e w' => e = .returned (.bool true) ∧ Below W.heap.size W w') (s t : ByteArray) (w : World) (hT : PrmQ w) :
    Calls Tryd.prog 6 #[.string s, .string t] w fun e w' => e = .returned (.bool true) ∧ Below w.heap.size w w' := by
  have HC := Lib.hid C
  have hzR := (zero_of_info hI2).1
  have hzS := (zero_of_info infoS2).1
  have hzP := (zero_of_info C.info).1
  have hgl := hT.lt
  have HAw := Lib.hid HA
  have HL0 := Lib.hid (blk_old (o := .cells (twoS ⟨#[]⟩ ⟨#[]⟩) 49) (blk_new w (.cells zw 48)))
  have HI0 := Lib.hid (blk_new2 w (.cells zw 48) (.cells (twoS ⟨#[]⟩ ⟨#[]⟩) 49))
  have hb0 := below_new2 w (.cells zw 48) (.cells (twoS ⟨#[]⟩ ⟨#[]⟩) 49)
  have HPa := hT.step hb0
  have hb := below_setRow hb0 (show w.heap.size ≤ w.heap.size + 1 by omega) (twoS s t)
  have HP := Lib.hid (HPa.below (below_setRow (Below.refl w.heap.size _) (show w.heap.size ≤ w.heap.size + 1 by omega) (twoS s t)) hgl)
  have HI := Lib.hid (setRow_heap _ (w.heap.size + 1) _ (twoS s t) _ _ HI0.out)
  have HL := Lib.hid (show (((w.alloc (.cells zw 48)).alloc (.cells (twoS ⟨#[]⟩ ⟨#[]⟩) 49)).setRow (w.heap.size + 1) (twoS s t)).heap[w.heap.size]? = some (.cells zw 48) from by rw [setRow_other _ _ _ _ (by omega)]; exact HL0.out)
  have S1 := Lib.hid (show (Tryd.prog.info? 49).map (·.size) = some (twoS s t).size from (zero_of_info infoS2).2)
  have O1 : Hid ((twoS ⟨#[]⟩ ⟨#[]⟩).size = (twoS s t).size) := Lib.hid rfl
  have N1 := Lib.hid (twoS_one s t)
  clear hT HA hb0 HPa HL0 C
  go_enter Tryd.func6, Tryd.ntmps6
  go_wp2_with (first
    | (with_reducible refine wpList_build_two rfl _ _ rfl s t rfl rfl ?_)
    | (with_reducible refine wpList_store_row rfl 49 _ _ rfl (w.heap.size + 1) (twoS s t) rfl rfl 49 _ HI0.out S1.out O1.out N1.out ?_))
  clear HI0 S1 O1 N1
  generalize (World.setRow (World.alloc (World.alloc _ _) _) _ _) = W0 at *
  generalize hBB : w.heap.size = B at *
  have HBB := Lib.hid hBB
  clear hBB
  go_loopw [7] (fun iv wr => ∃ i : Nat, i ≤ 2 ∧ iv = .int .i64 (i : Int) ∧ (∃ row, wr.heap[B]? = some (.cells row 48) ∧ row.size = 32 ∧ (0 < i → IsPt (row.extract 0 (0 + 16)) (lawP s)) ∧ (1 < i → IsPt (row.extract 16 (16 + 16)) (lawP t))) ∧ wr.heap[B + 1]? = some (.cells (twoS s t) 49) ∧ PrmQ wr ∧ Below B w wr) (fun iv _ => 2 - (intOf iv).toNat)
  case atStart => exact ⟨0, by omega, rfl, ⟨zw, HL.out, hzw, fun h => absurd h (by omega), fun h => absurd h (by omega)⟩, HI.out, HP.out, hb⟩
  case round =>
    clear HL HI HP hb
    obtain ⟨i, hi, rfl, ⟨row, hl, hrs, h0, h1⟩, hii, hp, hb⟩ := hrel
    have HL := Lib.hid hl; have HI := Lib.hid hii; have HP := Lib.hid hp; have HRS := Lib.hid hrs; have H0 := Lib.hid h0; have H1 := Lib.hid h1
    clear hl hii hp hrs h0 h1
    by_cases hlt : i < 2
    · rcases (show i = 0 ∨ i = 1 by omega) with rfl | rfl
      · clear H0 H1
        have hd : decide (((0 : Nat) : Int) < 2) = true := by decide
        have cc : wr.cell? ⟨B + 1, 0, none⟩ = some (.string s) := by rw [cell_of_row _ _ _ _ _ _ HI.out]; rfl
        have CO := Lib.hid (HC.out.of s)
        have CB := Lib.hid (fun cs W h hT => HC.out.bytes cs (ofPT s) W h hT)
        go_wp2_with fail
        refine (CO.out wr HP.out).mono ?_
        rintro e W1 ⟨⟨cs, rfl, hcs⟩, bk⟩
        have Hcs := Lib.hid hcs
        clear hcs cc
        replace hb := hb.trans (bk.mono (Nat.le_of_lt (blk_lt HL.out)))
        replace HP := Lib.hid (HP.out.step bk)
        replace HL := Lib.hid (blk_below bk (blk_lt HL.out) HL.out)
        replace HI := Lib.hid (blk_below bk (blk_lt HI.out) HI.out)
        clear bk
        have HN := Lib.hid (blk_new W1 (.cells zv 28))
        have bn := below_new W1 (.cells zv 28)
        have Scs := Lib.hid (HC.out.isz Hcs.out); have Ocs := Lib.hid (HC.out.zsz Hcs.out); have Ics := Lib.hid (HC.out.one _ _ Hcs.out)
        have Bcs := Lib.hid (setRow_heap _ W1.heap.size _ cs _ _ HN.out)
        have bk := below_setRow bn (Nat.le_refl _) cs
        have hlg := blk_lt HL.out
        have hig := blk_lt HI.out
        by_cases hE : ofET s = 0
        · have hne : (ofET s != 0) = false := by simp [hE]
          have hback := txt_back s hE
          have hlaw : ofPT s = lawP s := by rw [lawP, if_pos hE]
          generalize ofET s = q at *
          rw [hback] at CB
          rw [hlaw] at CB Hcs
          clear hE hback hlaw CO
          go_wp2_with (with_reducible refine wpList_store_row rfl 28 _ _ rfl W1.heap.size cs rfl rfl 28 _ HN.out Scs.out Ocs.out Ics.out ?_)
          replace hb := hb.trans (bk.mono (Nat.le_of_lt (blk_lt HL.out)))
          replace HP := Lib.hid (HP.out.step bk)
          replace HL := Lib.hid (blk_below bk (blk_lt HL.out) HL.out)
          replace HI := Lib.hid (blk_below bk (blk_lt HI.out) HI.out)
          clear bk
          generalize (World.setRow (World.alloc _ _) _ _) = V1 at *
          generalize W1.heap.size = g at *
          clear bn HN
          have ci : Hid (V1.cell? ⟨B + 1, 0, none⟩ = some (.string s)) := Lib.hid (by rw [cell_of_row _ _ _ _ _ _ HI.out]; rfl)
          have xx : (s.toList == s.toList) = true := by simp
          refine wp_region_told 5 74 [(Told.val (.agg cs), [8]), (Told.val (.string s), [32]), (Told.val (.int .i64 0), [7]), (Told.val (.pointer (some ⟨B + 1, 0, none⟩)), [6, 34]), (Told.val (.string s), [35])]
            (by kernel_rfl) (by kernel_rfl) rfl ?_ ?_
          · simp only [List.take_succ_cons, List.take_zero, toldObl, and_true]
            refine ⟨?_, ?_, ?_, ?_, ?_⟩
            · intro a w hb h
              have e0 : a.tmps.getD 8 undef = (.pointer (some ⟨g, 0, none⟩)) := h 8 (by simp)
              exact told_of_sQuiet (sQuiet_load_row 28 (.tmp 8) rfl g e0 28 _ (0, 0) _ (blk_below hb (blk_lt Bcs.out) Bcs.out) Tryd.underlying28 rfl Scs.out)
            · intro a w hb h
              have e0 : a.tmps.getD 32 undef = (.agg cs) := h 32 (by simp)
              simp only [Array.getD_eq_getD_getElem?] at e0
              simp [go_sem, e0, toldQuiet]
              exact valOf (CB.out cs w Hcs.out (HP.out.step hb))
            · intro a w hb h
              have e0 : a.tmps.getD 7 undef = (.int .i64 0) := h 7 (by simp)
              simp only [Array.getD_eq_getD_getElem?] at e0
              simp [go_sem, e0, toldQuiet, Told.val]
              exact Below.refl _ _
            · intro a w hb h
              have e0 : a.tmps.getD 6 undef = (.pointer (some ⟨B + 1, 0, none⟩)) := h 6 (by simp)
              have e1 : a.tmps.getD 34 undef = (.int .i64 0) := h 34 (by simp)
              simp only [Array.getD_eq_getD_getElem?] at e0 e1
              simp [go_sem, e0, e1, toldQuiet, Told.val]
              exact Below.refl _ _
            · intro a w hb h
              have e0 : a.tmps.getD 35 undef = (.pointer (some ⟨B + 1, 0, none⟩)) := h 35 (by simp)
              simp only [Array.getD_eq_getD_getElem?] at e0
              simp [go_sem, e0, toldQuiet, Told.val, (hb.cell (block_lt_of_cell ci.out)).trans ci.out]
              exact Below.refl _ _
          · simp only [List.take_succ_cons, List.take_zero, List.drop_succ_cons, List.drop_zero, toldEnd, Act.put, List.setIfInBounds_toArray, List.set_cons_succ, List.set_cons_zero]
            intro W20 bk v32 q32 v33 q33 v34 q34 v35 q35 v36 q36
            obtain rfl := q33.symm
            obtain rfl := q36.symm
            replace hb := hb.trans (bk.mono (Nat.le_of_lt (blk_lt HL.out)))
            replace HP := Lib.hid (HP.out.step bk)
            replace HL := Lib.hid (blk_below bk (blk_lt HL.out) HL.out)
            replace HI := Lib.hid (blk_below bk (blk_lt HI.out) HI.out)
            replace Bcs := Lib.hid (blk_below bk (blk_lt Bcs.out) Bcs.out)
            clear bk
            clear q32 q33 q34 q35 q36 ci CB
            have hcsz : cs.size = 16 := HC.out.size _ _ Hcs.out
            have HPt := Lib.hid (setRow_heap W20 B _ (setMany row 0 cs.toList) _ _ HL.out)
            have HIn := Lib.hid (show (W20.setRow B (setMany row 0 cs.toList)).heap[B + 1]? = some (.cells (twoS s t) 49) from by rw [setRow_other _ _ _ _ (by omega)]; exact HI.out)
            have HPn := Lib.hid (HP.out.below (below_setRow (Below.refl B W20) (Nat.le_refl _) (setMany row 0 cs.toList)) hgl)
            have hbn := below_setRow hb (Nat.le_refl _) (setMany row 0 cs.toList)
            have hfit : 0 + cs.size ≤ row.size := by rw [hcsz, HRS.out]; omega
            have hmine := setMany_part row cs 0 hfit
            rw [hcsz] at hmine
            have K1 : Hid ((setMany row 0 cs.toList).size = 32) := Lib.hid (lay_size HRS.out)
            have K2 : Hid (IsPt ((setMany row 0 cs.toList).extract 0 (0 + 16)) (lawP s)) := Lib.hid (by rw [hmine]; exact Hcs.out)
            have HW := Lib.hid hfit
            clear hfit hmine hcsz
            go_wp2_with (first
              | (with_reducible refine wpList_load_row rfl 28 _ rfl g rfl 28 _ (0, 0) _ Bcs.out Tryd.underlying28 rfl Scs.out ?_)
              | (with_reducible refine wpList_store_part rfl 28 _ _ rfl B 0 row cs rfl rfl 48 HL.out Scs.out HW.out Ics.out ?_))
            go_roundw
            case rel => exact ⟨1, by omega, by go_num, ⟨_, HPt.out, K1.out, fun _ => K2.out, fun h => absurd h (by omega)⟩, HIn.out, HPn.out, hbn⟩
            case measure => simp [intOf]
        · have hne : (ofET s != 0) = true := by simp; exact hE
          have hbad := ofPT_bad s hE
          have hlaw : baseP = lawP s := by rw [lawP, if_neg hE]
          generalize ofET s = q at *
          rw [hbad] at CB Hcs
          clear hE hbad CO
          have KL := Bcs
          go_wp2_with (first
            | (with_reducible refine wpList_store_row rfl 28 _ _ rfl W1.heap.size cs rfl rfl 28 _ HN.out Scs.out Ocs.out Ics.out ?_)
            | (with_reducible refine wpList_load_row rfl 28 _ rfl W1.heap.size rfl 28 _ (0, 0) _ KL.out Tryd.underlying28 rfl Scs.out ?_))
          clear KL
          replace hb := hb.trans (bk.mono (Nat.le_of_lt (blk_lt HL.out)))
          replace HP := Lib.hid (HP.out.step bk)
          replace HL := Lib.hid (blk_below bk (blk_lt HL.out) HL.out)
          replace HI := Lib.hid (blk_below bk (blk_lt HI.out) HI.out)
          clear bk
          generalize (World.setRow (World.alloc _ _) _ _) = V1 at *
          generalize W1.heap.size = g at *
          clear bn HN
          generalize txtP zeroP = tz at *
          have xz : (tz.toList == tz.toList) = true := by simp
          refine (CB.out cs V1 Hcs.out HP.out).mono ?_
          rintro e U1 ⟨rfl, bk⟩
          replace hb := hb.trans (bk.mono (Nat.le_of_lt (blk_lt HL.out)))
          replace HP := Lib.hid (HP.out.step bk)
          replace HL := Lib.hid (blk_below bk (blk_lt HL.out) HL.out)
          replace HI := Lib.hid (blk_below bk (blk_lt HI.out) HI.out)
          replace Bcs := Lib.hid (blk_below bk (blk_lt Bcs.out) Bcs.out)
          clear bk
          go_wp2_with fail
          refine (HC.out.zero U1 HP.out).mono ?_
          rintro e U2 ⟨⟨zs, rfl, hzs⟩, bk⟩
          have Hzs := Lib.hid hzs; clear hzs
          replace hb := hb.trans (bk.mono (Nat.le_of_lt (blk_lt HL.out)))
          replace HP := Lib.hid (HP.out.step bk)
          replace HL := Lib.hid (blk_below bk (blk_lt HL.out) HL.out)
          replace HI := Lib.hid (blk_below bk (blk_lt HI.out) HI.out)
          replace Bcs := Lib.hid (blk_below bk (blk_lt Bcs.out) Bcs.out)
          clear bk
          go_wp2_with fail
          refine (CB.out zs U2 Hzs.out HP.out).mono ?_
          rintro e U3 ⟨rfl, bk⟩
          replace hb := hb.trans (bk.mono (Nat.le_of_lt (blk_lt HL.out)))
          replace HP := Lib.hid (HP.out.step bk)
          replace HL := Lib.hid (blk_below bk (blk_lt HL.out) HL.out)
          replace HI := Lib.hid (blk_below bk (blk_lt HI.out) HI.out)
          replace Bcs := Lib.hid (blk_below bk (blk_lt Bcs.out) Bcs.out)
          clear bk
          go_wp2_with fail
          refine (HC.out.base U3 HP.out).mono ?_
          rintro e U4 ⟨⟨bs, rfl, hbs⟩, bk⟩
          have Hbs := Lib.hid hbs
          rw [hlaw] at Hbs
          clear hbs hlaw
          replace hb := hb.trans (bk.mono (Nat.le_of_lt (blk_lt HL.out)))
          replace HP := Lib.hid (HP.out.step bk)
          replace HL := Lib.hid (blk_below bk (blk_lt HL.out) HL.out)
          replace HI := Lib.hid (blk_below bk (blk_lt HI.out) HI.out)
          replace Bcs := Lib.hid (blk_below bk (blk_lt Bcs.out) Bcs.out)
          clear bk
          have Sbs := Lib.hid (HC.out.isz Hbs.out); have Obs := Lib.hid (HC.out.same Hcs.out Hbs.out); have Ibs := Lib.hid (HC.out.one _ _ Hbs.out)
          have Bbs := Lib.hid (setRow_heap _ g _ bs _ _ Bcs.out)
          have HL2 := Lib.hid (show (U4.setRow g bs).heap[B]? = some (.cells row 48) from by rw [setRow_other _ _ _ _ (by omega)]; exact HL.out)
          have HI2 := Lib.hid (show (U4.setRow g bs).heap[B + 1]? = some (.cells (twoS s t) 49) from by rw [setRow_other _ _ _ _ (by omega)]; exact HI.out)
          have HP2 := Lib.hid (HP.out.below (below_setRow (Below.refl B U4) (show B ≤ g by omega) bs) hgl)
          have hb2 := below_setRow hb (show B ≤ g by omega) bs
          have Bc0 := Bcs
          clear HL HI HP hb Bcs
          have HL := HL2; have HI := HI2; have HP := HP2; have hb := hb2
          clear HL2 HI2 HP2 hb2
          have hcsz : bs.size = 16 := HC.out.size _ _ Hbs.out
          have HPt := Lib.hid (setRow_heap (U4.setRow g bs) B _ (setMany row 0 bs.toList) _ _ HL.out)
          have HIn := Lib.hid (show ((U4.setRow g bs).setRow B (setMany row 0 bs.toList)).heap[B + 1]? = some (.cells (twoS s t) 49) from by rw [setRow_other _ _ _ _ (by omega)]; exact HI.out)
          have HPn := Lib.hid (HP.out.below (below_setRow (Below.refl B (U4.setRow g bs)) (Nat.le_refl _) (setMany row 0 bs.toList)) hgl)
          have hbn := below_setRow hb (Nat.le_refl _) (setMany row 0 bs.toList)
          have hfit : 0 + bs.size ≤ row.size := by rw [hcsz, HRS.out]; omega
          have hmine := setMany_part row bs 0 hfit
          rw [hcsz] at hmine
          have K1 : Hid ((setMany row 0 bs.toList).size = 32) := Lib.hid (lay_size HRS.out)
          have K2 : Hid (IsPt ((setMany row 0 bs.toList).extract 0 (0 + 16)) (lawP s)) := Lib.hid (by rw [hmine]; exact Hbs.out)
          have HW := Lib.hid hfit
          clear hfit hmine hcsz
          go_wp2_with (first
            | (with_reducible refine wpList_store_row rfl 28 _ _ rfl g bs rfl rfl 28 _ Bc0.out Sbs.out Obs.out Ibs.out ?_)
            | (with_reducible refine wpList_load_row rfl 28 _ rfl g rfl 28 _ (0, 0) _ Bbs.out Tryd.underlying28 rfl Sbs.out ?_)
            | (with_reducible refine wpList_store_part rfl 28 _ _ rfl B 0 row bs rfl rfl 48 HL.out Sbs.out HW.out Ibs.out ?_))
          go_roundw
          case rel => exact ⟨1, by omega, by go_num, ⟨_, HPt.out, K1.out, fun _ => K2.out, fun h => absurd h (by omega)⟩, HIn.out, HPn.out, hbn⟩
          case measure => simp [intOf]
      · clear H1
        have hd : decide (((1 : Nat) : Int) < 2) = true := by decide
        have cc : wr.cell? ⟨B + 1, 1, none⟩ = some (.string t) := by rw [cell_of_row _ _ _ _ _ _ HI.out]; rfl
        have CO := Lib.hid (HC.out.of t)
        have CB := Lib.hid (fun cs W h hT => HC.out.bytes cs (ofPT t) W h hT)
        go_wp2_with fail
        refine (CO.out wr HP.out).mono ?_
        rintro e W1 ⟨⟨cs, rfl, hcs⟩, bk⟩
        have Hcs := Lib.hid hcs
        clear hcs cc
        replace hb := hb.trans (bk.mono (Nat.le_of_lt (blk_lt HL.out)))
        replace HP := Lib.hid (HP.out.step bk)
        replace HL := Lib.hid (blk_below bk (blk_lt HL.out) HL.out)
        replace HI := Lib.hid (blk_below bk (blk_lt HI.out) HI.out)
        clear bk
        have HN := Lib.hid (blk_new W1 (.cells zv 28))
        have bn := below_new W1 (.cells zv 28)
        have Scs := Lib.hid (HC.out.isz Hcs.out); have Ocs := Lib.hid (HC.out.zsz Hcs.out); have Ics := Lib.hid (HC.out.one _ _ Hcs.out)
        have Bcs := Lib.hid (setRow_heap _ W1.heap.size _ cs _ _ HN.out)
        have bk := below_setRow bn (Nat.le_refl _) cs
        have hlg := blk_lt HL.out
        have hig := blk_lt HI.out
        by_cases hE : ofET t = 0
        · have hne : (ofET t != 0) = false := by simp [hE]
          have hback := txt_back t hE
          have hlaw : ofPT t = lawP t := by rw [lawP, if_pos hE]
          generalize ofET t = q at *
          rw [hback] at CB
          rw [hlaw] at CB Hcs
          clear hE hback hlaw CO
          go_wp2_with (with_reducible refine wpList_store_row rfl 28 _ _ rfl W1.heap.size cs rfl rfl 28 _ HN.out Scs.out Ocs.out Ics.out ?_)
          replace hb := hb.trans (bk.mono (Nat.le_of_lt (blk_lt HL.out)))
          replace HP := Lib.hid (HP.out.step bk)
          replace HL := Lib.hid (blk_below bk (blk_lt HL.out) HL.out)
          replace HI := Lib.hid (blk_below bk (blk_lt HI.out) HI.out)
          clear bk
          generalize (World.setRow (World.alloc _ _) _ _) = V1 at *
          generalize W1.heap.size = g at *
          clear bn HN
          have ci : Hid (V1.cell? ⟨B + 1, 1, none⟩ = some (.string t)) := Lib.hid (by rw [cell_of_row _ _ _ _ _ _ HI.out]; rfl)
          have xx : (t.toList == t.toList) = true := by simp
          refine wp_region_told 5 74 [(Told.val (.agg cs), [8]), (Told.val (.string t), [32]), (Told.val (.int .i64 1), [7]), (Told.val (.pointer (some ⟨B + 1, 1, none⟩)), [6, 34]), (Told.val (.string t), [35])]
            (by kernel_rfl) (by kernel_rfl) rfl ?_ ?_
          · simp only [List.take_succ_cons, List.take_zero, toldObl, and_true]
            refine ⟨?_, ?_, ?_, ?_, ?_⟩
            · intro a w hb h
              have e0 : a.tmps.getD 8 undef = (.pointer (some ⟨g, 0, none⟩)) := h 8 (by simp)
              exact told_of_sQuiet (sQuiet_load_row 28 (.tmp 8) rfl g e0 28 _ (0, 0) _ (blk_below hb (blk_lt Bcs.out) Bcs.out) Tryd.underlying28 rfl Scs.out)
            · intro a w hb h
              have e0 : a.tmps.getD 32 undef = (.agg cs) := h 32 (by simp)
              simp only [Array.getD_eq_getD_getElem?] at e0
              simp [go_sem, e0, toldQuiet]
              exact valOf (CB.out cs w Hcs.out (HP.out.step hb))
            · intro a w hb h
              have e0 : a.tmps.getD 7 undef = (.int .i64 1) := h 7 (by simp)
              simp only [Array.getD_eq_getD_getElem?] at e0
              simp [go_sem, e0, toldQuiet, Told.val]
              exact Below.refl _ _
            · intro a w hb h
              have e0 : a.tmps.getD 6 undef = (.pointer (some ⟨B + 1, 0, none⟩)) := h 6 (by simp)
              have e1 : a.tmps.getD 34 undef = (.int .i64 1) := h 34 (by simp)
              simp only [Array.getD_eq_getD_getElem?] at e0 e1
              simp [go_sem, e0, e1, toldQuiet, Told.val]
              exact Below.refl _ _
            · intro a w hb h
              have e0 : a.tmps.getD 35 undef = (.pointer (some ⟨B + 1, 1, none⟩)) := h 35 (by simp)
              simp only [Array.getD_eq_getD_getElem?] at e0
              simp [go_sem, e0, toldQuiet, Told.val, (hb.cell (block_lt_of_cell ci.out)).trans ci.out]
              exact Below.refl _ _
          · simp only [List.take_succ_cons, List.take_zero, List.drop_succ_cons, List.drop_zero, toldEnd, Act.put, List.setIfInBounds_toArray, List.set_cons_succ, List.set_cons_zero]
            intro W21 bk v32 q32 v33 q33 v34 q34 v35 q35 v36 q36
            obtain rfl := q33.symm
            obtain rfl := q36.symm
            replace hb := hb.trans (bk.mono (Nat.le_of_lt (blk_lt HL.out)))
            replace HP := Lib.hid (HP.out.step bk)
            replace HL := Lib.hid (blk_below bk (blk_lt HL.out) HL.out)
            replace HI := Lib.hid (blk_below bk (blk_lt HI.out) HI.out)
            replace Bcs := Lib.hid (blk_below bk (blk_lt Bcs.out) Bcs.out)
            clear bk
            clear q32 q33 q34 q35 q36 ci CB
            have hcsz : cs.size = 16 := HC.out.size _ _ Hcs.out
            have HPt := Lib.hid (setRow_heap W21 B _ (setMany row 16 cs.toList) _ _ HL.out)
            have HIn := Lib.hid (show (W21.setRow B (setMany row 16 cs.toList)).heap[B + 1]? = some (.cells (twoS s t) 49) from by rw [setRow_other _ _ _ _ (by omega)]; exact HI.out)
            have HPn := Lib.hid (HP.out.below (below_setRow (Below.refl B W21) (Nat.le_refl _) (setMany row 16 cs.toList)) hgl)
            have hbn := below_setRow hb (Nat.le_refl _) (setMany row 16 cs.toList)
            have hfit : 16 + cs.size ≤ row.size := by rw [hcsz, HRS.out]; omega
            have hmine := setMany_part row cs 16 hfit
            rw [hcsz] at hmine
            have hbes := setMany_beside row cs 16 0 (0 + 16) hfit (.inl (by omega))
            have hK0 := H0.out (by omega)
            rw [← hbes] at hK0
            have K1 : Hid ((setMany row 16 cs.toList).size = 32) := Lib.hid (lay_size HRS.out)
            have K2 := Lib.hid hK0
            have K3 : Hid (IsPt ((setMany row 16 cs.toList).extract 16 (16 + 16)) (lawP t)) := Lib.hid (by rw [hmine]; exact Hcs.out)
            have HW := Lib.hid hfit
            clear hfit hmine hcsz hbes hK0
            go_wp2_with (first
              | (with_reducible refine wpList_load_row rfl 28 _ rfl g rfl 28 _ (0, 0) _ Bcs.out Tryd.underlying28 rfl Scs.out ?_)
              | (with_reducible refine wpList_store_part rfl 28 _ _ rfl B 16 row cs rfl rfl 48 HL.out Scs.out HW.out Ics.out ?_))
            go_roundw
            case rel => exact ⟨2, by omega, by go_num, ⟨_, HPt.out, K1.out, fun _ => K2.out, fun _ => K3.out⟩, HIn.out, HPn.out, hbn⟩
            case measure => simp [intOf]
        · have hne : (ofET t != 0) = true := by simp; exact hE
          have hbad := ofPT_bad t hE
          have hlaw : baseP = lawP t := by rw [lawP, if_neg hE]
          generalize ofET t = q at *
          rw [hbad] at CB Hcs
          clear hE hbad CO
          have KL := Bcs
          go_wp2_with (first
            | (with_reducible refine wpList_store_row rfl 28 _ _ rfl W1.heap.size cs rfl rfl 28 _ HN.out Scs.out Ocs.out Ics.out ?_)
            | (with_reducible refine wpList_load_row rfl 28 _ rfl W1.heap.size rfl 28 _ (0, 0) _ KL.out Tryd.underlying28 rfl Scs.out ?_))
          clear KL
          replace hb := hb.trans (bk.mono (Nat.le_of_lt (blk_lt HL.out)))
          replace HP := Lib.hid (HP.out.step bk)
          replace HL := Lib.hid (blk_below bk (blk_lt HL.out) HL.out)
          replace HI := Lib.hid (blk_below bk (blk_lt HI.out) HI.out)
          clear bk
          generalize (World.setRow (World.alloc _ _) _ _) = V1 at *
          generalize W1.heap.size = g at *
          clear bn HN
          generalize txtP zeroP = tz at *
          have xz : (tz.toList == tz.toList) = true := by simp
          refine (CB.out cs V1 Hcs.out HP.out).mono ?_
          rintro e U1 ⟨rfl, bk⟩
          replace hb := hb.trans (bk.mono (Nat.le_of_lt (blk_lt HL.out)))
          replace HP := Lib.hid (HP.out.step bk)
          replace HL := Lib.hid (blk_below bk (blk_lt HL.out) HL.out)
          replace HI := Lib.hid (blk_below bk (blk_lt HI.out) HI.out)
          replace Bcs := Lib.hid (blk_below bk (blk_lt Bcs.out) Bcs.out)
          clear bk
          go_wp2_with fail
          refine (HC.out.zero U1 HP.out).mono ?_
          rintro e U2 ⟨⟨zs, rfl, hzs⟩, bk⟩
          have Hzs := Lib.hid hzs; clear hzs
          replace hb := hb.trans (bk.mono (Nat.le_of_lt (blk_lt HL.out)))
          replace HP := Lib.hid (HP.out.step bk)
          replace HL := Lib.hid (blk_below bk (blk_lt HL.out) HL.out)
          replace HI := Lib.hid (blk_below bk (blk_lt HI.out) HI.out)
          replace Bcs := Lib.hid (blk_below bk (blk_lt Bcs.out) Bcs.out)
          clear bk
          go_wp2_with fail
          refine (CB.out zs U2 Hzs.out HP.out).mono ?_
          rintro e U3 ⟨rfl, bk⟩
          replace hb := hb.trans (bk.mono (Nat.le_of_lt (blk_lt HL.out)))
          replace HP := Lib.hid (HP.out.step bk)
          replace HL := Lib.hid (blk_below bk (blk_lt HL.out) HL.out)
          replace HI := Lib.hid (blk_below bk (blk_lt HI.out) HI.out)
          replace Bcs := Lib.hid (blk_below bk (blk_lt Bcs.out) Bcs.out)
          clear bk
          go_wp2_with fail
          refine (HC.out.base U3 HP.out).mono ?_
          rintro e U4 ⟨⟨bs, rfl, hbs⟩, bk⟩
          have Hbs := Lib.hid hbs
          rw [hlaw] at Hbs
          clear hbs hlaw
          replace hb := hb.trans (bk.mono (Nat.le_of_lt (blk_lt HL.out)))
          replace HP := Lib.hid (HP.out.step bk)
          replace HL := Lib.hid (blk_below bk (blk_lt HL.out) HL.out)
          replace HI := Lib.hid (blk_below bk (blk_lt HI.out) HI.out)
          replace Bcs := Lib.hid (blk_below bk (blk_lt Bcs.out) Bcs.out)
          clear bk
          have Sbs := Lib.hid (HC.out.isz Hbs.out); have Obs := Lib.hid (HC.out.same Hcs.out Hbs.out); have Ibs := Lib.hid (HC.out.one _ _ Hbs.out)
          have Bbs := Lib.hid (setRow_heap _ g _ bs _ _ Bcs.out)
          have HL2 := Lib.hid (show (U4.setRow g bs).heap[B]? = some (.cells row 48) from by rw [setRow_other _ _ _ _ (by omega)]; exact HL.out)
          have HI2 := Lib.hid (show (U4.setRow g bs).heap[B + 1]? = some (.cells (twoS s t) 49) from by rw [setRow_other _ _ _ _ (by omega)]; exact HI.out)
          have HP2 := Lib.hid (HP.out.below (below_setRow (Below.refl B U4) (show B ≤ g by omega) bs) hgl)
          have hb2 := below_setRow hb (show B ≤ g by omega) bs
          have Bc0 := Bcs
          clear HL HI HP hb Bcs
          have HL := HL2; have HI := HI2; have HP := HP2; have hb := hb2
          clear HL2 HI2 HP2 hb2
          have hcsz : bs.size = 16 := HC.out.size _ _ Hbs.out
          have HPt := Lib.hid (setRow_heap (U4.setRow g bs) B _ (setMany row 16 bs.toList) _ _ HL.out)
          have HIn := Lib.hid (show ((U4.setRow g bs).setRow B (setMany row 16 bs.toList)).heap[B + 1]? = some (.cells (twoS s t) 49) from by rw [setRow_other _ _ _ _ (by omega)]; exact HI.out)
          have HPn := Lib.hid (HP.out.below (below_setRow (Below.refl B (U4.setRow g bs)) (Nat.le_refl _) (setMany row 16 bs.toList)) hgl)
          have hbn := below_setRow hb (Nat.le_refl _) (setMany row 16 bs.toList)
          have hfit : 16 + bs.size ≤ row.size := by rw [hcsz, HRS.out]; omega
          have hmine := setMany_part row bs 16 hfit
          rw [hcsz] at hmine
          have hbes := setMany_beside row bs 16 0 (0 + 16) hfit (.inl (by omega))
          have hK0 := H0.out (by omega)
          rw [← hbes] at hK0
          have K1 : Hid ((setMany row 16 bs.toList).size = 32) := Lib.hid (lay_size HRS.out)
          have K2 := Lib.hid hK0
          have K3 : Hid (IsPt ((setMany row 16 bs.toList).extract 16 (16 + 16)) (lawP t)) := Lib.hid (by rw [hmine]; exact Hbs.out)
          have HW := Lib.hid hfit
          clear hfit hmine hcsz hbes hK0
          go_wp2_with (first
            | (with_reducible refine wpList_store_row rfl 28 _ _ rfl g bs rfl rfl 28 _ Bc0.out Sbs.out Obs.out Ibs.out ?_)
            | (with_reducible refine wpList_load_row rfl 28 _ rfl g rfl 28 _ (0, 0) _ Bbs.out Tryd.underlying28 rfl Sbs.out ?_)
            | (with_reducible refine wpList_store_part rfl 28 _ _ rfl B 16 row bs rfl rfl 48 HL.out Sbs.out HW.out Ibs.out ?_))
          go_roundw
          case rel => exact ⟨2, by omega, by go_num, ⟨_, HPt.out, K1.out, fun _ => K2.out, fun _ => K3.out⟩, HIn.out, HPn.out, hbn⟩
          case measure => simp [intOf]
    · have hd : decide ((i : Int) < 2) = false := by simp; omega
      obtain rfl : i = 2 := by omega
      have ha := H0.out (by omega); have hc := H1.out (by omega)
      have pa := lawP_plain s
      have hz1 := plain_zero _ pa
      have hcm := sumP_comm (lawP t) (lawP s)
      have CA := Lib.hid (fun cs ds W h1 h2 hT => HC.out.add cs ds (lawP s) (lawP t) W h1 h2 hT)
      have CA2 := Lib.hid (fun cs ds W h1 h2 hT => HC.out.add cs ds (lawP t) (lawP s) W h1 h2 hT)
      rw [hcm] at CA2
      have CZ := Lib.hid (fun cs ds W h1 h2 hT => HC.out.add cs ds (lawP s) zeroP W h1 h2 hT)
      have CB1 := Lib.hid (fun cs W h hT => HC.out.bytes cs (sumP (lawP s) (lawP t)) W h hT)
      have CB2 := Lib.hid (fun cs W h hT => HC.out.bytes cs (sumP (lawP s) zeroP) W h hT)
      have CB3 := Lib.hid (fun cs W h hT => HC.out.bytes cs (lawP s) W h hT)
      have CB4 := Lib.hid (fun cs W h hT => HC.out.bytes cs zeroP W h hT)
      rw [hz1] at CB2
      rw [show txtP zeroP = smT 1 by rw [txtP, zero_bytes]; rfl] at CB4
      have CS := Lib.hid (fun W => small11_any 1 W (by decide))
      have CZr := Lib.hid (fun W hT => HC.out.zero W hT)
      generalize sumP (lawP s) (lawP t) = p1 at *
      generalize sumP (lawP s) zeroP = p2 at *
      generalize lawP s = ps at *
      generalize lawP t = pt at *
      generalize txtP p1 = t1 at *
      generalize txtP ps = t2 at *
      generalize smT 1 = t3 at *
      have x1 : (t1.toList == t1.toList) = true := by simp
      have x2 : (t2.toList == t2.toList) = true := by simp
      have x3 : (t3.toList == t3.toList) = true := by simp
      have Ha := Lib.hid ha; have Hc := Lib.hid hc
      obtain ⟨ra, hra⟩ : ∃ x, x = row.extract 0 (0 + 16) := ⟨_, rfl⟩
      obtain ⟨rc, hrc⟩ : ∃ x, x = row.extract 16 (16 + 16) := ⟨_, rfl⟩
      rw [← hra] at Ha
      rw [← hrc] at Hc
      have HRA := Lib.hid hra; have HRC := Lib.hid hrc
      have SI := Lib.hid (zero_of_info HC.out.info).2
      clear ha hc pa hz1 hcm H0 H1 hra hrc
      go_wp2_with fail
      refine wp_region_toldg 33 74 [(Told.val (.pointer (some ⟨B, 0, none⟩)), [5]),
    (Told.val (.agg ra), [41]),
    (Told.val (.pointer (some ⟨B, 16, none⟩)), [5]),
    (Told.val (.agg rc), [43]),
    (tIs IsPt p1, [42, 44]),
    (Told.val (.string t1), [45]),
    (Told.val (.pointer (some ⟨B, 16, none⟩)), [5]),
    (Told.val (.agg rc), [47]),
    (Told.val (.pointer (some ⟨B, 0, none⟩)), [5]),
    (Told.val (.agg ra), [49]),
    (tIs IsPt p1, [48, 50]),
    (Told.val (.string t1), [51]),
    (Told.val (.bool true), [46, 52]),
    (Told.val (.bool true), [53]),
    (Told.val (.pointer (some ⟨B, 0, none⟩)), [5]),
    (Told.val (.agg ra), [55]),
    (tIs IsPt zeroP, []),
    (tIs IsPt p2, [56, 57]),
    (Told.val (.string t2), [58]),
    (Told.val (.pointer (some ⟨B, 0, none⟩)), [5]),
    (Told.val (.agg ra), [60]),
    (Told.val (.string t2), [61]),
    (Told.val (.bool true), [59, 62]),
    (Told.val (.bool true), [54, 63]),
    (Told.val (.bool true), [64]),
    (tIs IsPt zeroP, []),
    (Told.val (.string t3), [66]),
    (Told.val (.string t3), []),
    (Told.val (.bool true), [67, 68]),
    (Told.val (.bool true), [65, 69]),
    (Told.val (.bool true), [70]),
    (Told.val (.bool true), []),
    (Told.val (.bool true), [71, 72])]
        (by kernel_rfl) (by kernel_rfl) rfl (by simp [toldGuards, Told.val]) ?_ ?_
      · simp only [List.take_succ_cons, List.take_zero, toldObl, and_true]
        refine ⟨?_, ?_, ?_, ?_, ?_, ?_, ?_, ?_, ?_, ?_, ?_, ?_, ?_, ?_, ?_, ?_, ?_, ?_, ?_, ?_, ?_, ?_, ?_, ?_, ?_, ?_, ?_, ?_, ?_, ?_, ?_, ?_, ?_⟩
        · intro a w hb h
          have e0 : a.tmps.getD 5 undef = (.pointer (some ⟨B, 0, none⟩)) := h 5 (by simp)
          simp only [Array.getD_eq_getD_getElem?] at e0
          simp [go_sem, e0, toldQuiet, Told.val]
          exact Below.refl _ _
        · intro a w hb h
          have e0 : a.tmps.getD 41 undef = (.pointer (some ⟨B, 0, none⟩)) := h 41 (by simp)
          exact (by rw [HRA.out]; exact told_load_part 28 (.tmp 41) rfl B 0 e0 48 row 16 (0, 0) _ (blk_below hb (blk_lt HL.out) HL.out) Tryd.underlying28 rfl SI.out (by rw [HRS.out]; omega))
        · intro a w hb h
          have e0 : a.tmps.getD 5 undef = (.pointer (some ⟨B, 0, none⟩)) := h 5 (by simp)
          simp only [Array.getD_eq_getD_getElem?] at e0
          simp [go_sem, e0, toldQuiet, Told.val]
          exact Below.refl _ _
        · intro a w hb h
          have e0 : a.tmps.getD 43 undef = (.pointer (some ⟨B, 16, none⟩)) := h 43 (by simp)
          exact (by rw [HRC.out]; exact told_load_part 28 (.tmp 43) rfl B 16 e0 48 row 16 (0, 0) _ (blk_below hb (blk_lt HL.out) HL.out) Tryd.underlying28 rfl SI.out (by rw [HRS.out]; omega))
        · intro a w hb h
          have e0 : a.tmps.getD 42 undef = (.agg ra) := h 42 (by simp)
          have e1 : a.tmps.getD 44 undef = (.agg rc) := h 44 (by simp)
          simp only [Array.getD_eq_getD_getElem?] at e0 e1
          simp [go_sem, e0, e1, toldQuiet]
          exact isOf (CA.out ra rc w Ha.out Hc.out (HP.out.step hb))
        · intro a w hb h
          obtain ⟨u0, e0, f0⟩ : ∃ cs, a.tmps.getD 45 undef = .agg cs ∧ IsPt cs p1 := h 45 (by simp)
          simp only [Array.getD_eq_getD_getElem?] at e0
          simp [go_sem, e0, toldQuiet]
          exact valOf (CB1.out u0 w f0 (HP.out.step hb))
        · intro a w hb h
          have e0 : a.tmps.getD 5 undef = (.pointer (some ⟨B, 0, none⟩)) := h 5 (by simp)
          simp only [Array.getD_eq_getD_getElem?] at e0
          simp [go_sem, e0, toldQuiet, Told.val]
          exact Below.refl _ _
        · intro a w hb h
          have e0 : a.tmps.getD 47 undef = (.pointer (some ⟨B, 16, none⟩)) := h 47 (by simp)
          exact (by rw [HRC.out]; exact told_load_part 28 (.tmp 47) rfl B 16 e0 48 row 16 (0, 0) _ (blk_below hb (blk_lt HL.out) HL.out) Tryd.underlying28 rfl SI.out (by rw [HRS.out]; omega))
        · intro a w hb h
          have e0 : a.tmps.getD 5 undef = (.pointer (some ⟨B, 0, none⟩)) := h 5 (by simp)
          simp only [Array.getD_eq_getD_getElem?] at e0
          simp [go_sem, e0, toldQuiet, Told.val]
          exact Below.refl _ _
        · intro a w hb h
          have e0 : a.tmps.getD 49 undef = (.pointer (some ⟨B, 0, none⟩)) := h 49 (by simp)
          exact (by rw [HRA.out]; exact told_load_part 28 (.tmp 49) rfl B 0 e0 48 row 16 (0, 0) _ (blk_below hb (blk_lt HL.out) HL.out) Tryd.underlying28 rfl SI.out (by rw [HRS.out]; omega))
        · intro a w hb h
          have e0 : a.tmps.getD 48 undef = (.agg rc) := h 48 (by simp)
          have e1 : a.tmps.getD 50 undef = (.agg ra) := h 50 (by simp)
          simp only [Array.getD_eq_getD_getElem?] at e0 e1
          simp [go_sem, e0, e1, toldQuiet]
          exact isOf (CA2.out rc ra w Hc.out Ha.out (HP.out.step hb))
        · intro a w hb h
          obtain ⟨u0, e0, f0⟩ : ∃ cs, a.tmps.getD 51 undef = .agg cs ∧ IsPt cs p1 := h 51 (by simp)
          simp only [Array.getD_eq_getD_getElem?] at e0
          simp [go_sem, e0, toldQuiet]
          exact valOf (CB1.out u0 w f0 (HP.out.step hb))
        · intro a w hb h
          have e0 : a.tmps.getD 46 undef = (.string t1) := h 46 (by simp)
          have e1 : a.tmps.getD 52 undef = (.string t1) := h 52 (by simp)
          simp only [Array.getD_eq_getD_getElem?] at e0 e1
          simp [go_sem, e0, e1, toldQuiet, Told.val, x1]
          exact Below.refl _ _
        · intro a w hb h
          have e0 : a.tmps.getD 53 undef = (.bool true) := h 53 (by simp)
          simp only [Array.getD_eq_getD_getElem?] at e0
          simp [go_sem, e0, toldQuiet, Told.val]
          exact Below.refl _ _
        · intro a w hb h
          have e0 : a.tmps.getD 5 undef = (.pointer (some ⟨B, 0, none⟩)) := h 5 (by simp)
          simp only [Array.getD_eq_getD_getElem?] at e0
          simp [go_sem, e0, toldQuiet, Told.val]
          exact Below.refl _ _
        · intro a w hb h
          have e0 : a.tmps.getD 55 undef = (.pointer (some ⟨B, 0, none⟩)) := h 55 (by simp)
          exact (by rw [HRA.out]; exact told_load_part 28 (.tmp 55) rfl B 0 e0 48 row 16 (0, 0) _ (blk_below hb (blk_lt HL.out) HL.out) Tryd.underlying28 rfl SI.out (by rw [HRS.out]; omega))
        · intro a w hb h
          simp [go_sem, toldQuiet]
          exact isOf (CZr.out w (HP.out.step hb))
        · intro a w hb h
          have e0 : a.tmps.getD 56 undef = (.agg ra) := h 56 (by simp)
          obtain ⟨u1, e1, f1⟩ : ∃ cs, a.tmps.getD 57 undef = .agg cs ∧ IsPt cs zeroP := h 57 (by simp)
          simp only [Array.getD_eq_getD_getElem?] at e0 e1
          simp [go_sem, e0, e1, toldQuiet]
          exact isOf (CZ.out ra u1 w Ha.out f1 (HP.out.step hb))
        · intro a w hb h
          obtain ⟨u0, e0, f0⟩ : ∃ cs, a.tmps.getD 58 undef = .agg cs ∧ IsPt cs p2 := h 58 (by simp)
          simp only [Array.getD_eq_getD_getElem?] at e0
          simp [go_sem, e0, toldQuiet]
          exact valOf (CB2.out u0 w f0 (HP.out.step hb))
        · intro a w hb h
          have e0 : a.tmps.getD 5 undef = (.pointer (some ⟨B, 0, none⟩)) := h 5 (by simp)
          simp only [Array.getD_eq_getD_getElem?] at e0
          simp [go_sem, e0, toldQuiet, Told.val]
          exact Below.refl _ _
        · intro a w hb h
          have e0 : a.tmps.getD 60 undef = (.pointer (some ⟨B, 0, none⟩)) := h 60 (by simp)
          exact (by rw [HRA.out]; exact told_load_part 28 (.tmp 60) rfl B 0 e0 48 row 16 (0, 0) _ (blk_below hb (blk_lt HL.out) HL.out) Tryd.underlying28 rfl SI.out (by rw [HRS.out]; omega))
        · intro a w hb h
          have e0 : a.tmps.getD 61 undef = (.agg ra) := h 61 (by simp)
          simp only [Array.getD_eq_getD_getElem?] at e0
          simp [go_sem, e0, toldQuiet]
          exact valOf (CB3.out ra w Ha.out (HP.out.step hb))
        · intro a w hb h
          have e0 : a.tmps.getD 59 undef = (.string t2) := h 59 (by simp)
          have e1 : a.tmps.getD 62 undef = (.string t2) := h 62 (by simp)
          simp only [Array.getD_eq_getD_getElem?] at e0 e1
          simp [go_sem, e0, e1, toldQuiet, Told.val, x2]
          exact Below.refl _ _
        · intro a w hb h
          have e0 : a.tmps.getD 54 undef = (.bool true) := h 54 (by simp)
          have e1 : a.tmps.getD 63 undef = (.bool true) := h 63 (by simp)
          simp only [Array.getD_eq_getD_getElem?] at e0 e1
          simp [go_sem, e0, e1, toldQuiet, Told.val]
          exact Below.refl _ _
        · intro a w hb h
          have e0 : a.tmps.getD 64 undef = (.bool true) := h 64 (by simp)
          simp only [Array.getD_eq_getD_getElem?] at e0
          simp [go_sem, e0, toldQuiet, Told.val]
          exact Below.refl _ _
        · intro a w hb h
          simp [go_sem, toldQuiet]
          exact isOf (CZr.out w (HP.out.step hb))
        · intro a w hb h
          obtain ⟨u0, e0, f0⟩ : ∃ cs, a.tmps.getD 66 undef = .agg cs ∧ IsPt cs zeroP := h 66 (by simp)
          simp only [Array.getD_eq_getD_getElem?] at e0
          simp [go_sem, e0, toldQuiet]
          exact valOf (CB4.out u0 w f0 (HP.out.step hb))
        · intro a w hb h
          simp [go_sem, toldQuiet]
          exact valOf (CS.out w)
        · intro a w hb h
          have e0 : a.tmps.getD 67 undef = (.string t3) := h 67 (by simp)
          have e1 : a.tmps.getD 68 undef = (.string t3) := h 68 (by simp)
          simp only [Array.getD_eq_getD_getElem?] at e0 e1
          simp [go_sem, e0, e1, toldQuiet, Told.val, x3]
          exact Below.refl _ _
        · intro a w hb h
          have e0 : a.tmps.getD 65 undef = (.bool true) := h 65 (by simp)
          have e1 : a.tmps.getD 69 undef = (.bool true) := h 69 (by simp)
          simp only [Array.getD_eq_getD_getElem?] at e0 e1
          simp [go_sem, e0, e1, toldQuiet, Told.val]
          exact Below.refl _ _
        · intro a w hb h
          have e0 : a.tmps.getD 70 undef = (.bool true) := h 70 (by simp)
          simp only [Array.getD_eq_getD_getElem?] at e0
          simp [go_sem, e0, toldQuiet, Told.val]
          exact Below.refl _ _
        · intro a w hb h
          simp [go_sem, toldQuiet]
          exact valOf (HAw.out w (HP.out.step hb))
        · intro a w hb h
          have e0 : a.tmps.getD 71 undef = (.bool true) := h 71 (by simp)
          have e1 : a.tmps.getD 72 undef = (.bool true) := h 72 (by simp)
          simp only [Array.getD_eq_getD_getElem?] at e0 e1
          simp [go_sem, e0, e1, toldQuiet, Told.val]
          exact Below.refl _ _
      · simp only [List.take_succ_cons, List.take_zero, List.drop_succ_cons, List.drop_zero, toldEnd, Act.put, List.setIfInBounds_toArray, List.set_cons_succ, List.set_cons_zero]
        intro W40 bk v41 q41 v42 q42 v43 q43 v44 q44 v45 q45 v46 q46 v47 q47 v48 q48 v49 q49 v50 q50 v51 q51 v52 q52 v53 q53 v54 q54 v55 q55 v56 q56 v57 q57 v58 q58 v59 q59 v60 q60 v61 q61 v62 q62 v63 q63 v64 q64 v65 q65 v66 q66 v67 q67 v68 q68 v69 q69 v70 q70 v71 q71 v72 q72 v73 q73
        obtain rfl := q73.symm
        clear q41 q42 q43 q44 q45 q46 q47 q48 q49 q50 q51 q52 q53 q54 q55 q56 q57 q58 q59 q60 q61 q62 q63 q64 q65 q66 q67 q68 q69 q70 q71 q72 q73
        go_wp2_with fail
        go_ret
        exact ⟨rfl, by rw [HBB.out]; exact hb.trans (bk.mono (Nat.le_of_lt (blk_lt HL.out)))⟩
end Go.Proofs.YtcpdehfmlmmgiaaDoor
