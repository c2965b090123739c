/- RecordSeals: what a box that seals, and one that opens, answer, call by call: what the program's boxes answer is what the reference's answer, and so are their counts. Any suite, key and iv, any list of calls (20 of them are made; a call of more than 2000 bytes, or of 2001 to 19999 noughts, ends it); the tables are as their texts lay them. -/
import Derived.Test.YtffnafikegakcaaGreatDoorCards
import Derived.Test.YtffnafikegakcaaGreatDoorTie
import Derived.SevenTiedAt
import Derived.Carry
import Derived.Test.YtffnafikegakcaaGreatDoorRbOps
import Derived.Deep.CutRange
namespace Go.Proofs.YtffnafikegakcaaGreatDoor
open Go.ChangeShapes Go.WideShapes Go.ChangeAt Go.WideMaps Go.WideElems Go.RowKit
open Go.ChangeMaps (open_string shut_string)
set_option maxRecDepth 100000
set_option linter.unusedSimpArgs false
set_option linter.unusedVariables false

set_option maxHeartbeats 32000000 in
theorem recordSeals_any (w : World) (su : Int) (ky iv : ByteArray) (wsu : (Lit.int .i64 su).wf = true) (wky : ky.size ≤ maxLen) (wiv : iv.size ≤ maxLen) (a1 : Option Addr) (n1 c1 : Nat) (os : List OpV) (hl1 : os.length = n1) (hI1 : OsAt w a1 os) (hm1 : n1 ≤ maxLen) (hT : TabQ w) :
    Calls Tryz.prog 3 #[.agg #[.int .i64 su, .string ky, .string iv], .slice a1 n1 c1] w fun e w' => e = .returned (.bool true) ∧ Below w.heap.size w w' := by
  have HB0 := Lib.hid (below_new w (.cells (kyC su ky iv) 23))
  have HG0 := Lib.hid (blk_new w (.cells (kyC su ky iv) 23))
  obtain ⟨c0, c1', c2⟩ := ky_cells HG0.out
  have HT := Lib.hid hT
  have HO := Lib.hid hI1
  have HL1 := Lib.hid hl1
  have hmi : (n1 : Int) ≤ 9223372036854775807 := by unfold maxLen at hm1; omega
  rw [show (#[.int .i64 su, .string ky, .string iv] : Array Value) = kyC su ky iv from rfl]
  clear wsu wky wiv hT hI1 hl1 hm1
  by_cases hn : newE su ky iv = 0
  case neg =>
    have CN := Lib.hid (fun W => newBoxBad_any su ky iv W hn)
    have CR := Lib.hid (fun W => rnewBoxBad_any su ky iv W hn)
    generalize newE su ky iv = er at *
    clear hn
    go_enter Tryz.func3, Tryz.ntmps3
    go_wp2_with fail
    refine (CN.out _).mono ?_
    rintro e W ⟨rfl, rfl⟩
    go_wp2_with fail
    refine (CN.out _).mono ?_
    rintro e W ⟨rfl, rfl⟩
    go_wp2_with fail
    refine (CR.out _).mono ?_
    rintro e W ⟨rfl, rfl⟩
    go_wp2_with fail
    refine (CR.out _).mono ?_
    rintro e W ⟨rfl, rfl⟩
    go_wp2_with fail
    refine (rcawake_any _).mono ?_
    rintro e W1 ⟨rfl, hb1⟩
    go_wp2_with fail
    go_ret
    exact ⟨rfl, HB0.out.trans (hb1.mono HB0.out.size)⟩
  have CN := Lib.hid (fun W => newBox_any su ky iv W hn)
  have CR := Lib.hid (fun W => rnewBox_any su ky iv W hn)
  have HOK := Lib.hid (new_ok su ky iv hn)
  obtain ⟨s0, hs, hs0, hs1, hs2⟩ := info_parts info_string
  have HIo : Hid ((Tryz.prog.info? 35).map (·.size) = some 6) := Lib.hid (by kernel_rfl)
  clear hn
  go_enter Tryz.func3, Tryz.ntmps3
  go_wp2_with fail
  generalize (w.alloc _) = W0 at *
  refine (CN.out W0).mono ?_
  rintro e W1 ⟨ba, rfl, hlo1, hx1, hb1⟩
  have HB1 := Lib.hid (HB0.out.trans (hb1.mono HB0.out.size))
  have HLO1 := Lib.hid (Nat.le_trans HB0.out.size hlo1)
  have HX0_1 := Lib.hid hx1
  have HG1 := Lib.hid (blk_below hb1 (blk_lt HG0.out) HG0.out)
  clear c0 c1' c2 hlo1 hx1 hb1 HG0
  obtain ⟨c0, c1', c2⟩ := ky_cells HG1.out
  go_wp2_with fail
  refine (CN.out W1).mono ?_
  rintro e W2 ⟨bb, rfl, hlo2, hx2, hb2⟩
  have HB2 := Lib.hid (HB1.out.trans (hb2.mono HB1.out.size))
  have HLO2 := Lib.hid (Nat.le_trans HB1.out.size hlo2)
  have HX1_2 := Lib.hid hx2
  have HX0_2 := Lib.hid (HX0_1.out.below hb2)
  have NE01 : Hid (ba ≠ bb) := Lib.hid (by have := blk_lt HX0_1.out; omega)
  have HG2 := Lib.hid (blk_below hb2 (blk_lt HG1.out) HG1.out)
  clear c0 c1' c2 hlo2 hx2 hb2 HG1
  obtain ⟨c0, c1', c2⟩ := ky_cells HG2.out
  go_wp2_with fail
  refine (CR.out W2).mono ?_
  rintro e W3 ⟨bc, rfl, hlo3, hx3, hb3⟩
  have HB3 := Lib.hid (HB2.out.trans (hb3.mono HB2.out.size))
  have HLO3 := Lib.hid (Nat.le_trans HB2.out.size hlo3)
  have HX2_3 := Lib.hid hx3
  have HX0_3 := Lib.hid (HX0_2.out.below hb3)
  have HX1_3 := Lib.hid (HX1_2.out.below hb3)
  have NE02 : Hid (ba ≠ bc) := Lib.hid (by have := blk_lt HX0_2.out; omega)
  have NE12 : Hid (bb ≠ bc) := Lib.hid (by have := blk_lt HX1_2.out; omega)
  have HG3 := Lib.hid (blk_below hb3 (blk_lt HG2.out) HG2.out)
  clear c0 c1' c2 hlo3 hx3 hb3 HG2
  obtain ⟨c0, c1', c2⟩ := ky_cells HG3.out
  go_wp2_with fail
  refine (CR.out W3).mono ?_
  rintro e W4 ⟨bd, rfl, hlo4, hx4, hb4⟩
  have HB4 := Lib.hid (HB3.out.trans (hb4.mono HB3.out.size))
  have HLO4 := Lib.hid (Nat.le_trans HB3.out.size hlo4)
  have HX3_4 := Lib.hid hx4
  have HX0_4 := Lib.hid (HX0_3.out.below hb4)
  have HX1_4 := Lib.hid (HX1_3.out.below hb4)
  have HX2_4 := Lib.hid (HX2_3.out.below hb4)
  have NE03 : Hid (ba ≠ bd) := Lib.hid (by have := blk_lt HX0_3.out; omega)
  have NE13 : Hid (bb ≠ bd) := Lib.hid (by have := blk_lt HX1_3.out; omega)
  have NE23 : Hid (bc ≠ bd) := Lib.hid (by have := blk_lt HX2_3.out; omega)
  clear c0 c1' c2 hlo4 hx4 hb4 HG3
  obtain ⟨base, hbase⟩ : ∃ base, base = W4.heap.size := ⟨_, rfl⟩
  have HI0 : Hid (SxI w W4 base ba bb bc bd ⟨su, ky, iv, 0⟩ ⟨su, ky, iv, 0⟩ (.slice none 0 0) []) := Lib.hid
    ⟨HX0_4.out, HX1_4.out, HX2_4.out, HX3_4.out, HOK.out, HOK.out, Own.nil _ _, fun t ht => absurd ht (by simp), HB4.out, ⟨NE01.out, NE02.out, NE03.out, NE12.out, NE13.out, NE23.out⟩,
      by rw [hbase]; exact ⟨blk_lt HX0_4.out, blk_lt HX1_4.out, blk_lt HX2_4.out, blk_lt HX3_4.out⟩, ⟨HLO1.out, HLO2.out, HLO3.out, HLO4.out⟩, by rw [hbase]; exact Nat.le_refl _⟩
  clear hbase HX0_1 HX0_2 HX0_3 HX0_4 HX1_2 HX1_3 HX1_4 HX2_3 HX2_4 HX3_4 NE01 NE02 NE03 NE12 NE13 NE23 HLO1 HLO2 HLO3 HLO4 HB0 HB1 HB2 HB3 HB4 CN CR HOK
  go_wp2_with fail
  go_loopw [13, 14] (fun vv iv2 wr => ∃ (k n : Nat) (ao : Option Addr) (cp : Nat) (txs : List ByteArray) (sA sB : BSt), k ≤ n1 ∧ k ≤ 20 ∧ n ≤ k ∧ vv = .slice ao n cp ∧ iv2 = .int .i64 (k : Int) ∧ txs.length = n ∧ SxI w wr base ba bb bc bd sA sB (.slice ao n cp) txs) (fun _ iv2 _ => n1 - (intOf iv2).toNat)
  case atStart => exact ⟨0, 0, none, 0, [], _, _, Nat.zero_le _, Nat.zero_le _, Nat.le_refl _, rfl, rfl, rfl, HI0.out⟩
  case round =>
    obtain ⟨k, n, ao, cp, txs, sA, sB, hkn, hk20, hnk, rfl, rfl, hln, hI⟩ := hrel
    have HI := Lib.hid hI
    have HLN := Lib.hid hln
    clear hI hln HI0
    by_cases hend : k < n1 ∧ k < 20
    case neg =>
      by_cases hlt : k < n1
      · have dl : decide ((k : Int) < (n1 : Int)) = true := decide_eq_true (by omega)
        have d2 : decide ((k : Int) < 20) = false := decide_eq_false (by omega)
        go_wp2_with fail
        refine (rcawake_any _).mono ?_
        rintro e W5 ⟨rfl, hb5⟩
        go_wp2_with fail
        go_ret
        exact ⟨rfl, HI.out.bel.trans (hb5.mono HI.out.bel.size)⟩
      · have dl : decide ((k : Int) < (n1 : Int)) = false := decide_eq_false (by omega)
        go_wp2_with fail
        refine (rcawake_any _).mono ?_
        rintro e W5 ⟨rfl, hb5⟩
        go_wp2_with fail
        go_ret
        exact ⟨rfl, HI.out.bel.trans (hb5.mono HI.out.bel.size)⟩
    obtain ⟨hlt, h20⟩ := hend
    have dl : decide ((k : Int) < (n1 : Int)) = true := decide_eq_true (by omega)
    have d2 : decide ((k : Int) < 20) = true := decide_eq_true (by omega)
    have hltI : (k : Int) < (n1 : Int) := by omega
    obtain ⟨hw, g, off, rfl, hc⟩ := HO.out k (by rw [HL1.out]; exact hlt)
    generalize os.getD k opZ = o at *
    have HW := Lib.hid hw
    obtain ⟨op, ag, kd, dt, pd, nn⟩ := o
    have hcc : ∀ f v, (opC ⟨op, ag, kd, dt, pd, nn⟩).toList[f]? = some v → wr.cell? ⟨g, off + k * 6 + f, none⟩ = some v := fun f v hv => cell_since HI.out.bel (hc f v hv)
    have r0 := hcc 0 _ rfl; have r1 := hcc 1 _ rfl; have r2 := hcc 2 _ rfl; have r3 := hcc 3 _ rfl; have r4 := hcc 4 _ rfl; have r5 := hcc 5 _ rfl
    rw [Nat.add_zero] at r0
    clear hw hc hcc
    have HG5 : Hid ((wr.alloc (.cells #[.bool op, .bool ag, .int .i64 kd, .string dt, .int .i64 pd, .int .i64 nn] 35)).heap[wr.heap.size]? = some (.cells (opC ⟨op, ag, kd, dt, pd, nn⟩) 35)) := Lib.hid (blk_new wr _)
    have HI5 := Lib.hid (HI.out.j.step (below_new wr (.cells #[.bool op, .bool ag, .int .i64 kd, .string dt, .int .i64 pd, .int .i64 nn] 35)))
    have HBX := Lib.hid HI.out.hw
    obtain ⟨bx, hbx⟩ : ∃ bx, bx = wr.heap.size := ⟨_, rfl⟩
    have HBE := Lib.hid hbx
    rw [← hbx] at HG5 HBX
    clear hbx
    have HDT : Hid (dt.size ≤ maxLen) := Lib.hid HW.out.dt
    have hnn := HW.out.nn
    obtain ⟨bd1, hbd1⟩ : ∃ bd1 : Bool, bd1 = (decide (2000 < dt.size) || (decide (2000 < pd) && decide (pd < 20000))) := ⟨_, rfl⟩
    have HD1 := Lib.hid hbd1
    clear hbd1
    go_upto_region 14 with fail
    go_cut [118] from 91 to 230 (fun c wx => c = .bool bd1 ∧ wx = wr.alloc (.cells #[.bool op, .bool ag, .int .i64 kd, .string dt, .int .i64 pd, .int .i64 nn] 35))
    case first =>
      by_cases hbig : 2000 < dt.size
      · have d3 : decide ((2000 : Int) < (dt.size : Int)) = true := decide_eq_true (by omega)
        have hD : bd1 = true := by rw [HD1.out, decide_eq_true hbig, Bool.true_or]
        go_wp2_with fail
        go_meet
        exact ⟨by rw [hD], rfl⟩
      have d3 : decide ((2000 : Int) < (dt.size : Int)) = false := decide_eq_false (by omega)
      by_cases hp : 2000 < pd
      · have d4 : decide (2000 < pd) = true := decide_eq_true hp
        have hD : bd1 = decide (pd < 20000) := by rw [HD1.out, decide_eq_false hbig, d4, Bool.false_or, Bool.true_and]
        clear hbig hp
        go_wp2_with fail
        go_meet
        exact ⟨by rw [hD], rfl⟩
      · have d4 : decide (2000 < pd) = false := decide_eq_false hp
        have hD : bd1 = false := by rw [HD1.out, decide_eq_false hbig, d4, Bool.false_or, Bool.false_and]
        clear hbig hp
        go_wp2_with fail
        go_meet
        exact ⟨by rw [hD], rfl⟩
    case rest =>
    obtain ⟨rfl, rfl⟩ := hcut
    clear HD1 r0 r1 r2 r3 r4 r5
    cases bd1 with
    | true =>
      go_wp2_with fail
      refine (rcawake_any _).mono ?_
      rintro e W6 ⟨rfl, hb6⟩
      go_wp2_with fail
      go_ret
      exact ⟨rfl, HI5.out.bel.trans (hb6.mono HI5.out.bel.size)⟩
    | false =>
    obtain ⟨bs, hbs⟩ : ∃ bs : Bool, bs = (!op && !ag) := ⟨_, rfl⟩
    have HBS := Lib.hid hbs
    clear hbs
    go_upto_region 16 with fail
    go_cut [127] from 91 to 230 (fun c wx => c = .bool bs ∧ wx = wr.alloc (.cells #[.bool op, .bool ag, .int .i64 kd, .string dt, .int .i64 pd, .int .i64 nn] 35))
    case first =>
      have hB := HBS.out
      cases op
      all_goals (go_wp2_with fail; go_meet; exact ⟨by rw [hB]; cases ag <;> rfl, rfl⟩)
    case rest =>
    obtain ⟨rfl, rfl⟩ := hcut
    go_upto_if 127 with fail
    go_cut [13] from 91 to 230 (fun vv wx => ∃ (n' : Nat) (ao' : Option Addr) (cp' : Nat) (txs' : List ByteArray) (s1 s2 : BSt), n' ≤ k + 1 ∧ vv = .slice ao' n' cp' ∧ txs'.length = n' ∧ SxI w wx base ba bb bc bd s1 s2 (.slice ao' n' cp') txs')
    case first =>
      cases op
      · cases ag
        · have hB : bs = true := HBS.out
          subst hB
          have CSa := Lib.hid (fun W (hq : TabQ W) (hx : BxAt W ba sA) => boxSeal_any ba sA kd dt pd W hx HI.out.oA hq HDT.out)
          have CSc := Lib.hid (fun W (hx : BrAt W bc sA) => rboxSeal_any bc sA kd dt pd W hx HI.out.oA HDT.out)
          have HOS := Lib.hid (sel_bok sA kd dt pd HI.out.oA)
          have HOB := Lib.hid HI.out.oB
          unfold selA at CSa CSc
          by_cases hE : selE sA kd dt pd = 0
          · obtain ⟨hX1, hX2⟩ := sel_good sA HI.out.oA kd dt pd hE
            have hX5 : (5 : Int) ≤ ((selX sA kd dt pd).size : Int) := by omega
            have HXM : Hid (((selX sA kd dt pd).extract 5 (selX sA kd dt pd).size).size ≤ maxLen) := Lib.hid (by
              rw [rbext_from]
              show (List.drop 5 _).length ≤ _
              rw [List.length_drop, ← Lib.size_eq]; unfold maxLen; omega)
            rw [hE] at CSa CSc
            have HLk : Hid ((svs txs).length = n) := Lib.hid (by rw [svs_length]; exact HLN.out)
            clear hE hX1 hX2
            generalize selX sA kd dt pd = X at *
            generalize selS sA kd dt pd = s1 at *
            have ex : (X.toList == X.toList) = true := by simp
            go_wp2_with fail
            refine (CSa.out _ (HT.out.step HI5.out.bel) HI5.out.a).mono ?_
            rintro e W6 ⟨rfl, hx6, hbt6⟩
            have HI6 := Lib.hid (HI5.out.butA hx6 hbt6)
            have HG6 := Lib.hid ((hbt6.block bx (blk_lt HG5.out) (by have := HI5.out.lt.1; have := HBX.out; omega)).trans HG5.out)
            clear hx6 hbt6 CSa HI5 HG5 HI
            obtain ⟨q0, q1, q2, q3, q4, q5⟩ := op_cells HG6.out
            rw [HBE.out] at q0 q1 q2 q3 q4 q5
            go_wp2_with fail
            refine (CSc.out _ HI6.out.c).mono ?_
            rintro e W7 ⟨rfl, hx7, hbt7⟩
            have HI7 := Lib.hid (HI6.out.butC hx7 hbt7)
            clear hx7 hbt7 CSc HI6 q0 q1 q2 q3 q4 q5 HG6
            go_wp2_with (at_builtin; refine wpList_append_sl rfl (.tmp 160) (.tmp 163) 33 rfl base 9 s0 (.string ⟨#[]⟩) 16 Tryz.underlying33 hs hs0 hs1 hs2 rfl ao n cp _ rfl (HI7.out.own.alloc _) HLk.out ⟨W7.heap.size, 0, none⟩ 1 1 [.string (X.extract 5 X.size)] rfl rfl (rb_one_new _ _ _) ?b2 ?b3 ?b4 ?b5 ?_)
            case b2 => intro u hu; simp at hu; subst hu; rfl
            case b3 => omega
            case b4 => omega
            case b5 => have := HI7.out.hw; simp; omega
            intro ao5 cp5 W8 hown8 hgrow8
            rw [svs_snoc] at hown8
            have HI8 := Lib.hid ((HI7.out.step (below_new W7 _)).app HXM.out hown8 hgrow8)
            clear hown8 hgrow8 HI7 hX5
            go_wp2_with fail
            go_meet
            exact ⟨n + 1, ao5, cp5, txs ++ [X.extract 5 X.size], s1, sB, by omega, rfl, by rw [List.length_append, HLN.out]; rfl, HI8.out.i HOS.out HOB.out⟩
          · have d6 : (selE sA kd dt pd == 0) = false := by rw [beq_eq_false_iff_ne]; exact hE
            generalize selE sA kd dt pd = er at *
            clear hE
            generalize selX sA kd dt pd = X at *
            generalize selS sA kd dt pd = s1 at *
            have ex : (X.toList == X.toList) = true := by simp
            go_wp2_with fail
            refine (CSa.out _ (HT.out.step HI5.out.bel) HI5.out.a).mono ?_
            rintro e W6 ⟨rfl, hx6, hbt6⟩
            have HI6 := Lib.hid (HI5.out.butA hx6 hbt6)
            have HG6 := Lib.hid ((hbt6.block bx (blk_lt HG5.out) (by have := HI5.out.lt.1; have := HBX.out; omega)).trans HG5.out)
            clear hx6 hbt6 CSa HI5 HG5 HI
            obtain ⟨q0, q1, q2, q3, q4, q5⟩ := op_cells HG6.out
            rw [HBE.out] at q0 q1 q2 q3 q4 q5
            go_wp2_with fail
            refine (CSc.out _ HI6.out.c).mono ?_
            rintro e W7 ⟨rfl, hx7, hbt7⟩
            have HI7 := Lib.hid (HI6.out.butC hx7 hbt7)
            clear hx7 hbt7 CSc HI6 q0 q1 q2 q3 q4 q5 HG6
            have HI8 := Lib.hid HI7.out
            clear HI7
            go_wp2_with fail
            go_meet
            exact ⟨n, ao, cp, txs, s1, sB, by omega, rfl, HLN.out, HI8.out.i HOS.out HOB.out⟩
        · have hB : bs = false := HBS.out
          subst hB
          by_cases hn0 : n = 0
          · subst hn0
            have HIN := Lib.hid HDT.out
            have COb := Lib.hid (fun W (hq : TabQ W) (hx : BxAt W bb sB) => boxOpen_any bb sB dt W hx HI.out.oB hq HIN.out)
            have COd := Lib.hid (fun W (hx : BrAt W bd sB) => rboxOpen_any bd sB dt W hx HI.out.oB HIN.out)
            have HOS := Lib.hid (opn_bok sB dt HI.out.oB)
            have HOA := Lib.hid HI.out.oA
            unfold opnA at COb COd
            generalize opnK sB dt = x1 at *
            generalize opnB sB dt = x2 at *
            generalize opnE sB dt = x3 at *
            generalize opnS sB dt = s2 at *
            have ex : (x2.toList == x2.toList) = true := by simp
            go_wp2_with fail
            refine (COb.out _ (HT.out.step HI5.out.bel) HI5.out.b).mono ?_
            rintro e W6 ⟨rfl, hx6, hbt6⟩
            have HI6 := Lib.hid (HI5.out.butB hx6 hbt6)
            clear hx6 hbt6 COb HI5 HG5 HI
            go_wp2_with fail
            refine (COd.out _ HI6.out.d).mono ?_
            rintro e W7 ⟨rfl, hx7, hbt7⟩
            have HI8 := Lib.hid (HI6.out.butD hx7 hbt7)
            clear hx7 hbt7 COd HI6
            go_wp2_with fail
            go_meet
            exact ⟨_, _, cp, txs, sA, s2, by omega, rfl, HLN.out, HI8.out.i HOA.out HOS.out⟩
          · have dn : decide ((0 : Int) < (n : Int)) = true := decide_eq_true (by omega)
            have dn0 : 0 < n := by omega
            have dnz : ¬ (n : Int) = 0 := by omega
            obtain ⟨m, hm⟩ : ∃ m, nn.tmod (n : Int) = m := ⟨_, rfl⟩
            have hm1 : m < (n : Int) := by rw [← hm]; exact Int.tmod_lt_of_pos _ (by omega)
            have hm2 : -(n : Int) < m := by rw [← hm]; exact Int.lt_tmod_of_pos _ (by omega)
            have hm3 : 0 ≤ (m + (n : Int)).tmod (n : Int) := Int.tmod_nonneg _ (by omega)
            have hm4 : (m + (n : Int)).tmod (n : Int) < (n : Int) := Int.tmod_lt_of_pos _ (by omega)
            obtain ⟨j, hj⟩ : ∃ j : Nat, (m + (n : Int)).tmod (n : Int) = (j : Int) := ⟨((m + (n : Int)).tmod (n : Int)).toNat, by omega⟩
            have hjn : j < n := by omega
            have hjI : (j : Int) < (n : Int) := by omega
            have hwm : IntKind.i64.wrap (m + (n : Int)) = m + (n : Int) := IntWalk.i64_in _ (by omega)
            obtain ⟨g2, rfl, hcs⟩ := own_text HI5.out.own HLN.out j hjn
            have HIN : Hid ((txs.getD j emB).size ≤ maxLen) := Lib.hid (by
              have hjl : j < txs.length := by rw [HLN.out]; exact hjn
              rw [List.getD_eq_getElem?_getD, List.getElem?_eq_getElem hjl]
              exact HI.out.big _ (List.getElem_mem hjl))
            obtain ⟨inn, hinn⟩ : ∃ inn, inn = txs.getD j emB := ⟨_, rfl⟩
            rw [← hinn] at HIN hcs
            clear hm3 hm4 hinn hn0 hnn
            have COb := Lib.hid (fun W (hq : TabQ W) (hx : BxAt W bb sB) => boxOpen_any bb sB inn W hx HI.out.oB hq HIN.out)
            have COd := Lib.hid (fun W (hx : BrAt W bd sB) => rboxOpen_any bd sB inn W hx HI.out.oB HIN.out)
            have HOS := Lib.hid (opn_bok sB inn HI.out.oB)
            have HOA := Lib.hid HI.out.oA
            unfold opnA at COb COd
            generalize opnK sB inn = x1 at *
            generalize opnB sB inn = x2 at *
            generalize opnE sB inn = x3 at *
            generalize opnS sB inn = s2 at *
            have ex : (x2.toList == x2.toList) = true := by simp
            go_wp2_with fail
            refine (COb.out _ (HT.out.step HI5.out.bel) HI5.out.b).mono ?_
            rintro e W6 ⟨rfl, hx6, hbt6⟩
            have HI6 := Lib.hid (HI5.out.butB hx6 hbt6)
            clear hx6 hbt6 COb HI5 HG5 HI hcs
            go_wp2_with fail
            refine (COd.out _ HI6.out.d).mono ?_
            rintro e W7 ⟨rfl, hx7, hbt7⟩
            have HI8 := Lib.hid (HI6.out.butD hx7 hbt7)
            clear hx7 hbt7 COd HI6
            go_wp2_with fail
            go_meet
            exact ⟨_, _, cp, txs, sA, s2, by omega, rfl, HLN.out, HI8.out.i HOA.out HOS.out⟩
      · cases ag
        · have hB : bs = false := HBS.out
          subst hB
          have HIN := Lib.hid HDT.out
          have COb := Lib.hid (fun W (hq : TabQ W) (hx : BxAt W bb sB) => boxOpen_any bb sB dt W hx HI.out.oB hq HIN.out)
          have COd := Lib.hid (fun W (hx : BrAt W bd sB) => rboxOpen_any bd sB dt W hx HI.out.oB HIN.out)
          have HOS := Lib.hid (opn_bok sB dt HI.out.oB)
          have HOA := Lib.hid HI.out.oA
          unfold opnA at COb COd
          generalize opnK sB dt = x1 at *
          generalize opnB sB dt = x2 at *
          generalize opnE sB dt = x3 at *
          generalize opnS sB dt = s2 at *
          have ex : (x2.toList == x2.toList) = true := by simp
          go_wp2_with fail
          refine (COb.out _ (HT.out.step HI5.out.bel) HI5.out.b).mono ?_
          rintro e W6 ⟨rfl, hx6, hbt6⟩
          have HI6 := Lib.hid (HI5.out.butB hx6 hbt6)
          clear hx6 hbt6 COb HI5 HG5 HI
          go_wp2_with fail
          refine (COd.out _ HI6.out.d).mono ?_
          rintro e W7 ⟨rfl, hx7, hbt7⟩
          have HI8 := Lib.hid (HI6.out.butD hx7 hbt7)
          clear hx7 hbt7 COd HI6
          go_wp2_with fail
          go_meet
          exact ⟨_, _, cp, txs, sA, s2, by omega, rfl, HLN.out, HI8.out.i HOA.out HOS.out⟩
        · have hB : bs = false := HBS.out
          subst hB
          by_cases hn0 : n = 0
          · subst hn0
            have HIN := Lib.hid HDT.out
            have COb := Lib.hid (fun W (hq : TabQ W) (hx : BxAt W bb sB) => boxOpen_any bb sB dt W hx HI.out.oB hq HIN.out)
            have COd := Lib.hid (fun W (hx : BrAt W bd sB) => rboxOpen_any bd sB dt W hx HI.out.oB HIN.out)
            have HOS := Lib.hid (opn_bok sB dt HI.out.oB)
            have HOA := Lib.hid HI.out.oA
            unfold opnA at COb COd
            generalize opnK sB dt = x1 at *
            generalize opnB sB dt = x2 at *
            generalize opnE sB dt = x3 at *
            generalize opnS sB dt = s2 at *
            have ex : (x2.toList == x2.toList) = true := by simp
            go_wp2_with fail
            refine (COb.out _ (HT.out.step HI5.out.bel) HI5.out.b).mono ?_
            rintro e W6 ⟨rfl, hx6, hbt6⟩
            have HI6 := Lib.hid (HI5.out.butB hx6 hbt6)
            clear hx6 hbt6 COb HI5 HG5 HI
            go_wp2_with fail
            refine (COd.out _ HI6.out.d).mono ?_
            rintro e W7 ⟨rfl, hx7, hbt7⟩
            have HI8 := Lib.hid (HI6.out.butD hx7 hbt7)
            clear hx7 hbt7 COd HI6
            go_wp2_with fail
            go_meet
            exact ⟨_, _, cp, txs, sA, s2, by omega, rfl, HLN.out, HI8.out.i HOA.out HOS.out⟩
          · have dn : decide ((0 : Int) < (n : Int)) = true := decide_eq_true (by omega)
            have dn0 : 0 < n := by omega
            have dnz : ¬ (n : Int) = 0 := by omega
            obtain ⟨m, hm⟩ : ∃ m, nn.tmod (n : Int) = m := ⟨_, rfl⟩
            have hm1 : m < (n : Int) := by rw [← hm]; exact Int.tmod_lt_of_pos _ (by omega)
            have hm2 : -(n : Int) < m := by rw [← hm]; exact Int.lt_tmod_of_pos _ (by omega)
            have hm3 : 0 ≤ (m + (n : Int)).tmod (n : Int) := Int.tmod_nonneg _ (by omega)
            have hm4 : (m + (n : Int)).tmod (n : Int) < (n : Int) := Int.tmod_lt_of_pos _ (by omega)
            obtain ⟨j, hj⟩ : ∃ j : Nat, (m + (n : Int)).tmod (n : Int) = (j : Int) := ⟨((m + (n : Int)).tmod (n : Int)).toNat, by omega⟩
            have hjn : j < n := by omega
            have hjI : (j : Int) < (n : Int) := by omega
            have hwm : IntKind.i64.wrap (m + (n : Int)) = m + (n : Int) := IntWalk.i64_in _ (by omega)
            obtain ⟨g2, rfl, hcs⟩ := own_text HI5.out.own HLN.out j hjn
            have HIN : Hid ((txs.getD j emB).size ≤ maxLen) := Lib.hid (by
              have hjl : j < txs.length := by rw [HLN.out]; exact hjn
              rw [List.getD_eq_getElem?_getD, List.getElem?_eq_getElem hjl]
              exact HI.out.big _ (List.getElem_mem hjl))
            obtain ⟨inn, hinn⟩ : ∃ inn, inn = txs.getD j emB := ⟨_, rfl⟩
            rw [← hinn] at HIN hcs
            clear hm3 hm4 hinn hn0 hnn
            have COb := Lib.hid (fun W (hq : TabQ W) (hx : BxAt W bb sB) => boxOpen_any bb sB inn W hx HI.out.oB hq HIN.out)
            have COd := Lib.hid (fun W (hx : BrAt W bd sB) => rboxOpen_any bd sB inn W hx HI.out.oB HIN.out)
            have HOS := Lib.hid (opn_bok sB inn HI.out.oB)
            have HOA := Lib.hid HI.out.oA
            unfold opnA at COb COd
            generalize opnK sB inn = x1 at *
            generalize opnB sB inn = x2 at *
            generalize opnE sB inn = x3 at *
            generalize opnS sB inn = s2 at *
            have ex : (x2.toList == x2.toList) = true := by simp
            go_wp2_with fail
            refine (COb.out _ (HT.out.step HI5.out.bel) HI5.out.b).mono ?_
            rintro e W6 ⟨rfl, hx6, hbt6⟩
            have HI6 := Lib.hid (HI5.out.butB hx6 hbt6)
            clear hx6 hbt6 COb HI5 HG5 HI hcs
            go_wp2_with fail
            refine (COd.out _ HI6.out.d).mono ?_
            rintro e W7 ⟨rfl, hx7, hbt7⟩
            have HI8 := Lib.hid (HI6.out.butD hx7 hbt7)
            clear hx7 hbt7 COd HI6
            go_wp2_with fail
            go_meet
            exact ⟨_, _, cp, txs, sA, s2, by omega, rfl, HLN.out, HI8.out.i HOA.out HOS.out⟩
    case rest =>
    obtain ⟨n', ao', cp', txs', s1, s2, hn', rfl, hln', hI8⟩ := hcut
    have HI8 := Lib.hid hI8.j
    have HOA := Lib.hid hI8.oA
    have HOB := Lib.hid hI8.oB
    have HLN8 := Lib.hid hln'
    clear hI8 hln' HI5 HG5 HI HLN HT
    obtain ⟨_, _, _, hc3, _⟩ := br_cells HI8.out.c
    obtain ⟨_, _, _, hd3, _⟩ := br_cells HI8.out.d
    have kc := cell_regrown hc3; have kd3 := cell_regrown hd3
    go_wp2_with fail
    refine wp_region_reads (by kernel_rfl) (by kernel_rfl) ?_
    repeat (first | go_big_quiet_step (first | with_reducible exact Calls.regrown_of (below_eq (count_any ba _ _ (HI8.out.a.below (below_regrown _ _ _)))) | with_reducible exact Calls.regrown_of (below_eq (count_any bb _ _ (HI8.out.b.below (below_regrown _ _ _))))) | quiet_step (first | with_reducible exact Calls.regrown_of (below_eq (count_any ba _ _ (HI8.out.a.below (below_regrown _ _ _)))) | with_reducible exact Calls.regrown_of (below_eq (count_any bb _ _ (HI8.out.b.below (below_regrown _ _ _))))))
    refine wpQuiet_nil ?_
    intro W9 hb9
    have HI9 := Lib.hid (HI8.out.step hb9)
    clear hc3 hd3 kc kd3 hb9 HI8
    go_wp2_with fail
    go_roundw
    case rel => exact ⟨k + 1, n', ao', cp', txs', s1, s2, by omega, by omega, by omega, rfl, by go_num, HLN8.out, HI9.out.i HOA.out HOB.out⟩
    case measure => simp [intOf]; omega

theorem recordSeals_laidOut : laidOutB Tryz.prog = true := by kernel_rfl
theorem recordSeals_lifted (os : Os) (started : os.Started) (H : Type) (enc : TypeId × Value → H) :
    ReturnsInHanded {} Tryz.checked os 3 .any (fun w args => (Rows.recordSealsSpec.pre enc Tryz.prog Tryz.f3 [] false w args ∧ laidMetH Tryz.prog laid3 w) ∧ sizedMet enc Tryz.prog Tryz.f3 (OpenSpec.ofChange Rows.recordSealsSpec) false w args)
      (Rows.recordSealsSpec.post enc Tryz.prog Tryz.f3 false true false false) := by
  refine returnsInHanded_of_change_and (C := Tryz.checked) (X := fun w _ => laidMetH Tryz.prog laid3 w) (fun _ _ _ hh h => h.of_heap hh) own3 started (by kernel_rfl) Tryz.func3
    (ChangeSpec.witness_shaped (enc := enc) (C := Tryz.checked) (os := os) (X := fun w _ => laidMetH Tryz.prog laid3 w) false (World.laidAll Tryz.prog os laid3) #[.agg #[.int .i64 0, .string ⟨#[]⟩, .string ⟨#[]⟩], .slice none 0 0] 8 (World.laidAll_os _ _ _) (World.shaped_of_ZipB (by kernel_rfl) (by kernel_rfl)) (by kernel_rfl) (by kernel_rfl) (by kernel_rfl) (door_met3 os _)) ?_
  intro W base args ds gs before hval0 hW _ _ hL _
  have hval : ∀ (j : Nat) t v, Tryz.f3.params[j]? = some t → args[j]? = some v → Value.okWide Tryz.prog W .any base t v := hval0
  have hW' := hW
  obtain ⟨p, q, hA0, hV, rfl, hfz, hnd⟩ := hW
  have hA : DataW.TrodAll enc Tryz.prog W 0 (fun _ => true) true Tryz.f3.params.toList args.toList ds p := hA0
  rw [Tryz.params3] at hA hval
  obtain ⟨v0, v1, d0, d1, p0, p1, rfl, rfl, rfl, h0, h1⟩ := trodAll_two hA
  obtain ⟨rfl, rfl⟩ := trodVars_none hV
  have hT := of_laid3 hL
  clear hA0 hval0
  simp only [List.append_nil, List.nil_append] at hW'
  obtain ⟨su, ky, iv, rfl, rfl, rfl, wsu, wky, wiv⟩ := open_keys (hval 0 23 v0 rfl rfl) h0
  obtain ⟨a1, n1, c1, rfl⟩ := okWide_slice Tryz.underlying24 (hval 1 24 v1 rfl rfl)
  have hk1 := h1
  obtain ⟨l1, hl1, hm1, hI1⟩ := op_open h1
  try simp only [List.append_nil, List.nil_append] at hW'
  have hlt1 : ∀ x ∈ p1, x.block < W.heap.size := fun x hx => hW'.lt x (by simp [hx])
  refine (recordSeals_any W su ky iv wsu wky wiv a1 n1 c1 l1 hl1 hI1 hm1 hT).mono fun e W' ⟨he, hb⟩ => ?_
  subst he
  refine ⟨_, rfl, _, _, _, [], [] ++ p1, [], hW', ?_, ?_, rfl, hb.frame _, fun h => by cases h⟩
  · exact trodAll_mk1 (shut_bool Tryz.underlying4 _)
  · exact trodAll_mk2 (shut_keys wsu wky wiv) (Below.trod recordSeals_laidOut (by kernel_rfl) (of_decide_eq_true (by kernel_rfl)) hk1 hb hlt1)

theorem recordSeals_holds : Rows.RecordSealsSaid :=
  OpenClaim.holds_of_wide 3 Tryz.f3 rfl rfl rfl rfl rfl rfl rfl ⟨rfl, rfl, rfl, rfl, rfl⟩ rfl rfl rfl rfl rfl (by kernel_rfl) Tryz.func3 (by kernel_rfl)
    (of_decide_eq_true (by kernel_rfl)) (by unfold Func.isWrapper; first | (rw [if_pos (by decide +kernel)]; kernel_rfl) | (rw [if_neg (by decide +kernel)]; exact ⟨rfl, rfl⟩))
    (fun os started H enc _ => recordSeals_lifted os started H enc)

theorem recordSeals_card : Rows.RecordSealsCardSaid :=
  Claim7.holds_tied_plain_at .later [] [.data, .data, .pinned] true (true, "fde69174d6d408d6131d9502f858b52fb59510ff617c3c2862b0d153e04c42c2") false
    recordSeals_holds (fun _ h => by cases h) (by kernel_rfl) (fun _ h => by cases h) recordSeals_row_tie rfl ⟨rfl, rfl⟩ (by kernel_rfl) rfl
    (fun f fn hf hfn => by
      obtain rfl : f = 3 := Option.some.inj ((show Tryz.prog.funcNamed "cresset/cressetlaw15.RecordSeals" = some 3 by kernel_rfl).symm.trans hf) |>.symm
      obtain rfl : fn = Tryz.f3 := (Option.some.inj (Tryz.func3.symm.trans hfn)).symm
      exact ⟨by kernel_rfl, fun j t ht => by
        rw [Tryz.params3] at ht
        have hm : t ∈ [23, 24] := by simpa using Array.mem_of_getElem? ht
        have hall : ([23, 24].all fun u => !Tryz.prog.wantsStandIn u) = true := by kernel_rfl
        exact (show Tryz.prog.wantsStandIn t = false by simpa using List.all_eq_true.1 hall t hm)⟩)
    (by kernel_rfl)
#print axioms recordSeals_card
end Go.Proofs.YtffnafikegakcaaGreatDoor
