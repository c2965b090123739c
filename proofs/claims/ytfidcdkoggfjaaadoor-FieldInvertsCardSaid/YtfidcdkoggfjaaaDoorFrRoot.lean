/- The reference's halves and its root. -/
import Derived.Test.YtfidcdkoggfjaaaDoorFrPow
import Derived.Test.YtfidcdkoggfjaaaDoorFrSub
namespace Go.Proofs.YtfidcdkoggfjaaaDoor
open Go.RowKit Go.Sort
set_option maxRecDepth 100000
set_option linter.unusedSimpArgs false
set_option linter.unusedVariables false

theorem or_i64 (a b : Nat) (ha : a < 65536) (hb : b < 65536) : bits .or .i64 (a : Int) (b : Int) = ((a ||| b : Nat) : Int) := by
  have key : (BitVec.ofInt 64 (a : Int) ||| BitVec.ofInt 64 (b : Int)).toNat = a ||| b := by
    rw [BitVec.toNat_or, BitVec.toNat_ofInt, BitVec.toNat_ofInt]
    rw [show ((a : Int) % ((2 ^ 64 : Nat) : Int)).toNat = a by omega, show ((b : Int) % ((2 ^ 64 : Nat) : Int)).toNat = b by omega]
  show IntKind.i64.wrap ((BitVec.ofInt 64 (a : Int) ||| BitVec.ofInt 64 (b : Int)).toNat : Nat) = _
  rw [key, IntKind.wrap_i64]
  have := Nat.or_lt_two_pow (n := 16) ha hb
  omega
/-- Digit by digit: the half. -/
theorem half_low (x j : Nat) (hj : j < 15) (hx : x < mF) : bits .or .i64 ((((digN x).getD j 0 : Nat) : Int) / 2) ((((digN x).getD (j + 1) 0 : Nat) : Int) % 2 * 32768) = (((digN (x / 2)).getD j 0 : Nat) : Int) := by
  have h1 := digN_lt x j (by omega); have h2 := digN_lt x (j + 1) (by omega)
  have h := half_ref x j (by omega) hx
  rw [if_pos hj] at h
  have e1 : (((digN x).getD j 0 : Nat) : Int) / 2 = (((digN x).getD j 0 / 2 : Nat) : Int) := by omega
  have e2 : (((digN x).getD (j + 1) 0 : Nat) : Int) % 2 * 32768 = (((digN x).getD (j + 1) 0 % 2 * 32768 : Nat) : Int) := by omega
  rw [e1, e2, or_i64 _ _ (by omega) (by omega), h]
theorem half_top (x : Nat) (hx : x < mF) : (((digN x).getD 15 0 : Nat) : Int) / 2 = (((digN (x / 2)).getD 15 0 : Nat) : Int) := by
  have h := half_ref x 15 (by omega) hx
  rw [if_neg (by omega), Nat.or_zero] at h
  omega

set_option maxHeartbeats 4000000 in
theorem shiftedRef_any (dn : Value) (n t : Nat) (w : World) (hn : n < mF) (ht : t ≤ 10) (ha : DigAt w dn (digN n)) :
    Calls Tryd.prog 46 #[dn, .int .i64 (t : Int)] w fun e w' => (∃ d', e = .returned d' ∧ DigAt w' d' (digN (n / 2 ^ t))) ∧ Below w.heap.size w w' := by
  have HA := Lib.hid ha
  have HN := Lib.hid hn
  clear ha hn
  go_enter Tryd.func46, Tryd.ntmps46
  go_wp2_with fail
  go_loopw [0, 5] (fun dv kv wr => ∃ k : Nat, k ≤ t ∧ kv = .int .i64 (k : Int) ∧ DigAt wr dv (digN (n / 2 ^ k)) ∧ Below w.heap.size w wr) (fun _ kv _ => t - (intOf kv).toNat)
  case atStart => exact ⟨0, by omega, rfl, by simpa using HA.out, Below.refl _ _⟩
  case round =>
    clear HA
    obtain ⟨k, hk, rfl, hdv, hb⟩ := hrel
    have HDV := Lib.hid hdv
    by_cases hkt : k < t
    · have hdk : decide ((k : Int) < (t : Int)) = true := by simp; omega
      have hx : n / 2 ^ k < mF := Nat.lt_of_le_of_lt (Nat.div_le_self _ _) HN.out
      have HNX : Hid (n / 2 ^ (k + 1) = n / 2 ^ k / 2) := Lib.hid (by rw [Nat.pow_succ, Nat.div_div_eq_div_mul])
      have HLow := Lib.hid (fun j (hj : j < 15) => half_low (n / 2 ^ k) j hj hx)
      have HTop := Lib.hid (half_top (n / 2 ^ k) hx)
      have HXl := Lib.hid (digN_lt (n / 2 ^ k))
      generalize n / 2 ^ k = x at *
      obtain ⟨f, hf⟩ : ∃ f : Nat → Nat, f = fun j => (digN (x / 2)).getD j 0 := ⟨_, rfl⟩
      have HF := Lib.hid (fun j => (show (digN (x / 2)).getD j 0 = f j by rw [hf]))
      have HFull := Lib.hid (show mkD f = digN (x / 2) from nums_ext (mkD_length _) (digN_length _) fun i hi => by rw [mkD_get _ _ hi, hf])
      obtain ⟨Dn, cn, rfl, hcn⟩ := hdv
      have HCN := Lib.hid hcn
      have hln := block_lt_of_cell (hcn 0 (by decide))
      have HZ := Lib.hid (zero_any wr)
      have HO := Lib.hid (show (wr.alloc (.cells zeros16 3)).heap[wr.heap.size]? = some (.cells (dcl (partD f 0)) 3) from blk_new wr _)
      have hB0 := below_new wr (.cells zeros16 3)
      clear hcn hf hx
      go_wp2_with fail
      refine HZ.out.mono ?_
      rintro e W1 ⟨rfl, rfl⟩
      go_wp2_with fail
      clear HZ
      generalize (wr.alloc (.cells zeros16 3)) = W0 at *
      generalize wr = V at *
      generalize hOO : V.heap.size = O at *
      have HOO := Lib.hid hOO
      have hwO : w.heap.size ≤ O := by rw [← hOO]; exact hb.size
      clear hOO
      go_loopw [7] (fun iv wr => ∃ i : Nat, i ≤ 16 ∧ iv = .int .i64 (i : Int) ∧ wr.heap[O]? = some (.cells (dcl (partD f i)) 3) ∧ Below O V wr) (fun iv _ => 16 - (intOf iv).toNat)
      case atStart => exact ⟨0, by omega, rfl, HO.out, hB0⟩
      case round =>
        clear HO hB0
        obtain ⟨i, hi, rfl, ho, hbo⟩ := hrel
        have HO := Lib.hid ho
        clear ho
        by_cases hlt : i < 16
        · have hdi : decide ((i : Int) < 16) = true := by simp; omega
          have c1 := (hbo.cell (p := ⟨Dn, i, none⟩) hln).trans (HCN.out i hlt)
          have hd1 := HXl.out i hlt
          have HS := Lib.hid (partD_set f i hlt)
          have hpl := partD_length f i
          have cx := dcl_cell HO.out i (by omega)
          have fx := frozen_of_row wr O i _ _ HO.out
          by_cases h15 : i < 15
          · have hd15 : decide ((i : Int) < 15) = true := by simp; omega
            have hv := HLow.out i h15
            rw [HF.out] at hv
            have c2 := (hbo.cell (p := ⟨Dn, i + 1, none⟩) hln).trans (HCN.out (i + 1) (by omega))
            have hd2 := HXl.out (i + 1) (by omega)
            generalize (digN x).getD i 0 = d at *
            generalize (digN x).getD (i + 1) 0 = e at *
            have hh : (d : Int) / 2 = ((d / 2 : Nat) : Int) := by omega
            have r1 : (wr.setCell ⟨O, i, none⟩ (.int .i64 ((d : Int) / 2))).heap[O]? = some (.cells (dcl ((partD f i).set i (d / 2))) 3) := by rw [hh]; exact dcl_set HO.out i (d / 2)
            have cr : (wr.setCell ⟨O, i, none⟩ (.int .i64 ((d : Int) / 2))).cell? ⟨O, i, none⟩ = some (.int .i64 ((d : Int) / 2)) := World.cell?_setCell_same _ _ _ cx
            have c2' : (wr.setCell ⟨O, i, none⟩ (.int .i64 ((d : Int) / 2))).cell? ⟨Dn, i + 1, none⟩ = some (.int .i64 (e : Int)) := by rw [World.cell?_setCell_other _ _ _ _ (by simp <;> omega)]; exact c2
            have hb1 : Below O V (wr.setCell ⟨O, i, none⟩ (.int .i64 ((d : Int) / 2))) := hbo.setCell (Nat.le_refl _) _
            have HR1 := Lib.hid r1
            have h1n : ((i : Int) + 1).toNat = i + 1 := by omega
            have h1b : (0 : Int) ≤ (i : Int) + 1 := by omega
            have h1c : (i : Int) + 1 < 16 := by omega
            clear r1 hh c2 hbo HO
            go_wp2_with fail
            clear c1 cx fx
            generalize (wr.setCell ⟨O, i, none⟩ (.int .i64 ((d : Int) / 2))) = V1 at *
            have ka := cell_regrown cr; have kb := cell_regrown c2'
            refine wp_region_reads_tail 15 (by kernel_rfl) (by kernel_rfl) ?_
            simp only [List.take_succ_cons, List.take_zero, List.drop_succ_cons, List.drop_zero]
            repeat (first | go_big_quiet_step (fail) | quiet_step (fail))
            refine wpQuiet_nil ?_
            intro W1 hw1
            have hO1 := blk_below hw1 (blk_lt HR1.out) HR1.out
            have hbl1 : Below O V W1 := hb1.trans (hw1.mono (Nat.le_of_lt (blk_lt HR1.out)))
            have cz := dcl_cell hO1 i (by rw [List.length_set]; omega)
            have fz := frozen_of_row W1 O i _ _ hO1
            have s1 : (W1.setCell ⟨O, i, none⟩ (.int .i64 ((f i : Nat) : Int))).heap[O]? = some (.cells (dcl (partD f (i + 1))) 3) := by
              have := dcl_set hO1 i (f i)
              rw [List.set_set, HS.out] at this
              exact this
            have HS1 := Lib.hid s1
            have hbl2 : Below O V (W1.setCell ⟨O, i, none⟩ (.int .i64 ((f i : Nat) : Int))) := hbl1.setCell (Nat.le_refl _) _
            generalize ((partD f i).set i (d / 2)).getD i 0 = old at *
            generalize f i = fi at *
            clear s1 ka kb cr c2' hw1 hO1 hb1 hbl1
            go_wp2_with fail
            go_roundw
            case rel => exact ⟨i + 1, by omega, by go_num, HS1.out, hbl2⟩
            case measure => simp [intOf]; omega
          · obtain rfl : i = 15 := by omega
            have hd15 : decide (((15 : Nat) : Int) < 15) = false := by decide
            have hv := HTop.out
            rw [HF.out] at hv
            generalize (digN x).getD 15 0 = d at *
            have r1 : (wr.setCell ⟨O, 15, none⟩ (.int .i64 ((d : Int) / 2))).heap[O]? = some (.cells (dcl (partD f 16)) 3) := by
              rw [hv, ← HS.out]; exact dcl_set HO.out 15 (f 15)
            have HR1 := Lib.hid r1
            have hb1 : Below O V (wr.setCell ⟨O, 15, none⟩ (.int .i64 ((d : Int) / 2))) := hbo.setCell (Nat.le_refl _) _
            clear r1 hbo hv
            go_wp2_with fail
            go_roundw
            case rel => exact ⟨16, by omega, by go_num, HR1.out, hb1⟩
            case measure => simp [intOf]
        · have hdi : decide ((i : Int) < 16) = false := by simp; omega
          obtain rfl : i = 16 := by omega
          rw [partD_full f, HFull.out, ← HNX.out] at HO
          have HD2 := Lib.hid (show DigAt wr (.slice (some ⟨O, 0, none⟩) 16 16) (digN (n / 2 ^ (k + 1))) from DigAt.of_block HO.out (digN_length _))
          have hb2 : Below w.heap.size w wr := hb.trans (hbo.mono hwO)
          go_wp2_with fail
          go_roundw
          case rel => exact ⟨k + 1, by omega, by go_num, HD2.out, hb2⟩
          case measure => simp [intOf]; omega
    · have hdk : decide ((k : Int) < (t : Int)) = false := by simp; omega
      obtain rfl : k = t := by omega
      go_wp2_with fail
      go_ret
      exact ⟨⟨_, rfl, HDV.out⟩, hb⟩

theorem pF3_digits : (digN pF).set 0 65520 = digN (pF + 3) := by decide +kernel
theorem pF1_digits : (digN pF).set 0 65516 = digN (pF - 1) := by decide +kernel
theorem pF_low : (digN pF).getD 0 0 = 65517 := by decide +kernel
def evenR (x : Nat) : Nat := if x % 2 = 1 then subF 0 x else x
theorem rootR_same (x : Nat) (h : mulF (rootX x) (rootX x) = x) : rootF x = (evenR (rootX x), true) := by
  have hy : rootY x = rootX x := if_pos h
  rw [rootF, hy, if_pos h]
  rfl
theorem rootR_other (x : Nat) (h : ¬ mulF (rootX x) (rootX x) = x) : mulF (rootX x) (powF 2 ((pF - 1) / 2 ^ 2)) = rootY x := (if_neg h).symm
theorem rootR_yes (x : Nat) (h : mulF (rootY x) (rootY x) = x) : rootF x = (evenR (rootY x), true) := by rw [rootF, if_pos h]; rfl
theorem rootR_no (x : Nat) (h : ¬ mulF (rootY x) (rootY x) = x) : rootF x = (0, false) := by rw [rootF, if_neg h]
theorem rootXr_lt (x : Nat) : rootX x < pF := powF_lt _ _

set_option maxHeartbeats 4000000 in
theorem rootRef_any (da : Value) (x : Nat) (w : World) (hx : x < pF) (ha : DigAt w da (digN x)) :
    Calls Tryd.prog 31 #[da] w fun e w' => (∃ d', e = .returned (.tuple #[d', .bool (rootF x).2]) ∧ DigAt w' d' (digN (rootF x).1)) ∧ Below w.heap.size w w' := by
  have HX := Lib.hid hx
  have HA := Lib.hid ha
  have hM := modulus_any w
  clear hx ha
  go_enter Tryd.func31, Tryd.ntmps31
  go_wp2_with fail
  refine hM.mono ?_
  rintro e W1 ⟨rfl, hm, hb1⟩
  have c0 := dcl_cell hm 0 (by rw [digN_length]; decide)
  rw [pF_low] at c0
  have f0 := frozen_of_row W1 w.heap.size 0 _ _ hm
  have r1 : (W1.setCell ⟨w.heap.size, 0, none⟩ (.int .i64 65520)).heap[w.heap.size]? = some (.cells (dcl (digN (pF + 3))) 3) := by rw [← pF3_digits]; exact dcl_set hm 0 65520
  have hb : Below w.heap.size w (W1.setCell ⟨w.heap.size, 0, none⟩ (.int .i64 65520)) := hb1.setCell (Nat.le_refl _) _
  have HN := Lib.hid (show DigAt (W1.setCell ⟨w.heap.size, 0, none⟩ (.int .i64 65520)) (.slice (some ⟨w.heap.size, 0, none⟩) 16 16) (digN (pF + 3)) from DigAt.of_block r1 (digN_length _))
  clear hM hm r1 hb1
  go_wp2_with fail
  clear c0 f0
  generalize W1.setCell _ _ = W2 at *
  refine (shiftedRef_any _ (pF + 3) 3 W2 (by decide) (by omega) HN.out).mono ?_
  rintro e W3 ⟨⟨d3, rfl, q3⟩, b3⟩
  have HD3 := Lib.hid q3
  have hb := hb.trans (b3.mono hb.size)
  clear q3 b3 HN
  go_wp2_with fail
  have HA3 := Lib.hid (HA.out.step hb)
  refine (powerRef_any _ _ x ((pF + 3) / 2 ^ 3) W3 HX.out (by decide) HA3.out HD3.out).mono ?_
  rintro e W4 ⟨⟨d4, rfl, q4⟩, b4⟩
  rw [show powF x ((pF + 3) / 2 ^ 3) = rootX x from rfl] at q4
  have HD4 := Lib.hid q4
  have hb := hb.trans (b4.mono hb.size)
  clear q4 b4 HD3 HA3
  have hXl := rootXr_lt x
  have hYl := rootY_lt x
  have HV1 := Lib.hid (rootR_same x); have HV2 := Lib.hid (rootR_other x); have HV3 := Lib.hid (rootR_yes x); have HV4 := Lib.hid (rootR_no x)
  generalize rootX x = X at *
  generalize rootY x = Y at *
  go_wp2_with fail
  have HAn := Lib.hid (HA.out.step hb)
  refine (mulRef_any _ _ X X _ hXl hXl HD4.out HD4.out).mono ?_
  rintro e Wm ⟨⟨dm, rfl, qm⟩, bm⟩
  have HMm := Lib.hid qm
  have HD4 := Lib.hid (HD4.out.step bm)
  have HAn := Lib.hid (HAn.out.step bm)
  have hb := hb.trans (bm.mono hb.size)
  clear qm bm
  go_wp2_with fail
  refine (sameRef_any _ _ (mulF X X) x _ (Nat.lt_trans (mulF_lt _ _) (by decide)) (Nat.lt_trans HX.out (by decide)) HMm.out HAn.out).mono ?_
  rintro e Ws ⟨rfl, bs⟩
  have HD4 := Lib.hid (HD4.out.step bs)
  have HAn := Lib.hid (HAn.out.step bs)
  have hb := hb.trans (bs.mono hb.size)
  clear bs HMm
  by_cases hc : mulF X X = x
  · have hcc : decide (mulF X X = x) = true := decide_eq_true hc
    have HCc := Lib.hid hc
    rw [hcc]
    clear hcc
    go_wp2_with fail
    have HAn := Lib.hid (HA.out.step hb)
    refine (mulRef_any _ _ X X _ hXl hXl HD4.out HD4.out).mono ?_
    rintro e Wm ⟨⟨dm, rfl, qm⟩, bm⟩
    have HMm := Lib.hid qm
    have HD4 := Lib.hid (HD4.out.step bm)
    have HAn := Lib.hid (HAn.out.step bm)
    have hb := hb.trans (bm.mono hb.size)
    clear qm bm
    go_wp2_with fail
    refine (sameRef_any _ _ (mulF X X) x _ (Nat.lt_trans (mulF_lt _ _) (by decide)) (Nat.lt_trans HX.out (by decide)) HMm.out HAn.out).mono ?_
    rintro e Ws ⟨rfl, bs⟩
    have HD4 := Lib.hid (HD4.out.step bs)
    have HAn := Lib.hid (HAn.out.step bs)
    have hb := hb.trans (bs.mono hb.size)
    clear bs HMm
    rw [decide_eq_true hc]
    have HV := Lib.hid (HV1.out hc)
    obtain ⟨Dy, cy, rfl, hcy⟩ := HD4.out
    have c0 := hcy 0 (by decide)
    have hp : (digN X).getD 0 0 % 2 = X % 2 := by rw [digN_get _ _ (by decide), Nat.pow_zero, Nat.div_one]; omega
    have hl0 := digN_lt X 0 (by decide)
    have HY0 := Lib.hid (show evenR X = if X % 2 = 1 then subF 0 X else X from rfl)
    have hE := hb
    by_cases hodd : X % 2 = 1
    · rw [if_pos hodd] at HY0
      have hd1 : ((((digN X).getD 0 0 : Nat) : Int) % 2 == 1) = true := by simp only [beq_iff_eq]; omega
      generalize (digN X).getD 0 0 = d0 at *
      clear hp hcy hodd
      go_wp2_with fail
      refine (zero_any _).mono ?_
      rintro e Wz ⟨rfl, rfl⟩
      have bz := below_new Ws (.cells zeros16 3)
      have HYz := Lib.hid (HD4.out.step bz)
      have HZz := Lib.hid (show DigAt (Ws.alloc (.cells zeros16 3)) (.slice (some ⟨Ws.heap.size, 0, none⟩) 16 16) (digN 0) from DigAt.of_block (l := digN 0) (blk_new Ws _) (digN_length _))
      have hb := hb.trans (bz.mono hb.size)
      clear bz
      go_wp2_with fail
      refine (subRef_any _ _ 0 X _ (by decide) hXl HZz.out HYz.out).mono ?_
      rintro e Wf ⟨⟨df, rfl, qf⟩, bf⟩
      rw [← HY0.out] at qf
      have HF := Lib.hid qf
      have hb := hb.trans (bf.mono hb.size)
      clear qf bf HYz HZz
      go_wp2_with fail
      go_ret2
      exact ⟨⟨_, by rw [HV.out]; rfl, by rw [HV.out]; exact HF.out⟩, hb⟩
    · rw [if_neg hodd] at HY0
      have hd1 : ((((digN X).getD 0 0 : Nat) : Int) % 2 == 1) = false := by simp only [beq_eq_false_iff_ne, ne_eq]; omega
      generalize (digN X).getD 0 0 = d0 at *
      clear hp hcy hodd
      go_wp2_with fail
      go_ret2
      exact ⟨⟨_, by rw [HV.out]; rfl, by rw [HV.out]; show DigAt _ _ (digN (evenR X)); rw [HY0.out]; exact HD4.out⟩, hb⟩
  · have HM := Lib.hid (HV2.out hc)
    rw [decide_eq_false hc]
    clear hc HV1 HV2
    go_wp2_with fail
    refine (modulus_any _).mono ?_
    rintro e W5 ⟨rfl, hm, hb5⟩
    have c0 := dcl_cell hm 0 (by rw [digN_length]; decide)
    rw [pF_low] at c0
    have f0 := frozen_of_row W5 Ws.heap.size 0 _ _ hm
    have r1 : (W5.setCell ⟨Ws.heap.size, 0, none⟩ (.int .i64 65516)).heap[Ws.heap.size]? = some (.cells (dcl (digN (pF - 1))) 3) := by rw [← pF1_digits]; exact dcl_set hm 0 65516
    have hb6 : Below Ws.heap.size Ws (W5.setCell ⟨Ws.heap.size, 0, none⟩ (.int .i64 65516)) := hb5.setCell (Nat.le_refl _) _
    have HN := Lib.hid (show DigAt (W5.setCell ⟨Ws.heap.size, 0, none⟩ (.int .i64 65516)) (.slice (some ⟨Ws.heap.size, 0, none⟩) 16 16) (digN (pF - 1)) from DigAt.of_block r1 (digN_length _))
    have HD5 := Lib.hid (HD4.out.step hb6)
    have hb := hb.trans (hb6.mono hb.size)
    clear hm r1 hb5 hb6
    go_wp2_with fail
    clear c0 f0
    generalize Ws.heap.size = S at *
    generalize W5.setCell _ _ = W6 at *
    refine (smallRefPos_any 2 W6 (by decide)).mono ?_
    rintro e W7 ⟨⟨d7, rfl, q7⟩, b7⟩
    have HD7 := Lib.hid q7
    have HN := Lib.hid (HN.out.step b7)
    have HD5 := Lib.hid (HD5.out.step b7)
    have hb := hb.trans (b7.mono hb.size)
    clear q7 b7
    go_wp2_with fail
    refine (shiftedRef_any _ (pF - 1) 2 W7 (by decide) (by omega) HN.out).mono ?_
    rintro e W8 ⟨⟨d8, rfl, q8⟩, b8⟩
    have HD8 := Lib.hid q8
    have HD7 := Lib.hid (HD7.out.step b8)
    have HD5 := Lib.hid (HD5.out.step b8)
    have hb := hb.trans (b8.mono hb.size)
    clear q8 b8 HN
    go_wp2_with fail
    refine (powerRef_any _ _ 2 ((pF - 1) / 2 ^ 2) W8 (by decide) (by decide) HD7.out HD8.out).mono ?_
    rintro e W9 ⟨⟨d9, rfl, q9⟩, b9⟩
    have HD9 := Lib.hid q9
    have HD5 := Lib.hid (HD5.out.step b9)
    have hb := hb.trans (b9.mono hb.size)
    clear q9 b9 HD7 HD8
    go_wp2_with fail
    refine (mulRef_any _ _ X (powF 2 ((pF - 1) / 2 ^ 2)) W9 hXl (powF_lt _ _) HD5.out HD9.out).mono ?_
    rintro e Wa ⟨⟨dy, rfl, qy⟩, b9⟩
    rw [HM.out] at qy
    have HDY := Lib.hid qy
    have hb := hb.trans (b9.mono hb.size)
    clear qy b9 HD5 HD9 HM
    go_wp2_with fail
    have HAn := Lib.hid (HA.out.step hb)
    refine (mulRef_any _ _ Y Y _ hYl hYl HDY.out HDY.out).mono ?_
    rintro e Wm ⟨⟨dm, rfl, qm⟩, bm⟩
    have HMm := Lib.hid qm
    have HDY := Lib.hid (HDY.out.step bm)
    have HAn := Lib.hid (HAn.out.step bm)
    have hb := hb.trans (bm.mono hb.size)
    clear qm bm
    go_wp2_with fail
    refine (sameRef_any _ _ (mulF Y Y) x _ (Nat.lt_trans (mulF_lt _ _) (by decide)) (Nat.lt_trans HX.out (by decide)) HMm.out HAn.out).mono ?_
    rintro e Ws ⟨rfl, bs⟩
    have HDY := Lib.hid (HDY.out.step bs)
    have HAn := Lib.hid (HAn.out.step bs)
    have hb := hb.trans (bs.mono hb.size)
    clear bs HMm
    by_cases hc : mulF Y Y = x
    · skip
      rw [decide_eq_true hc]
      have HV := Lib.hid (HV3.out hc)
      obtain ⟨Dy, cy, rfl, hcy⟩ := HDY.out
      have c0 := hcy 0 (by decide)
      have hp : (digN Y).getD 0 0 % 2 = Y % 2 := by rw [digN_get _ _ (by decide), Nat.pow_zero, Nat.div_one]; omega
      have hl0 := digN_lt Y 0 (by decide)
      have HY0 := Lib.hid (show evenR Y = if Y % 2 = 1 then subF 0 Y else Y from rfl)
      have hE := hb
      by_cases hodd : Y % 2 = 1
      · rw [if_pos hodd] at HY0
        have hd1 : ((((digN Y).getD 0 0 : Nat) : Int) % 2 == 1) = true := by simp only [beq_iff_eq]; omega
        generalize (digN Y).getD 0 0 = d0 at *
        clear hp hcy hodd
        go_wp2_with fail
        refine (zero_any _).mono ?_
        rintro e Wz ⟨rfl, rfl⟩
        have bz := below_new Ws (.cells zeros16 3)
        have HYz := Lib.hid (HDY.out.step bz)
        have HZz := Lib.hid (show DigAt (Ws.alloc (.cells zeros16 3)) (.slice (some ⟨Ws.heap.size, 0, none⟩) 16 16) (digN 0) from DigAt.of_block (l := digN 0) (blk_new Ws _) (digN_length _))
        have hb := hb.trans (bz.mono hb.size)
        clear bz
        go_wp2_with fail
        refine (subRef_any _ _ 0 Y _ (by decide) hYl HZz.out HYz.out).mono ?_
        rintro e Wf ⟨⟨df, rfl, qf⟩, bf⟩
        rw [← HY0.out] at qf
        have HF := Lib.hid qf
        have hb := hb.trans (bf.mono hb.size)
        clear qf bf HYz HZz
        go_wp2_with fail
        go_ret2
        exact ⟨⟨_, by rw [HV.out]; rfl, by rw [HV.out]; exact HF.out⟩, hb⟩
      · rw [if_neg hodd] at HY0
        have hd1 : ((((digN Y).getD 0 0 : Nat) : Int) % 2 == 1) = false := by simp only [beq_eq_false_iff_ne, ne_eq]; omega
        generalize (digN Y).getD 0 0 = d0 at *
        clear hp hcy hodd
        go_wp2_with fail
        go_ret2
        exact ⟨⟨_, by rw [HV.out]; rfl, by rw [HV.out]; show DigAt _ _ (digN (evenR Y)); rw [HY0.out]; exact HDY.out⟩, hb⟩
    · have HV := Lib.hid (HV4.out hc)
      rw [decide_eq_false hc]
      go_wp2_with fail
      refine (zero_any _).mono ?_
      rintro e Wz ⟨rfl, rfl⟩
      have bz := below_new Ws (.cells zeros16 3)
      have HZz := Lib.hid (show DigAt (Ws.alloc (.cells zeros16 3)) (.slice (some ⟨Ws.heap.size, 0, none⟩) 16 16) (digN 0) from DigAt.of_block (l := digN 0) (blk_new Ws _) (digN_length _))
      have hb := hb.trans (bz.mono hb.size)
      clear bz
      go_wp2_with fail
      go_ret2
      exact ⟨⟨_, by rw [HV.out]; rfl, by rw [HV.out]; exact HZz.out⟩, hb⟩
end Go.Proofs.YtfidcdkoggfjaaaDoor
