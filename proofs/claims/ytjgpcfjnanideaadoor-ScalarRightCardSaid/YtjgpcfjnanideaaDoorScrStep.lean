/- The reference's step: twice a number and a bit. -/
import Derived.Test.YtjgpcfjnanideaaDoorScrLess
namespace Go.Proofs.YtjgpcfjnanideaaDoor
open Go.RowKit Go.Sort
set_option maxRecDepth 100000
set_option linter.unusedSimpArgs false
set_option linter.unusedVariables false

theorem cy2_le (x b i : Nat) (hb : b < 2) : cy2 x b i ≤ 1 := by
  have hp : 0 < 65536 ^ i := Nat.pow_pos (by decide)
  have h : (2 * (x % 65536 ^ i) + b) / 65536 ^ i < 2 := Nat.div_lt_of_lt_mul (by have := Nat.mod_lt x hp; omega)
  rw [cy2]
  omega
/-- A number's digits while another one is taken from it. -/
def stD (y z i : Nat) : List Nat := mkD fun j => if j < i then z / 65536 ^ j % 65536 else y / 65536 ^ j % 65536
theorem stD_length (y z i : Nat) : (stD y z i).length = 16 := mkD_length _
theorem stD_zero (y z : Nat) : stD y z 0 = digN y := nums_ext (stD_length ..) (digN_length _) fun j hj => by rw [stD, mkD_get _ _ hj, if_neg (by omega), digN_get _ _ hj]
theorem stD_full (y z : Nat) : stD y z 16 = digN z := nums_ext (stD_length ..) (digN_length _) fun j hj => by rw [stD, mkD_get _ _ hj, if_pos hj, digN_get _ _ hj]
theorem stD_get (y z i : Nat) (h : i < 16) : (stD y z i).getD i 0 = y / 65536 ^ i % 65536 := by rw [stD, mkD_get _ _ h, if_neg (by omega)]
theorem stD_set (y z i : Nat) (h : i < 16) : (stD y z i).set i (z / 65536 ^ i % 65536) = stD y z (i + 1) := by
  have := mkD_set (fun j => if j < i then z / 65536 ^ j % 65536 else y / 65536 ^ j % 65536) (fun j => if j < i + 1 then z / 65536 ^ j % 65536 else y / 65536 ^ j % 65536) i h (fun j hj hne => by
    by_cases h1 : j < i
    · simp [h1, Nat.lt_succ_of_lt h1]
    · have : ¬ j < i + 1 := by omega
      simp [h1, this])
  rw [stD, stD]
  simpa using this
theorem two_mF (x b : Nat) (hx : x < lF) (hb : b < 2) : 2 * x + b < mF := by
  have e1 : lF = 7237005577332262213973186563042994240857116359379907606001950938285454250989 := rfl
  have e2 : mF = 115792089237316195423570985008687907853269984665640564039457584007913129639936 := rfl
  omega
theorem brF_le (x y i : Nat) : brF x y i ≤ 1 := by rw [brF]; split <;> omega

set_option maxHeartbeats 4000000 in
theorem stepRef_any (da : Value) (x b : Nat) (w : World) (hx : x < lF) (hb : b < 2) (ha : DigAt w da (digN x)) :
    Calls Tryd.prog 29 #[da, .int .i64 (b : Int)] w fun e w' => (∃ d', e = .returned d' ∧ DigAt w' d' (digN ((2 * x + b) % lF))) ∧ Below w.heap.size w w' := by
  obtain ⟨Da, ca, rfl, hca⟩ := ha
  have HCA := Lib.hid hca
  have HA := Lib.hid (digN_lt x)
  have HAG := Lib.hid (fun j (hj : j < 16) => digN_get x j hj)
  have HST := Lib.hid (fun i => cy2_step x b i hb)
  have HCL := Lib.hid (fun i => cy2_le x b i hb)
  have hy2 := two_mF x b hx hb
  have HY2 := Lib.hid hy2
  have HTW := Lib.hid (twice_mod x b hx hb)
  have HC0 := Lib.hid (cy2_zero x b)
  have hmk := makeF16
  obtain ⟨f, hf⟩ : ∃ f : Nat → Nat, f = fun i => (2 * x + b) / 65536 ^ i % 65536 := ⟨_, rfl⟩
  have HF := Lib.hid (fun j => (show f j = (2 * x + b) / 65536 ^ j % 65536 by rw [hf]))
  have HV := Lib.hid (show mkD f = digN (2 * x + b) by rw [hf]; rfl)
  have HO := Lib.hid (show (w.alloc (.cells zerosF16 3)).heap[w.heap.size]? = some (.cells (dcl (partD f 0)) 3) from blk_new w _)
  have hB0 := below_new w (.cells zerosF16 3)
  have hla := block_lt_of_cell (hca 0 (by decide))
  clear hca hx hf hy2
  go_enter Tryd.func29, Tryd.ntmps29
  go_wp2_with fail
  clear hmk
  generalize (w.alloc (.cells zerosF16 3)) = W0 at *
  generalize hBB : w.heap.size = O at *
  have HBB := Lib.hid hBB
  clear hBB
  go_loopw [6, 7] (fun cv iv wr => ∃ i : Nat, i ≤ 16 ∧ iv = .int .i64 (i : Int) ∧ cv = .int .i64 ((cy2 x b i : Nat) : Int) ∧ wr.heap[O]? = some (.cells (dcl (partD f i)) 3) ∧ Below O w wr) (fun _ iv _ => 16 - (intOf iv).toNat)
  case atStart => exact ⟨0, by omega, rfl, by rw [HC0.out], HO.out, hB0⟩
  case round =>
    clear HO hB0
    obtain ⟨i, hi, rfl, rfl, ho, hbl⟩ := hrel
    have HO := Lib.hid ho
    clear ho
    by_cases hi16 : i < 16
    · have hdi : decide ((i : Int) < 16) = true := by simp; omega
      have c1 := (hbl.cell (p := ⟨Da, i, none⟩) hla).trans (HCA.out i hi16)
      obtain ⟨s1, s2⟩ := HST.out i
      have hcl := HCL.out i
      have hd1 := HA.out i hi16
      rw [← HAG.out i hi16] at s1 s2
      rw [← HF.out i] at s1
      have HS1 := Lib.hid s1; have HS2 := Lib.hid s2.symm
      clear s1 s2
      generalize (digN x).getD i 0 = d at *
      generalize cy2 x b i = c at *
      have hand : bits .and .i64 ((c : Int) + 2 * (d : Int)) 65535 = ((f i : Nat) : Int) := by
        have := and_16 (c + 2 * d) (by omega)
        rw [HS1.out] at this
        rw [← this]
        congr 1
      have cx := dcl_cell HO.out i (by rw [partD_length]; exact hi16)
      have fx := frozen_of_row wr O i _ _ HO.out
      have r1 := dcl_set HO.out i (f i)
      rw [partD_set f i hi16] at r1
      have HO1 := Lib.hid r1
      have hb1 : Below O w (wr.setCell ⟨O, i, none⟩ (.int .i64 ((f i : Nat) : Int))) := hbl.setCell (Nat.le_refl _) _
      clear r1 hbl
      generalize f i = fi at *
      go_wp2_with fail
      go_roundw
      case rel => exact ⟨i + 1, by omega, by go_num, by rw [HS2.out]; go_num, HO1.out, hb1⟩
      case measure => simp [intOf]; omega
    · have hdi : decide ((i : Int) < 16) = false := by simp; omega
      obtain rfl : i = 16 := by omega
      rw [partD_full, HV.out] at HO
      generalize hyy : 2 * x + b = y at *
      have HYY := Lib.hid hyy
      clear hyy
      go_wp2_with fail
      refine (order_any wr).mono ?_
      rintro e W1 ⟨rfl, rfl⟩
      have HOl := blk_lt HO.out
      have HL1 := Lib.hid (blk_new wr (.cells (dcl (digN lF)) 3))
      have HO1 := Lib.hid (blk_old (o := .cells (dcl (digN lF)) 3) HO.out)
      have hb1 : Below O w (wr.alloc (.cells (dcl (digN lF)) 3)) := hbl.alloc (by omega) _
      clear HO hbl
      generalize (wr.alloc (.cells (dcl (digN lF)) 3)) = W1 at *
      generalize wr.heap.size = L at *
      have HLe := Lib.hid (lessRef_any (.slice (some ⟨O, 0, none⟩) 16 16) (.slice (some ⟨L, 0, none⟩) 16 16) y lF W1 HY2.out lF_lt (DigAt.of_block HO1.out (digN_length _)) (DigAt.of_block HL1.out (digN_length _)))
      by_cases hlt : y < lF
      · rw [decide_eq_true hlt] at HLe
        rw [if_pos hlt] at HTW
        go_wp2_with fail
        refine HLe.out.mono ?_
        rintro e W2 ⟨rfl, hb2⟩
        have HO2 := Lib.hid (blk_below hb2 (blk_lt HO1.out) HO1.out)
        have hb3 : Below O w W2 := hb1.trans (hb2.mono (Nat.le_of_lt (blk_lt HO1.out)))
        clear hb2 HLe HO1 HL1
        go_wp2_with fail
        go_ret
        exact ⟨⟨_, rfl, by rw [HYY.out, HTW.out]; exact DigAt.of_block HO2.out (digN_length _)⟩, by rw [HBB.out]; exact hb3⟩
      · rw [decide_eq_false hlt] at HLe
        rw [if_neg hlt] at HTW
        have HBR := Lib.hid (fun i => brF_step y lF i (by omega))
        have HYG := Lib.hid (fun j (hj : j < 16) => digN_get lF j hj)
        have HLF := Lib.hid (digN_lt lF)
        go_wp2_with fail
        refine HLe.out.mono ?_
        rintro e W2 ⟨rfl, hb2⟩
        have HO2 := Lib.hid (blk_below hb2 (blk_lt HO1.out) HO1.out)
        have HL2 := Lib.hid (blk_below hb2 (blk_lt HL1.out) HL1.out)
        have hb3 : Below O w W2 := hb1.trans (hb2.mono (Nat.le_of_lt (blk_lt HO1.out)))
        clear hb2 HLe HO1 HL1
        go_wp2_with fail
        go_loopw [9, 10] (fun bv iv wr => ∃ i : Nat, i ≤ 16 ∧ iv = .int .i64 (i : Int) ∧ bv = .int .i64 (-((brF y lF i : Nat) : Int)) ∧ wr.heap[O]? = some (.cells (dcl (stD y (y - lF) i)) 3) ∧ wr.heap[L]? = some (.cells (dcl (digN lF)) 3) ∧ Below O w wr) (fun _ iv _ => 16 - (intOf iv).toNat)
        case atStart => exact ⟨0, by omega, rfl, by rw [brF_zero]; rfl, by rw [stD_zero]; exact HO2.out, HL2.out, hb3⟩
        case round =>
          clear HO2 HL2 hb3
          obtain ⟨i, hi, rfl, rfl, ho, hl2, hbl⟩ := hrel
          have HO := Lib.hid ho; have HL := Lib.hid hl2
          clear ho hl2
          by_cases hi16 : i < 16
          · have hdi : decide ((i : Int) < 16) = true := by simp; omega
            have c1 := dcl_cell HO.out i (by rw [stD_length]; exact hi16)
            have c2 := dcl_cell HL.out i (by rw [digN_length]; exact hi16)
            rw [stD_get _ _ _ hi16] at c1
            obtain ⟨s1, s2⟩ := HBR.out i
            have hl16 := HLF.out i hi16
            have hbr := brF_le y lF i
            have hp16 : y / 65536 ^ i % 65536 < 65536 := Nat.mod_lt _ (by decide)
            rw [← HYG.out i hi16] at s1 s2
            have HS := Lib.hid (stD_set y (y - lF) i hi16)
            have hll := stD_length y (y - lF) i
            generalize (y - lF) / 65536 ^ i % 65536 = z at *
            generalize y / 65536 ^ i % 65536 = p at *
            generalize (digN lF).getD i 0 = q at *
            generalize hb4 : brF y lF (i + 1) = br2 at *
            have HB4 := Lib.hid hb4
            clear hb4
            generalize brF y lF i = br at *
            generalize stD y (y - lF) i = u at *
            have hsp : (p : Int) - (q : Int) + -(br : Int) = (p : Int) - (q : Int) - (br : Int) := by omega
            rw [← hsp] at s1 s2
            have hand := and_16i ((p : Int) - (q : Int) + -(br : Int))
            rw [s1] at hand
            have HS2 := Lib.hid s2
            clear s1 s2 hsp
            go_wp2_with fail
            go_quiet (fail)
            have HO3 : Hid ((wr.drewN nq).heap[O]? = some (.cells (dcl u) 3)) := Lib.hid HO.out
            have HL3 : Hid ((wr.drewN nq).heap[L]? = some (.cells (dcl (digN lF)) 3)) := Lib.hid HL.out
            have hb3 : Below O w (wr.drewN nq) := below_drewN hbl _
            clear c1 c2 HO HL hbl
            generalize wr.drewN nq = V at *
            have c1 := dcl_cell HO3.out i (by omega)
            have f1 := frozen_of_row V O i _ _ HO3.out
            have r1 := dcl_set HO3.out i z
            rw [HS.out] at r1
            have HO4 := Lib.hid r1
            have hlw := blk_lt HL3.out
            have HL4 : Hid ((V.setCell ⟨O, i, none⟩ (.int .i64 (z : Int))).heap[L]? = some (.cells (dcl (digN lF)) 3)) := Lib.hid (by rw [heap_setCell_other _ _ _ _ (by simp; omega)]; exact HL3.out)
            have hb4 : Below O w (V.setCell ⟨O, i, none⟩ (.int .i64 (z : Int))) := hb3.setCell (Nat.le_refl _) _
            clear r1 HO3 HL3 hb3 hlw
            go_wp2_with fail
            go_roundw
            case rel => exact ⟨i + 1, by omega, by go_num, by rw [HS2.out, HB4.out], HO4.out, HL4.out, hb4⟩
            case measure => simp [intOf]; omega
          · have hdi : decide ((i : Int) < 16) = false := by simp; omega
            obtain rfl : i = 16 := by omega
            rw [stD_full] at HO
            go_wp2_with fail
            go_ret
            exact ⟨⟨_, rfl, by rw [HYY.out, HTW.out]; exact DigAt.of_block HO.out (digN_length _)⟩, by rw [HBB.out]; exact hbl⟩
end Go.Proofs.YtjgpcfjnanideaaDoor
