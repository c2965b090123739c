/- The program's product, and its last reduction. -/
import Derived.Test.YtbbpgplfdodpmaaPolyFns
namespace Go.Proofs.Ytbbpgplfdodpmaa
open Go.RowKit Go.Sort
set_option maxRecDepth 100000
set_option linter.unusedSimpArgs false
set_option linter.unusedVariables false

theorem blk_new4 (w : World) (P R A D : Obj) : ((((w.alloc P).alloc R).alloc A).alloc D).heap[w.heap.size + 1 + 1 + 1]? = some D := by
  have := blk_new (((w.alloc P).alloc R).alloc A) D
  simpa using this
theorem below_new4 (w : World) (P R A D : Obj) : Below w.heap.size w ((((w.alloc P).alloc R).alloc A).alloc D) := (below_new3 w P R A).alloc (by simp; omega) _
def wzeros10 : Array Value := lmc (List.replicate 10 0)
theorem winfo10 : (Try.prog.info? 51).map (fun i => (i.zero, i.size)) = some (some (.agg wzeros10), 10) := by kernel_rfl

set_option maxHeartbeats 2000000 in
theorem ownTimes_any (v d : List Int) (w : World) (hl : v.length = 5) (hdl : d.length = 5) (hv : digitsIn 268435455 v) (hdv : digitsIn 67108863 d) :
    Calls Try.prog 22 #[.agg (lmc v), .agg (lmc d)] w fun e w' => e = .returned (.agg (lmc (timesL v d))) ∧ Below w.heap.size w w' := by
  obtain ⟨hz, hi⟩ := zero_of_info infoN
  obtain ⟨hz10, hi10⟩ := zero_of_info winfo10
  obtain ⟨_, _, _, tw, tf, tc⟩ := times_spec v d hl hdl hv hdv
  have HW := Lib.hid tw; have HF := Lib.hid tf; have HC := Lib.hid tc
  have HWI := Lib.hid (wAll_in v d hv hdv hl hdl)
  have HRI := Lib.hid (fun i out n (hi : i < 5) (hol : out.length = 10) ho k hk => wRow_in v d out i n hv hdv hl hdl hi hol ho k hk)
  have HL := Lib.hid hl; have HDL := Lib.hid hdl
  have HV := Lib.hid hv; have HDV := Lib.hid hdv
  have HG0 := Lib.hid (blk_old (o := .cells wzeros10 51) (blk_old (o := .cells zeros5 33) (blk_old (o := .cells (lmc d) 33) (blk_new w (.cells (lmc v) 33)))))
  have HD0 := Lib.hid (blk_old (o := .cells wzeros10 51) (blk_old (o := .cells zeros5 33) (blk_new2 w (.cells (lmc v) 33) (.cells (lmc d) 33))))
  have HR0 := Lib.hid (blk_old (o := .cells wzeros10 51) (blk_new3 w (.cells (lmc v) 33) (.cells (lmc d) 33) (.cells zeros5 33)))
  have HW0 := Lib.hid (blk_new4 w (.cells (lmc v) 33) (.cells (lmc d) 33) (.cells zeros5 33) (.cells wzeros10 51))
  have hb0 := below_new4 w (.cells (lmc v) 33) (.cells (lmc d) 33) (.cells zeros5 33) (.cells wzeros10 51)
  clear hi hi10 hl hdl hv hdv tw tf tc
  go_enter Try.func22, Try.ntmps22
  go_wp2_with fail
  clear hz hz10
  generalize ((((w.alloc _).alloc _).alloc _).alloc _) = W0 at *
  generalize hBB : w.heap.size = B at *
  have HBB := Lib.hid hBB
  clear hBB
  go_loopw [9] (fun iv wr => ∃ i : Nat, i ≤ 5 ∧ iv = .int .i64 (i : Int) ∧ wr.heap[B]? = some (.cells (lmc v) 33) ∧ wr.heap[B + 1]? = some (.cells (lmc d) 33) ∧ wr.heap[B + 1 + 1]? = some (.cells zeros5 33) ∧ wr.heap[B + 1 + 1 + 1]? = some (.cells (lmc (wAll v d i)) 51) ∧ Below B w wr) (fun iv _ => 5 - (intOf iv).toNat)
  case atStart => exact ⟨0, by omega, rfl, HG0.out, HD0.out, HR0.out, HW0.out, hb0⟩
  case round =>
    clear HG0 HD0 HR0 HW0 hb0
    obtain ⟨i, hi, rfl, hg, hdd, hr, hww, hb⟩ := hrel
    have HG := Lib.hid hg; have HD := Lib.hid hdd; have HR := Lib.hid hr; have HO := Lib.hid hww
    clear hg hr hdd hww
    by_cases hlt : i < 5
    · have hd : decide ((i : Int) < 5) = true := by simp; omega
      have HNX : Hid (wAll v d (i + 1) = wRow v d (wAll v d i) i 5) := Lib.hid rfl
      have HAl := Lib.hid (wAll_length v d i)
      have HAi := Lib.hid (HWI.out i hi)
      generalize wAll v d i = u at *
      go_wp2_with fail
      go_loopw [12] (fun jv wr => ∃ j : Nat, j ≤ 5 ∧ jv = .int .i64 (j : Int) ∧ wr.heap[B]? = some (.cells (lmc v) 33) ∧ wr.heap[B + 1]? = some (.cells (lmc d) 33) ∧ wr.heap[B + 1 + 1]? = some (.cells zeros5 33) ∧ wr.heap[B + 1 + 1 + 1]? = some (.cells (lmc (wRow v d u i j)) 51) ∧ Below B w wr) (fun jv _ => 5 - (intOf jv).toNat)
      case atStart => exact ⟨0, by omega, rfl, HG.out, HD.out, HR.out, HO.out, hb⟩
      case round =>
        clear HG HD HR HO hb
        obtain ⟨j, hj, rfl, hg, hdd, hr, hww, hb⟩ := hrel
        have HG := Lib.hid hg; have HD := Lib.hid hdd; have HR := Lib.hid hr; have HO := Lib.hid hww
        clear hg hr hdd hww
        by_cases hjlt : j < 5
        · have hdj : decide ((j : Int) < 5) = true := by simp; omega
          have HS : Hid (wRow v d u i (j + 1) = (wRow v d u i j).set (i + j) ((wRow v d u i j).getD (i + j) 0 + v.getD i 0 * d.getD j 0)) := Lib.hid rfl
          have hrl : (wRow v d u i j).length = 10 := by rw [wRow_length, HAl.out]
          obtain ⟨x0, x1⟩ := getD_in HV.out i (by rw [HL.out]; omega)
          obtain ⟨y0, y1⟩ := getD_in HDV.out j (by rw [HDL.out]; omega)
          obtain ⟨z0, z1⟩ := getD_in (HRI.out i u (5 * i) hlt HAl.out HAi.out j hj) (i + j) (by omega)
          have cx := lmc_cell HG.out i (by rw [HL.out]; omega)
          have cy := lmc_cell HD.out j (by rw [HDL.out]; omega)
          have cz := lmc_cell HO.out (i + j) (by omega)
          generalize v.getD i 0 = x at *
          generalize d.getD j 0 = y at *
          generalize hzz : (wRow v d u i j).getD (i + j) 0 = z at *
          have HZ := Lib.hid hzz
          clear hzz
          have p0 : 0 ≤ x * y := Int.mul_nonneg x0 y0
          have p1 : x * y ≤ 268435455 * 67108863 := Int.mul_le_mul x1 y1 y0 (by omega)
          have hw1 : (x * y) % 18446744073709551616 = x * y := by omega
          have hw2 : (z + x * y) % 18446744073709551616 = z + x * y := by omega
          have hij : ((i : Int) + (j : Int)).toNat = i + j := by omega
          clear x0 x1 y0 y1 z0 z1
          go_wp2_with fail
          have ka := cell_regrown cx; have kb := cell_regrown cy; have kc := cell_regrown cz
          refine wp_region_reads_tail 14 (by kernel_rfl) (by kernel_rfl) ?_
          simp only [List.take_succ_cons, List.take_zero, List.drop_succ_cons, List.drop_zero]
          repeat (first | go_big_quiet_step (fail) | quiet_step (fail))
          refine wpQuiet_nil ?_
          intro W1 hb1
          have hlw := blk_lt HO.out
          have hG1 := blk_below hb1 (by omega) HG.out
          have hD1 := blk_below hb1 (by omega) HD.out
          have hR1 := blk_below hb1 (by omega) HR.out
          have hO1 := blk_below hb1 hlw HO.out
          have fx := frozen_of_row W1 (B + 1 + 1 + 1) (i + j) _ _ hO1
          have cu := lmc_cell hO1 (i + j) (by omega)
          rw [HZ.out] at cu
          have r1 := lmc_heap_set hO1 (i + j) (z + x * y)
          rw [← HS.out] at r1
          have HO2 := Lib.hid r1
          have HG2 := Lib.hid (show (W1.setCell ⟨B + 1 + 1 + 1, i + j, none⟩ (.int .u64 (z + x * y))).heap[B]? = some (.cells (lmc v) 33) from by rw [heap_setCell_other _ _ _ _ (by simp <;> omega)]; exact hG1)
          have HD2 := Lib.hid (show (W1.setCell ⟨B + 1 + 1 + 1, i + j, none⟩ (.int .u64 (z + x * y))).heap[B + 1]? = some (.cells (lmc d) 33) from by rw [heap_setCell_other _ _ _ _ (by simp <;> omega)]; exact hD1)
          have HR2 := Lib.hid (show (W1.setCell ⟨B + 1 + 1 + 1, i + j, none⟩ (.int .u64 (z + x * y))).heap[B + 1 + 1]? = some (.cells zeros5 33) from by rw [heap_setCell_other _ _ _ _ (by simp)]; exact hR1)
          have hb2 : Below B w (W1.setCell ⟨B + 1 + 1 + 1, i + j, none⟩ (.int .u64 (z + x * y))) := (hb.trans (hb1.mono (by omega))).setCell (by simp; omega) _
          clear r1 hrl hb HR HG HD HO HS HZ ka kb kc cx cy cz hG1 hD1 hR1 hO1 hlw hb1
          go_wp2_with fail
          go_roundw
          case rel => exact ⟨j + 1, by omega, by go_num, HG2.out, HD2.out, HR2.out, HO2.out, hb2⟩
          case measure => simp [intOf]; omega
        · have hdj : decide ((j : Int) < 5) = false := by simp; omega
          obtain rfl : j = 5 := by omega
          rw [← HNX.out] at HO
          go_wp2_with fail
          go_roundw
          case rel => exact ⟨i + 1, by omega, by go_num, HG.out, HD.out, HR.out, HO.out, hb⟩
          case measure => simp [intOf]; omega
    · have hd : decide ((i : Int) < 5) = false := by simp; omega
      obtain rfl : i = 5 := by omega
      rw [show ((5 : Nat) : Int) = (5 : Int) from rfl] at *
      have HAl := Lib.hid (wAll_length v d 5)
      have HTM : Hid (timesL v d = carrL (carrL (foldG v (wAll v d 5) 5))) := Lib.hid rfl
      clear HWI HRI
      generalize wAll v d 5 = u at *
      go_wp2_with fail
      go_loopw [31] (fun kv wr => ∃ k : Nat, k ≤ 5 ∧ kv = .int .i64 (k : Int) ∧ wr.heap[B]? = some (.cells (lmc (foldG v u k)) 33) ∧ wr.heap[B + 1 + 1]? = some (.cells zeros5 33) ∧ wr.heap[B + 1 + 1 + 1]? = some (.cells (lmc u) 51) ∧ Below B w wr) (fun kv _ => 5 - (intOf kv).toNat)
      case atStart => exact ⟨0, by omega, rfl, HG.out, HR.out, HO.out, hb⟩
      case round =>
        clear HG HD HR HO hb hd
        obtain ⟨k, hk, rfl, hg, hr, hww, hb⟩ := hrel
        have HG := Lib.hid hg; have HR := Lib.hid hr; have HO := Lib.hid hww
        clear hg hr hww
        by_cases hklt : k < 5
        · have hdk : decide ((k : Int) < 5) = true := by simp; omega
          have HS : Hid (foldG v u (k + 1) = (foldG v u k).set k (u.getD k 0 + 5 * u.getD (5 + k) 0)) := Lib.hid rfl
          have hfl : (foldG v u k).length = 5 := by rw [foldG_length, HL.out]
          obtain ⟨x0, x1⟩ := getD_in HW.out k (by rw [HAl.out]; omega)
          obtain ⟨y0, y1⟩ := getD_in HW.out (5 + k) (by rw [HAl.out]; omega)
          have cx := lmc_cell HO.out k (by rw [HAl.out]; omega)
          have cy := lmc_cell HO.out (5 + k) (by rw [HAl.out]; omega)
          generalize u.getD k 0 = x at *
          generalize u.getD (5 + k) 0 = y at *
          have hw1 : (5 * y) % 18446744073709551616 = 5 * y := by omega
          have hw2 : (x + 5 * y) % 18446744073709551616 = x + 5 * y := by omega
          have hij : (5 + (k : Int)).toNat = 5 + k := by omega
          clear x0 x1 y0 y1
          go_wp2_with fail
          have ka := cell_regrown cx; have kb := cell_regrown cy
          refine wp_region_reads_tail 11 (by kernel_rfl) (by kernel_rfl) ?_
          simp only [List.take_succ_cons, List.take_zero, List.drop_succ_cons, List.drop_zero]
          repeat (first | go_big_quiet_step (fail) | quiet_step (fail))
          refine wpQuiet_nil ?_
          intro W1 hb1
          have hlw := blk_lt HO.out
          have hG1 := blk_below hb1 (by omega) HG.out
          have hR1 := blk_below hb1 (by omega) HR.out
          have hO1 := blk_below hb1 hlw HO.out
          have fx := frozen_of_row W1 B k _ _ hG1
          have cu := lmc_cell hG1 k (by omega)
          generalize (foldG v u k).getD k 0 = old at *
          have r1 := lmc_heap_set hG1 k (x + 5 * y)
          rw [← HS.out] at r1
          have HG2 := Lib.hid r1
          have HR2 := Lib.hid (show (W1.setCell ⟨B, k, none⟩ (.int .u64 (x + 5 * y))).heap[B + 1 + 1]? = some (.cells zeros5 33) from by rw [heap_setCell_other _ _ _ _ (by simp; try omega)]; exact hR1)
          have HO2 := Lib.hid (show (W1.setCell ⟨B, k, none⟩ (.int .u64 (x + 5 * y))).heap[B + 1 + 1 + 1]? = some (.cells (lmc u) 51) from by rw [heap_setCell_other _ _ _ _ (by simp <;> omega)]; exact hO1)
          have hb2 : Below B w (W1.setCell ⟨B, k, none⟩ (.int .u64 (x + 5 * y))) := (hb.trans (hb1.mono (by omega))).setCell (by simp) _
          clear r1 hfl hb HR HG HO HS ka kb cx cy hG1 hR1 hO1 hlw hb1
          go_wp2_with fail
          go_roundw
          case rel => exact ⟨k + 1, by omega, by go_num, HG2.out, HR2.out, HO2.out, hb2⟩
          case measure => simp [intOf]; omega
        · have hdk : decide ((k : Int) < 5) = false := by simp; omega
          obtain rfl : k = 5 := by omega
          have hfl : (foldG v u 5).length = 5 := by rw [foldG_length, HL.out]
          have HFI := Lib.hid (show digitsIn 4611686018427387904 (foldG v u 5) from fun x hx => by obtain ⟨a, b⟩ := HF.out x hx; exact ⟨a, by omega⟩)
          have HCI := Lib.hid (show digitsIn 4611686018427387904 (carrL (foldG v u 5)) from fun x hx => by obtain ⟨a, b⟩ := HC.out x hx; exact ⟨a, by omega⟩)
          clear HF HC HW
          generalize foldG v u 5 = f at *
          have HI := Lib.hid (sizeN f hfl)
          have HFL := Lib.hid hfl
          clear hfl
          go_wp2_with (with_reducible refine wpList_load_row rfl 33 _ rfl B rfl 33 _ (0, 0) _ HG.out Try.underlying33 rfl HI.out ?_)
          refine (ownCarried_any f wr HFL.out HFI.out).mono ?_
          rintro e W1 ⟨rfl, hb1⟩
          have hcl : (carrL f).length = 5 := by rw [carrL_length, HFL.out]
          generalize carrL f = g at *
          have HCL := Lib.hid hcl
          clear hcl
          have hlw := blk_lt HO.out
          have HR1 := Lib.hid (blk_below hb1 (by omega) HR.out)
          have hbb : Below B w W1 := hb.trans (hb1.mono (by omega))
          clear HR HG HO hb hlw hb1
          go_wp2_with fail
          refine (ownCarried_any g W1 HCL.out HCI.out).mono ?_
          rintro e W2 ⟨rfl, hb2⟩
          have hcl : (carrL g).length = 5 := by rw [carrL_length, HCL.out]
          rw [← HTM.out] at hcl
          rw [← HTM.out]
          have hlw := blk_lt HR1.out
          have HR2 := Lib.hid (blk_below hb2 (by omega) HR1.out)
          have hb3 : Below B w W2 := hbb.trans (hb2.mono (by omega))
          generalize hrow : timesL v d = row at *
          have HROW := Lib.hid hrow
          have HI2 := Lib.hid (sizeN row hcl)
          have HO2 := Lib.hid (zeros5_size row hcl)
          have H2 := Lib.hid (lmc_one row)
          clear hrow hcl hlw hbb hb2 HR1
          go_wp2_with (with_reducible refine wpList_store_row rfl 33 _ _ rfl (B + 1 + 1) (lmc row) rfl rfl 33 _ HR2.out HI2.out HO2.out H2.out ?_)
          exact bodyPost_ret (v := .agg (lmc row)) (results_cell_row (by rfl) _ _ (B + 1 + 1) 33 _ (0, 0) _ rfl (setRow_heap _ _ _ _ _ _ HR2.out) Try.underlying33 rfl HI2.out) rfl ⟨by first | (with_reducible rfl) | rw [HROW.out], by rw [HBB.out]; exact below_setRow hb3 (by omega) _⟩

set_option maxHeartbeats 1000000 in
theorem reduced_any (v : List Int) (w : World) (hl : v.length = 5) (hv : digitsIn 4611686018427387 v) (hV : limV v < 1361129467683753853853498429727072845824) :
    Calls Try.prog 13 #[.agg (lmc v)] w fun e w' => e = .returned (.agg (lmc (reducedL v))) ∧ Below w.heap.size w w' := by
  obtain ⟨hz, hi⟩ := zero_of_info infoN
  have HG0 := Lib.hid (blk_old (o := .cells zeros5 33) (blk_new w (.cells (lmc v) 33)))
  have HR0 := Lib.hid (blk_new2 w (.cells (lmc v) 33) (.cells zeros5 33))
  have hb0 := below_new2 w (.cells (lmc v) 33) (.cells zeros5 33)
  have HIv := Lib.hid (sizeN v hl)
  have hv62 : digitsIn 4611686018427387904 v := fun x hx => by obtain ⟨a, b⟩ := hv x hx; exact ⟨a, by omega⟩
  have h5in : digitsIn 5 [5, 0, 0, 0, 0] := fun x hx => by simp at hx; omega
  have hsin := sumIn v [5, 0, 0, 0, 0] hl rfl _ _ hv h5in
  have HP := Lib.hid (fun W => plus_any v [5, 0, 0, 0, 0] W hl rfl hv62 (fun x hx => by obtain ⟨a, b⟩ := h5in x hx; exact ⟨a, by omega⟩))
  have hsl : (sumL v [5, 0, 0, 0, 0] 5).length = 5 := by rw [sumL_length, hl]
  have HS := Lib.hid (fun W => spread_any (sumL v [5, 0, 0, 0, 0] 5) W hsl (fun x hx => by obtain ⟨a, b⟩ := hsin x hx; exact ⟨a, by omega⟩))
  have hspl : (spreadL (sumL v [5, 0, 0, 0, 0] 5)).length = 5 := by rw [spreadL_length, hsl]
  have hV0 := limV_nonneg v _ hv
  have hc : 0 ≤ spreadC (sumL v [5, 0, 0, 0, 0] 5) ∧ spreadC (sumL v [5, 0, 0, 0, 0] 5) ≤ 1 := by
    rw [(spread_V _ hsl).2, sumV v _ hl rfl, show limV [5, 0, 0, 0, 0] = 5 by decide]; omega
  have HRD : Hid (reducedL v = spreadL (v.set 0 (v.getD 0 0 + 5 * spreadC (sumL v [5, 0, 0, 0, 0] 5)))) := Lib.hid rfl
  have hrl : (reducedL v).length = 5 := by rw [reducedL_length, hl]
  obtain ⟨x0, x1⟩ := getD_in hv 0 (by omega)
  have HS2 := Lib.hid (fun W => spread_any (v.set 0 (v.getD 0 0 + 5 * spreadC (sumL v [5, 0, 0, 0, 0] 5))) W (by simpa using hl) (digitsIn_set hv (by omega) 0 _ (by omega) (by omega)))
  have HVL := Lib.hid hl
  have hlm5 : lmc [5, 0, 0, 0, 0] = #[.int .u64 5, .int .u64 0, .int .u64 0, .int .u64 0, .int .u64 0] := rfl
  have HZ := Lib.hid hz
  clear hi hl hv hv62 h5in hsin hsl hV hV0
  go_enter Try.func13, Try.ntmps13
  go_wp2_with (with_reducible refine wpList_load_row rfl 33 _ rfl w.heap.size rfl 33 _ (0, 0) _ HG0.out Try.underlying33 rfl HIv.out ?_)
  rw [show zeros5.setIfInBounds 0 (Value.int .u64 5) = lmc [5, 0, 0, 0, 0] by rw [zeros5, lmc_set]; rfl]
  generalize ((w.alloc _).alloc _) = W0 at *
  generalize hBB : w.heap.size = B at *
  have HBB := Lib.hid hBB
  clear hBB
  refine (HP.out W0).mono ?_
  rintro e W1 ⟨rfl, hb1⟩
  have hlt0 := blk_lt HR0.out
  have HG := Lib.hid (blk_below hb1 (by omega) HG0.out)
  have HR := Lib.hid (blk_below hb1 hlt0 HR0.out)
  have hb : Below B w W1 := hb0.trans (hb1.mono (by omega))
  generalize sumL v [5, 0, 0, 0, 0] 5 = s at *
  clear HP HG0 HR0 hb0 hb1 hlt0
  go_wp2_with fail
  refine (HS.out W1).mono ?_
  rintro e W2 ⟨rfl, hb2⟩
  have hlt1 := blk_lt HR.out
  have HG1 := Lib.hid (blk_below hb2 (by omega) HG.out)
  have HR1 := Lib.hid (blk_below hb2 hlt1 HR.out)
  have hbb : Below B w W2 := hb.trans (hb2.mono (by omega))
  clear HS HG HR hb hb2 hlt1
  generalize spreadL s = u at *
  generalize spreadC s = c at *
  have HIu := Lib.hid (sizeN u hspl)
  have HZu := Lib.hid (zeros5_size u hspl)
  have H1u := Lib.hid (lmc_one u)
  have hlt2 := blk_lt HR1.out
  have HN := Lib.hid (blk_new W2 (.cells zeros5 33))
  have HG2 := Lib.hid (show ((W2.alloc (.cells zeros5 33)).setRow W2.heap.size (lmc u)).heap[B]? = some (.cells (lmc v) 33) from by rw [setRow_other _ _ _ _ (by omega)]; exact blk_old HG1.out)
  have HR2 := Lib.hid (show ((W2.alloc (.cells zeros5 33)).setRow W2.heap.size (lmc u)).heap[B + 1]? = some (.cells zeros5 33) from by rw [setRow_other _ _ _ _ (by omega)]; exact blk_old HR1.out)
  have hb3 : Below B w ((W2.alloc (.cells zeros5 33)).setRow W2.heap.size (lmc u)) := below_setRow (hbb.alloc (by omega) _) (by omega) _
  have cx := lmc_cell HG2.out 0 (by rw [HVL.out]; omega)
  have fx := frozen_of_row _ B 0 _ _ HG2.out
  have HG3 := Lib.hid (lmc_heap_set HG2.out 0 (v.getD 0 0 + 5 * c))
  have HR3 := Lib.hid (show ((((W2.alloc (.cells zeros5 33)).setRow W2.heap.size (lmc u))).setCell ⟨B, 0, none⟩ (.int .u64 (v.getD 0 0 + 5 * c))).heap[B + 1]? = some (.cells zeros5 33) from by rw [heap_setCell_other _ _ _ _ (by simp)]; exact HR2.out)
  have hb4 : Below B w ((((W2.alloc (.cells zeros5 33)).setRow W2.heap.size (lmc u))).setCell ⟨B, 0, none⟩ (.int .u64 (v.getD 0 0 + 5 * c))) := hb3.setCell (by simp) _
  have hvl : (v.set 0 (v.getD 0 0 + 5 * c)).length = 5 := by simpa using HVL.out
  have HI3 := Lib.hid (sizeN _ hvl)
  generalize hx : v.getD 0 0 = x at *
  clear hx
  generalize v.set 0 (x + 5 * c) = y at *
  have hw : (x + 5 * c) % 18446744073709551616 = x + 5 * c := by omega
  have hw2 : (5 * c) % 18446744073709551616 = 5 * c := by omega
  clear hb3 hbb HR2 HR1 HG1
  go_wp2_with (first
    | (with_reducible refine wpList_store_row rfl 33 _ _ rfl W2.heap.size (lmc u) rfl rfl 33 _ HN.out HIu.out HZu.out H1u.out ?_)
    | (with_reducible refine wpList_load_row rfl 33 _ rfl B rfl 33 _ (0, 0) _ HG3.out Try.underlying33 rfl HI3.out ?_))
  clear cx fx hz hw hw2
  generalize (World.setCell _ _ _) = W3 at *
  refine (HS2.out W3).mono ?_
  rintro e W4 ⟨rfl, hb5⟩
  have hlt3 := blk_lt HR3.out
  have HG4 := Lib.hid (blk_below hb5 (by omega) HG3.out)
  have HR4 := Lib.hid (blk_below hb5 hlt3 HR3.out)
  have hb6 : Below B w W4 := hb4.trans (hb5.mono (by omega))
  rw [← HRD.out]
  generalize spreadC y = c2 at *
  generalize hrow : reducedL v = row at *
  have HROW := Lib.hid hrow
  have HI4 := Lib.hid (sizeN row hrl)
  have HO4 := Lib.hid (zeros5_size row hrl)
  have HY4 := Lib.hid (show (lmc y).size = (lmc row).size from by rw [lmc_size, lmc_size, hvl, hrl])
  have H4 := Lib.hid (lmc_one row)
  have HG5 := Lib.hid (setRow_heap W4 B _ (lmc row) _ _ HG4.out)
  have HR5 := Lib.hid (show (W4.setRow B (lmc row)).heap[B + 1]? = some (.cells zeros5 33) from by rw [setRow_other _ _ _ _ (by omega)]; exact HR4.out)
  have hb7 : Below B w (W4.setRow B (lmc row)) := below_setRow hb6 (Nat.le_refl _) _
  clear hrow hlt3 hb4 hb5 hb6 HG3 HR3 HR4 HRD hrl hvl
  go_wp2_with (first
    | (with_reducible refine wpList_store_row rfl 33 _ _ rfl B (lmc row) rfl rfl 33 _ HG4.out HI4.out HY4.out H4.out ?_)
    | (with_reducible refine wpList_load_row rfl 33 _ rfl B rfl 33 _ (0, 0) _ HG5.out Try.underlying33 rfl HI4.out ?_)
    | (with_reducible refine wpList_store_row rfl 33 _ _ rfl (B + 1) (lmc row) rfl rfl 33 _ HR5.out HI4.out HO4.out H4.out ?_))
  exact bodyPost_ret (v := .agg (lmc row)) (results_cell_row (by rfl) _ _ (B + 1) 33 _ (0, 0) _ rfl (setRow_heap _ _ _ _ _ _ HR5.out) Try.underlying33 rfl HI4.out) rfl ⟨by first | (with_reducible rfl) | rw [HROW.out], by rw [HBB.out]; exact below_setRow hb7 (by omega) _⟩
end Go.Proofs.Ytbbpgplfdodpmaa
