/- The program's small functions on numbers: spread, carried, plus. -/
import Derived.Test.YtbbpgplfdodpmaaPolyLimb
import Derived.Laws.Tables
import Derived.Laws.ResultCell
namespace Go.Proofs.Ytbbpgplfdodpmaa
open Go.RowKit Go.Sort
set_option maxRecDepth 100000
set_option linter.unusedSimpArgs false
set_option linter.unusedVariables false

/-- The cells of a number. -/
def u64s (l : List Int) : List Value := l.map (Value.int .u64)
def lmc (l : List Int) : Array Value := (u64s l).toArray
def zeros5 : Array Value := lmc (List.replicate 5 0)
theorem infoN : (Try.prog.info? 33).map (fun i => (i.zero, i.size)) = some (some (.agg zeros5), 5) := by kernel_rfl
theorem lmc_size (l : List Int) : (lmc l).size = l.length := by simp [lmc, u64s]
theorem lmc_get (l : List Int) (j : Nat) (h : j < l.length) : (lmc l)[j]? = some (.int .u64 (l.getD j 0)) := by simp [lmc, u64s, h]
theorem lmc_set (l : List Int) (j : Nat) (x : Int) : (lmc l).setIfInBounds j (.int .u64 x) = lmc (l.set j x) := by simp [lmc, u64s, List.map_set]
theorem lmc_one (l : List Int) : (lmc l).all (·.oneCell') = true := by
  rw [Array.all_eq_true]
  intro i hi
  simp [lmc, u64s, Value.oneCell']
theorem lmc_cell {W : World} {B : Nat} {l : List Int} {T : TypeId} {fr : Nat × Nat} (h : W.heap[B]? = some (.cells (lmc l) T fr)) (j : Nat) (hj : j < l.length) : W.cell? ⟨B, j, none⟩ = some (.int .u64 (l.getD j 0)) := by rw [cell_of_row W _ _ _ _ _ h]; exact lmc_get l j hj
theorem lmc_heap_set {W : World} {B : Nat} {l : List Int} {T : TypeId} (h : W.heap[B]? = some (.cells (lmc l) T)) (j : Nat) (x : Int) : (W.setCell ⟨B, j, none⟩ (.int .u64 x)).heap[B]? = some (.cells (lmc (l.set j x)) T) := by rw [← lmc_set]; exact Go.heap_setCell_same _ _ _ _ _ _ h
theorem sizeN (l : List Int) (h : l.length = 5) : (Try.prog.info? 33).map (·.size) = some (lmc l).size := by rw [lmc_size, h]; exact (zero_of_info infoN).2
theorem zeros5_size (l : List Int) (h : l.length = 5) : zeros5.size = (lmc l).size := by rw [lmc_size, h]; exact lmc_size _
theorem and_26 (y : Int) : bits .and .u64 y 67108863 = y % 67108864 := by
  have h1 : (BitVec.ofInt 64 67108863).toNat = 2 ^ 26 - 1 := by decide
  have key : (BitVec.ofInt 64 y &&& BitVec.ofInt 64 67108863).toNat = (y % ((2 ^ 64 : Nat) : Int)).toNat % 2 ^ 26 := by
    rw [BitVec.toNat_and, BitVec.toNat_ofInt, h1, Nat.and_two_pow_sub_one_eq_mod]
  show IntKind.u64.wrap ((BitVec.ofInt 64 y &&& BitVec.ofInt 64 67108863).toNat : Nat) = y % 67108864
  rw [key, IntKind.wrap_u64]
  omega
theorem results_row_tmp {P : Program} {fn : Func} {p u : Tmp} {ty : TypeId} (h : fn.results = #[.cell p ty, .tmp u]) (tmps : Array Value) (w : World) (g : Nat) (t : TypeId) (cs : Array Value) (fr : Nat × Nat) (d : TypeDesc)
    (hp : tmps.getD p undef = .pointer (some ⟨g, 0, none⟩)) (hg : w.heap[g]? = some (.cells cs t fr))
    (hu : P.underlying ty = some d) (hd : (match d with | .struct _ | .array _ _ => true | _ => false) = true) (hi : (P.info? ty).map (·.size) = some cs.size) :
    (results fn tmps).run P w = .ok (.tuple #[.agg cs, tmps.getD u undef]) w := by
  rw [results_cell_tmp h, hp]
  simp [asAddr, run_loadVar_row w g t ty cs fr d hg hu hd hi, Result.andThen]

set_option maxHeartbeats 1000000 in
theorem spread_any (v : List Int) (w : World) (hl : v.length = 5) (hv : digitsIn 4611686018427387904 v) :
    Calls Try.prog 23 #[.agg (lmc v)] w fun e w' => e = .returned (.tuple #[.agg (lmc (spreadL v)), .int .u64 (spreadC v)]) ∧ Below w.heap.size w w' := by
  obtain ⟨hz, hi⟩ := zero_of_info infoN
  have HL := Lib.hid hl
  have HV := Lib.hid hv
  have HG0 := Lib.hid (blk_old (o := .cells zeros5 33) (blk_new w (.cells (lmc v) 33)))
  have HR0 := Lib.hid (blk_new2 w (.cells (lmc v) 33) (.cells zeros5 33))
  have hb0 := below_new2 w (.cells (lmc v) 33) (.cells zeros5 33)
  clear hi hl hv
  go_enter Try.func23, Try.ntmps23
  go_wp2_with fail
  clear hz
  generalize ((w.alloc _).alloc _) = W0 at *
  generalize hBB : w.heap.size = B at *
  have HBB := Lib.hid hBB
  clear hBB
  go_loopw [4, 6] (fun c i wr => ∃ k : Nat, k ≤ 5 ∧ i = .int .i64 (k : Int) ∧ c = .int .u64 (spG v k).2 ∧ wr.heap[B]? = some (.cells (lmc (spG v k).1) 33) ∧ wr.heap[B + 1]? = some (.cells zeros5 33) ∧ Below B w wr) (fun _ i _ => 5 - (intOf i).toNat)
  case atStart => exact ⟨0, by omega, rfl, rfl, HG0.out, HR0.out, hb0⟩
  case round =>
    clear HG0 HR0 hb0
    obtain ⟨k, hk, rfl, rfl, hg, hr, hb⟩ := hrel
    have HG := Lib.hid hg; have HR := Lib.hid hr
    clear hg hr
    by_cases hlt : k < 5
    · have hd : decide ((k : Int) < 5) = true := by simp; omega
      obtain ⟨c0, c1⟩ := spG_carry v HV.out k (by rw [HL.out]; omega)
      obtain ⟨x0, x1⟩ := getD_in HV.out k (by rw [HL.out]; omega)
      rw [← spG_get v k k (Nat.le_refl _)] at x0 x1
      have HS1 : Hid ((spG v (k + 1)).1 = (spG v k).1.set k (((spG v k).1.getD k 0 + (spG v k).2) % 67108864)) := Lib.hid rfl
      have HS2 : Hid ((spG v (k + 1)).2 = ((spG v k).1.getD k 0 + (spG v k).2) / 67108864) := Lib.hid rfl
      have hll : (spG v k).1.length = 5 := by rw [spG_length, HL.out]
      generalize (spG v k).1 = u at *
      generalize (spG v k).2 = c at *
      have cx := lmc_cell HG.out k (by omega)
      have fx := frozen_of_row wr B k _ _ HG.out
      have e1 : (u.set k (u.getD k 0 + c)).getD k 0 = u.getD k 0 + c := by simp [List.getD_eq_getElem?_getD, hll, hlt]
      have r1 := lmc_heap_set HG.out k (u.getD k 0 + c)
      have cy := lmc_cell r1 k (by rw [List.length_set]; omega)
      rw [e1] at cy
      have fy := frozen_of_row _ B k _ _ r1
      have r2 := lmc_heap_set r1 k ((u.getD k 0 + c) % 67108864)
      rw [List.set_set] at r2
      generalize u.getD k 0 = x at *
      rw [← HS1.out] at r2
      have hw : (x + c) % 18446744073709551616 = x + c := by omega
      have ha := and_26 (x + c)
      have HR1 := Lib.hid (show (wr.setCell ⟨B, k, none⟩ (.int .u64 (x + c))).heap[B + 1]? = some (.cells zeros5 33) from by rw [heap_setCell_other _ _ _ _ (by simp)]; exact HR.out)
      have HR2 := Lib.hid (show ((wr.setCell ⟨B, k, none⟩ (.int .u64 (x + c))).setCell ⟨B, k, none⟩ (.int .u64 ((x + c) % 67108864))).heap[B + 1]? = some (.cells zeros5 33) from by rw [heap_setCell_other _ _ _ _ (by simp)]; exact HR1.out)
      have HG2 := Lib.hid r2
      have hb2 : Below B w ((wr.setCell ⟨B, k, none⟩ (.int .u64 (x + c))).setCell ⟨B, k, none⟩ (.int .u64 ((x + c) % 67108864))) := (hb.setCell (by simp) _).setCell (by simp) _
      clear r1 r2 e1 hll hb HR HR1 HG
      go_wp2_with fail
      go_roundw
      case rel => exact ⟨k + 1, by omega, by go_num, by rw [HS2.out], HG2.out, HR2.out, hb2⟩
      case measure => simp [intOf]; omega
    · have hd : decide ((k : Int) < 5) = false := by simp; omega
      obtain rfl : k = 5 := by omega
      have HG2 : Hid (wr.heap[B]? = some (.cells (lmc (spreadL v)) 33)) := HG
      have hll : (spreadL v).length = 5 := by rw [spreadL_length, HL.out]
      have hC : (spG v 5).2 = spreadC v := rfl
      rw [hC]
      clear HG hC
      generalize hrow : spreadL v = row at *
      have HROW := Lib.hid hrow
      clear hrow
      have HI := Lib.hid (sizeN row hll)
      have HO := Lib.hid (zeros5_size row hll)
      have H1 := Lib.hid (lmc_one row)
      go_wp2_with (first
        | (with_reducible refine wpList_load_row rfl 33 _ rfl B rfl 33 _ (0, 0) _ HG2.out Try.underlying33 rfl HI.out ?_)
        | (with_reducible refine wpList_store_row rfl 33 _ _ rfl (B + 1) (lmc row) rfl rfl 33 _ HR.out HI.out HO.out H1.out ?_))
      exact bodyPost_ret (results_row_tmp (by rfl) _ _ (B + 1) 33 _ (0, 0) _ rfl (setRow_heap _ _ _ _ _ _ HR.out) Try.underlying33 rfl HI.out) rfl ⟨by rw [HROW.out]; rfl, by rw [HBB.out]; exact below_setRow hb (by omega) _⟩

set_option maxHeartbeats 1000000 in
theorem ownCarried_any (v : List Int) (w : World) (hl : v.length = 5) (hv : digitsIn 4611686018427387904 v) :
    Calls Try.prog 24 #[.agg (lmc v)] w fun e w' => e = .returned (.agg (lmc (carrL v))) ∧ Below w.heap.size w w' := by
  obtain ⟨hz, hi⟩ := zero_of_info infoN
  have HG0 := Lib.hid (blk_old (o := .cells zeros5 33) (blk_new w (.cells (lmc v) 33)))
  have HR0 := Lib.hid (blk_new2 w (.cells (lmc v) 33) (.cells zeros5 33))
  have hb0 := below_new2 w (.cells (lmc v) 33) (.cells zeros5 33)
  have HIv := Lib.hid (sizeN v hl)
  have HC := Lib.hid (fun W => spread_any v W hl hv)
  have hll : (spreadL v).length = 5 := by rw [spreadL_length, hl]
  have hcl : (carrL v).length = 5 := by rw [carrL_length, hl]
  have hx := getD_in (spreadL_in v hl) 0 (by omega)
  have hc := spG_carry v hv 5 (by omega)
  have HCA : Hid (carrL v = (spreadL v).set 0 ((spreadL v).getD 0 0 + 5 * spreadC v)) := Lib.hid rfl
  have hcc : (spG v 5).2 = spreadC v := rfl
  rw [hcc] at hc
  clear hi hl hv hcc
  go_enter Try.func24, Try.ntmps24
  go_wp2_with (with_reducible refine wpList_load_row rfl 33 _ rfl w.heap.size rfl 33 _ (0, 0) _ HG0.out Try.underlying33 rfl HIv.out ?_)
  clear hz
  generalize ((w.alloc _).alloc _) = W0 at *
  generalize hBB : w.heap.size = B at *
  have HBB := Lib.hid hBB
  clear hBB
  refine (HC.out W0).mono ?_
  rintro e W1 ⟨rfl, hb1⟩
  have hlt0 := blk_lt HR0.out
  have HG := Lib.hid (blk_below hb1 (by omega) HG0.out)
  have HR := Lib.hid (blk_below hb1 hlt0 HR0.out)
  have hb : Below B w W1 := hb0.trans (hb1.mono (by omega))
  clear HC HG0 HR0 hb0 hb1 hlt0
  generalize spreadL v = u at *
  generalize spreadC v = c at *
  have HI := Lib.hid (sizeN u hll)
  have HSz := Lib.hid (show (lmc v).size = (lmc u).size from by have := HIv.out; rw [HI.out] at this; simpa using this.symm)
  have H1 := Lib.hid (lmc_one u)
  have rg := setRow_heap W1 B (lmc v) (lmc u) _ _ HG.out
  have rr : (W1.setRow B (lmc u)).heap[B + 1]? = some (.cells zeros5 33) := by rw [setRow_other _ _ _ _ (by omega)]; exact HR.out
  have cx := lmc_cell rg 0 (by omega)
  have fx := frozen_of_row _ B 0 _ _ rg
  have r2 := lmc_heap_set rg 0 (u.getD 0 0 + 5 * c)
  rw [← HCA.out] at r2
  have rr2 : ((W1.setRow B (lmc u)).setCell ⟨B, 0, none⟩ (.int .u64 (u.getD 0 0 + 5 * c))).heap[B + 1]? = some (.cells zeros5 33) := by rw [heap_setCell_other _ _ _ _ (by simp)]; exact rr
  have hb2 : Below B w ((W1.setRow B (lmc u)).setCell ⟨B, 0, none⟩ (.int .u64 (u.getD 0 0 + 5 * c))) := (below_setRow hb (Nat.le_refl _) _).setCell (by simp) _
  have HRG := Lib.hid r2
  have HRR := Lib.hid rr2
  generalize u.getD 0 0 = x at *
  clear rg rr r2 rr2 hb HR
  generalize hrow : carrL v = row at *
  have HROW := Lib.hid hrow
  clear hrow
  have HI2 := Lib.hid (sizeN row hcl)
  have HO := Lib.hid (zeros5_size row hcl)
  have H2 := Lib.hid (lmc_one row)
  have hw : (x + 5 * c) % 18446744073709551616 = x + 5 * c := by omega
  have hw2 : (5 * c) % 18446744073709551616 = 5 * c := by omega
  go_wp2_with (first
    | (with_reducible refine wpList_store_row rfl 33 _ _ rfl B (lmc u) rfl rfl 33 _ HG.out HI.out HSz.out H1.out ?_)
    | (with_reducible refine wpList_load_row rfl 33 _ rfl B rfl 33 _ (0, 0) _ HRG.out Try.underlying33 rfl HI2.out ?_)
    | (with_reducible refine wpList_store_row rfl 33 _ _ rfl (B + 1) (lmc row) rfl rfl 33 _ HRR.out HI2.out HO.out H2.out ?_))
  exact bodyPost_ret (v := .agg (lmc row)) (results_cell_row (by rfl) _ _ (B + 1) 33 _ (0, 0) _ rfl (setRow_heap _ _ _ _ _ _ HRR.out) Try.underlying33 rfl HI2.out) rfl ⟨by first | (with_reducible rfl) | rw [HROW.out], by rw [HBB.out]; exact below_setRow hb2 (by omega) _⟩

set_option maxHeartbeats 1000000 in
theorem plus_any (v d : List Int) (w : World) (hl : v.length = 5) (hdl : d.length = 5) (hv : digitsIn 4611686018427387904 v) (hdv : digitsIn 4611686018427387904 d) :
    Calls Try.prog 14 #[.agg (lmc v), .agg (lmc d)] w fun e w' => e = .returned (.agg (lmc (sumL v d 5))) ∧ Below w.heap.size w w' := by
  obtain ⟨hz, hi⟩ := zero_of_info infoN
  have HL := Lib.hid hl; have HDL := Lib.hid hdl
  have HV := Lib.hid hv; have HDV := Lib.hid hdv
  have HG0 := Lib.hid (blk_old (o := .cells zeros5 33) (blk_old (o := .cells (lmc d) 33) (blk_new w (.cells (lmc v) 33))))
  have HD0 := Lib.hid (blk_old (o := .cells zeros5 33) (blk_new2 w (.cells (lmc v) 33) (.cells (lmc d) 33)))
  have HR0 := Lib.hid (blk_new3 w (.cells (lmc v) 33) (.cells (lmc d) 33) (.cells zeros5 33))
  have hb0 := below_new3 w (.cells (lmc v) 33) (.cells (lmc d) 33) (.cells zeros5 33)
  clear hi hl hdl hv hdv
  go_enter Try.func14, Try.ntmps14
  go_wp2_with fail
  clear hz
  generalize (((w.alloc _).alloc _).alloc _) = W0 at *
  generalize hBB : w.heap.size = B at *
  have HBB := Lib.hid hBB
  clear hBB
  go_loopw [6] (fun i wr => ∃ k : Nat, k ≤ 5 ∧ i = .int .i64 (k : Int) ∧ wr.heap[B]? = some (.cells (lmc (sumL v d k)) 33) ∧ wr.heap[B + 1]? = some (.cells (lmc d) 33) ∧ wr.heap[B + 1 + 1]? = some (.cells zeros5 33) ∧ Below B w wr) (fun i _ => 5 - (intOf i).toNat)
  case atStart => exact ⟨0, by omega, rfl, HG0.out, HD0.out, HR0.out, hb0⟩
  case round =>
    clear HG0 HD0 HR0 hb0
    obtain ⟨k, hk, rfl, hg, hdd, hr, hb⟩ := hrel
    have HG := Lib.hid hg; have HD := Lib.hid hdd; have HR := Lib.hid hr
    clear hg hr hdd
    by_cases hlt : k < 5
    · have hd : decide ((k : Int) < 5) = true := by simp; omega
      obtain ⟨x0, x1⟩ := getD_in HV.out k (by rw [HL.out]; omega)
      obtain ⟨y0, y1⟩ := getD_in HDV.out k (by rw [HDL.out]; omega)
      rw [← sumL_get v d k k (Nat.le_refl _)] at x0 x1
      have HS : Hid (sumL v d (k + 1) = (sumL v d k).set k ((sumL v d k).getD k 0 + d.getD k 0)) := Lib.hid rfl
      have hll : (sumL v d k).length = 5 := by rw [sumL_length, HL.out]
      have cx := lmc_cell HG.out k (by omega)
      have cy := lmc_cell HD.out k (by rw [HDL.out]; omega)
      generalize hxx : (sumL v d k).getD k 0 = x at *
      have HX := Lib.hid hxx
      generalize d.getD k 0 = y at *
      have hw : (x + y) % 18446744073709551616 = x + y := by omega
      clear hxx
      go_wp2_with fail
      have ka := cell_regrown cx; have kb := cell_regrown cy
      refine wp_region_reads_tail 8 (by kernel_rfl) (by kernel_rfl) ?_
      simp only [List.take_succ_cons, List.take_zero, List.drop_succ_cons, List.drop_zero]
      repeat (first | go_big_quiet_step (fail) | quiet_step (fail))
      refine wpQuiet_nil ?_
      intro W1 hb1
      have hlw := blk_lt HR.out
      have hG1 := blk_below hb1 (by omega) HG.out
      have hD1 := blk_below hb1 (by omega) HD.out
      have hR1 := blk_below hb1 hlw HR.out
      have fx := frozen_of_row W1 B k _ _ hG1
      have cz := lmc_cell hG1 k (by omega)
      rw [HX.out] at cz
      have r1 := lmc_heap_set hG1 k (x + y)
      rw [← HS.out] at r1
      have HG2 := Lib.hid r1
      have HD2 := Lib.hid (show (W1.setCell ⟨B, k, none⟩ (.int .u64 (x + y))).heap[B + 1]? = some (.cells (lmc d) 33) from by rw [heap_setCell_other _ _ _ _ (by simp)]; exact hD1)
      have HR2 := Lib.hid (show (W1.setCell ⟨B, k, none⟩ (.int .u64 (x + y))).heap[B + 1 + 1]? = some (.cells zeros5 33) from by rw [heap_setCell_other _ _ _ _ (by simp; omega)]; exact hR1)
      have hb2 : Below B w (W1.setCell ⟨B, k, none⟩ (.int .u64 (x + y))) := (hb.trans (hb1.mono (by omega))).setCell (by simp) _
      clear r1 hll hb HR HG HD HS ka kb cx cy hG1 hD1 hR1 hlw hb1 HX
      go_wp2_with fail
      go_roundw
      case rel => exact ⟨k + 1, by omega, by go_num, HG2.out, HD2.out, HR2.out, hb2⟩
      case measure => simp [intOf]; omega
    · have hd : decide ((k : Int) < 5) = false := by simp; omega
      obtain rfl : k = 5 := by omega
      have hll : (sumL v d 5).length = 5 := by rw [sumL_length, HL.out]
      generalize hrow : sumL v d 5 = row at *
      have HROW := Lib.hid hrow
      clear hrow
      have HI := Lib.hid (sizeN row hll)
      have HO := Lib.hid (zeros5_size row hll)
      have H1 := Lib.hid (lmc_one row)
      go_wp2_with (first
        | (with_reducible refine wpList_load_row rfl 33 _ rfl B rfl 33 _ (0, 0) _ HG.out Try.underlying33 rfl HI.out ?_)
        | (with_reducible refine wpList_store_row rfl 33 _ _ rfl (B + 1 + 1) (lmc row) rfl rfl 33 _ HR.out HI.out HO.out H1.out ?_))
      exact bodyPost_ret (v := .agg (lmc row)) (results_cell_row (by rfl) _ _ (B + 1 + 1) 33 _ (0, 0) _ rfl (setRow_heap _ _ _ _ _ _ HR.out) Try.underlying33 rfl HI.out) rfl ⟨by first | (with_reducible rfl) | rw [HROW.out], by rw [HBB.out]; exact below_setRow hb (by omega) _⟩
end Go.Proofs.Ytbbpgplfdodpmaa
