/- The program's sums and products of limbs, and the carries: times, plus, carried. -/
import Derived.Test.YtjgpcfjnanideaaDoorScaLimb
import Derived.Test.YtjgpcfjnanideaaDoorFldP
namespace Go.Proofs.YtjgpcfjnanideaaDoor
open Go.RowKit Go.Sort
set_option maxRecDepth 100000
set_option linter.unusedSimpArgs false
set_option linter.unusedVariables false

/-- The cells of limbs of either sign. -/
def ic (l : List Int) : Array Value := (l.map fun x : Int => Value.int .i64 x).toArray
theorem ic_size (l : List Int) : (ic l).size = l.length := by simp [ic]
theorem ic_get (l : List Int) (j : Nat) (h : j < l.length) : (ic l)[j]? = some (.int .i64 (l.getD j 0)) := by simp [ic, h]
theorem ic_set (l : List Int) (j : Nat) (x : Int) : (ic l).setIfInBounds j (.int .i64 x) = ic (l.set j x) := by simp [ic, List.map_set]
theorem ic_one (l : List Int) : (ic l).all (·.oneCell') = true := by
  rw [Array.all_eq_true]
  intro i hi
  simp [ic, Value.oneCell']
theorem ic_cell {W : World} {B : Nat} {l : List Int} {T : TypeId} {fr : Nat × Nat} (h : W.heap[B]? = some (.cells (ic l) T fr)) (j : Nat) (hj : j < l.length) : W.cell? ⟨B, j, none⟩ = some (.int .i64 (l.getD j 0)) := by rw [cell_of_row W _ _ _ _ _ h]; exact ic_get l j hj
theorem ic_heap_set {W : World} {B : Nat} {l : List Int} {T : TypeId} (h : W.heap[B]? = some (.cells (ic l) T)) (j : Nat) (x : Int) : (W.setCell ⟨B, j, none⟩ (.int .i64 x)).heap[B]? = some (.cells (ic (l.set j x)) T) := by rw [← ic_set]; exact Go.heap_setCell_same _ _ _ _ _ _ h
def izeros8 : Array Value := ic (List.replicate 8 0)
theorem infoN : (Tryd.prog.info? 33).map (fun i => (i.zero, i.size)) = some (some (.agg izeros8), 8) := by kernel_rfl
theorem sizeN (l : List Int) (h : l.length = 8) : (Tryd.prog.info? 33).map (·.size) = some (ic l).size := by rw [ic_size, h]; exact (zero_of_info infoN).2
theorem izeros8_size (l : List Int) (h : l.length = 8) : izeros8.size = (ic l).size := by rw [ic_size, h]; exact ic_size _

set_option maxHeartbeats 1000000 in
theorem timesN_any (l : List Int) (v : Int) (w : World) (hl : l.length = 8) (hlo : ∀ j, j < 8 → -9223372036854775808 ≤ l.getD j 0 * v ∧ l.getD j 0 * v < 9223372036854775808) :
    Calls Tryd.prog 30 #[.agg (ic l), .int .i64 v] w fun e w' => e = .returned (.agg (ic (tmI l v))) ∧ Below w.heap.size w w' := by
  obtain ⟨hz, hi⟩ := zero_of_info infoN
  have HG0 := Lib.hid (blk_old (o := .cells izeros8 33) (blk_new w (.cells (ic l) 33)))
  have HR0 := Lib.hid (blk_new2 w (.cells (ic l) 33) (.cells izeros8 33))
  have hb0 := below_new2 w (.cells (ic l) 33) (.cells izeros8 33)
  obtain ⟨m, hm⟩ : ∃ m, m = tmI l v := ⟨_, rfl⟩
  have HM := Lib.hid hm
  have hml : m.length = 8 := by rw [hm, tmI_length, hl]
  have HMG := Lib.hid (fun j => show m.getD j 0 = l.getD j 0 * v by rw [hm, tmI_get])
  have HL := Lib.hid hl; have HML := Lib.hid hml; have HLO := Lib.hid hlo
  have HZ0 := Lib.hid (mixI_zero l m)
  clear hi hm hl hml hlo
  go_enter Tryd.func30, Tryd.ntmps30
  go_wp2_with fail
  clear hz
  generalize ((w.alloc _).alloc _) = W0 at *
  generalize hBB : w.heap.size = B at *
  have HBB := Lib.hid hBB
  clear hBB
  go_loopw [6] (fun i wr => ∃ k : Nat, k ≤ 8 ∧ i = .int .i64 (k : Int) ∧ wr.heap[B]? = some (.cells (ic (mixI l m k)) 33) ∧ wr.heap[B + 1]? = some (.cells izeros8 33) ∧ Below B w wr) (fun i _ => 8 - (intOf i).toNat)
  case atStart => exact ⟨0, by omega, rfl, by rw [HZ0.out]; exact HG0.out, HR0.out, hb0⟩
  case round =>
    clear HG0 HR0 hb0
    obtain ⟨k, hk, rfl, hg, hr, hb⟩ := hrel
    have HG := Lib.hid hg; have HR := Lib.hid hr
    clear hg hr
    by_cases hlt : k < 8
    · have hd : decide ((k : Int) < 8) = true := by simp; omega
      have HS := Lib.hid (mixI_set l m k 8 HL.out HML.out hlt)
      have hll := mixI_length l m k 8 HL.out HML.out (by omega)
      have cx := ic_cell HG.out k (by omega)
      rw [mixI_get l m k 8 HL.out HML.out hlt] at cx
      have hbd := HLO.out k hlt
      have hmg := HMG.out k
      have fx := frozen_of_row wr B k _ _ HG.out
      have r1 := ic_heap_set HG.out k (m.getD k 0)
      rw [HS.out] at r1
      generalize l.getD k 0 = x at *
      generalize mixI l m k = u at *
      rw [hmg] at r1
      have HG2 := Lib.hid r1
      have HR2 := Lib.hid (show (wr.setCell ⟨B, k, none⟩ (.int .i64 (x * v))).heap[B + 1]? = some (.cells izeros8 33) from by rw [heap_setCell_other _ _ _ _ (by simp <;> omega)]; exact HR.out)
      have hb2 : Below B w (wr.setCell ⟨B, k, none⟩ (.int .i64 (x * v))) := hb.setCell (by simp) _
      have hw : wrap64 (x * v) = x * v := by unfold wrap64; omega
      clear r1 hb HR HG HS hmg
      go_wp2_with fail
      go_roundw
      case rel => exact ⟨k + 1, by omega, by go_num, HG2.out, HR2.out, hb2⟩
      case measure => simp [intOf]; omega
    · have hd : decide ((k : Int) < 8) = false := by simp; omega
      obtain rfl : k = 8 := by omega
      rw [mixI_full l m 8 HL.out HML.out] at HG
      have HI := Lib.hid (sizeN m HML.out)
      have HO := Lib.hid (izeros8_size m HML.out)
      have H1 := Lib.hid (ic_one m)
      clear HZ0
      go_wp2_with (first
        | (with_reducible refine wpList_load_row rfl 33 _ rfl B rfl 33 _ (0, 0) _ HG.out Tryd.underlying33 rfl HI.out ?_)
        | (with_reducible refine wpList_store_row rfl 33 _ _ rfl (B + 1) (ic m) rfl rfl 33 _ HR.out HI.out HO.out H1.out ?_))
      exact bodyPost_ret (v := .agg (ic m)) (results_cell_row (by rfl) _ _ (B + 1) 33 _ (0, 0) _ rfl (setRow_heap _ _ _ _ _ _ HR.out) Tryd.underlying33 rfl HI.out) rfl ⟨by first | (with_reducible rfl) | rw [HM.out], by rw [HBB.out]; exact below_setRow hb (by omega) _⟩

set_option maxHeartbeats 1000000 in
theorem plusN_any (a b : List Int) (w : World) (ha : a.length = 8) (hb : b.length = 8) (hlo : ∀ j, j < 8 → -9223372036854775808 ≤ a.getD j 0 + b.getD j 0 ∧ a.getD j 0 + b.getD j 0 < 9223372036854775808) :
    Calls Tryd.prog 27 #[.agg (ic a), .agg (ic b)] w fun e w' => e = .returned (.agg (ic (adI a b))) ∧ Below w.heap.size w w' := by
  obtain ⟨hz, hi⟩ := zero_of_info infoN
  have HG0 := Lib.hid (blk_old (o := .cells izeros8 33) (blk_old (o := .cells (ic b) 33) (blk_new w (.cells (ic a) 33))))
  have HD0 := Lib.hid (blk_old (o := .cells izeros8 33) (blk_new2 w (.cells (ic a) 33) (.cells (ic b) 33)))
  have HR0 := Lib.hid (blk_new3 w (.cells (ic a) 33) (.cells (ic b) 33) (.cells izeros8 33))
  have hb0 := below_new3 w (.cells (ic a) 33) (.cells (ic b) 33) (.cells izeros8 33)
  obtain ⟨m, hm⟩ : ∃ m, m = adI a b := ⟨_, rfl⟩
  have HM := Lib.hid hm
  have hml : m.length = 8 := by rw [hm, adI_length a b 8 ha hb]
  have HMG := Lib.hid (fun j (hj : j < 8) => show m.getD j 0 = a.getD j 0 + b.getD j 0 by rw [hm, adI_get a b j (by omega) (by omega)])
  have HL := Lib.hid ha; have HLB := Lib.hid hb; have HML := Lib.hid hml; have HLO := Lib.hid hlo
  have HZ0 := Lib.hid (mixI_zero a m)
  clear hi hm ha hb hml hlo
  go_enter Tryd.func27, Tryd.ntmps27
  go_wp2_with fail
  clear hz
  generalize (((w.alloc _).alloc _).alloc _) = W0 at *
  generalize hBB : w.heap.size = B at *
  have HBB := Lib.hid hBB
  clear hBB
  go_loopw [6] (fun i wr => ∃ k : Nat, k ≤ 8 ∧ i = .int .i64 (k : Int) ∧ wr.heap[B]? = some (.cells (ic (mixI a m k)) 33) ∧ wr.heap[B + 1]? = some (.cells (ic b) 33) ∧ wr.heap[B + 1 + 1]? = some (.cells izeros8 33) ∧ Below B w wr) (fun i _ => 8 - (intOf i).toNat)
  case atStart => exact ⟨0, by omega, rfl, by rw [HZ0.out]; exact HG0.out, HD0.out, HR0.out, hb0⟩
  case round =>
    clear HG0 HD0 HR0 hb0
    obtain ⟨k, hk, rfl, hg, hdd, hr, hb⟩ := hrel
    have HG := Lib.hid hg; have HD := Lib.hid hdd; have HR := Lib.hid hr
    clear hg hr hdd
    by_cases hlt : k < 8
    · have hd : decide ((k : Int) < 8) = true := by simp; omega
      have HS := Lib.hid (mixI_set a m k 8 HL.out HML.out hlt)
      have hll := mixI_length a m k 8 HL.out HML.out (by omega)
      have cx := ic_cell HG.out k (by omega)
      rw [mixI_get a m k 8 HL.out HML.out hlt] at cx
      have cy := ic_cell HD.out k (by rw [HLB.out]; exact hlt)
      have hbd := HLO.out k hlt
      have HMK := Lib.hid (HMG.out k hlt)
      generalize a.getD k 0 = x at *
      generalize b.getD k 0 = y at *
      generalize mixI a m k = u at *
      have hw : wrap64 (x + y) = x + y := by unfold wrap64; omega
      have hw2 : IntKind.i64.wrap (x + y) = x + y := by rw [IntKind.wrap_i64]; omega
      go_wp2_with fail
      have ka := cell_regrown cx; have kb := cell_regrown cy
      refine wp_region_reads_tail 8 (by kernel_rfl) (by kernel_rfl) ?_
      simp only [List.take_succ_cons, List.take_zero, List.drop_succ_cons, List.drop_zero]
      repeat (first | go_big_quiet_step (fail) | quiet_step (fail))
      refine wpQuiet_nil ?_
      intro W1 hb1
      have hlw := blk_lt HR.out
      have hG1 := blk_below hb1 (by omega) HG.out
      have hD1 := blk_below hb1 (by omega) HD.out
      have hR1 := blk_below hb1 hlw HR.out
      have fx := frozen_of_row W1 B k _ _ hG1
      have cu := ic_cell hG1 k (by omega)
      have r1 := ic_heap_set hG1 k (m.getD k 0)
      rw [HS.out, HMK.out] at r1
      have HG2 := Lib.hid r1
      have HD2 := Lib.hid (show (W1.setCell ⟨B, k, none⟩ (.int .i64 (x + y))).heap[B + 1]? = some (.cells (ic b) 33) from by rw [heap_setCell_other _ _ _ _ (by simp <;> omega)]; exact hD1)
      have HR2 := Lib.hid (show (W1.setCell ⟨B, k, none⟩ (.int .i64 (x + y))).heap[B + 1 + 1]? = some (.cells izeros8 33) from by rw [heap_setCell_other _ _ _ _ (by simp <;> omega)]; exact hR1)
      have hb2 : Below B w (W1.setCell ⟨B, k, none⟩ (.int .i64 (x + y))) := (hb.trans (hb1.mono (by omega))).setCell (by simp) _
      clear r1 hb HR HG HD HS ka kb cx cy hG1 hD1 hR1 hlw hb1
      go_wp2_with fail
      go_roundw
      case rel => exact ⟨k + 1, by omega, by go_num, HG2.out, HD2.out, HR2.out, hb2⟩
      case measure => simp [intOf]; omega
    · have hd : decide ((k : Int) < 8) = false := by simp; omega
      obtain rfl : k = 8 := by omega
      rw [mixI_full a m 8 HL.out HML.out] at HG
      have HI := Lib.hid (sizeN m HML.out)
      have HO := Lib.hid (izeros8_size m HML.out)
      have H1 := Lib.hid (ic_one m)
      clear HZ0
      go_wp2_with (first
        | (with_reducible refine wpList_load_row rfl 33 _ rfl B rfl 33 _ (0, 0) _ HG.out Tryd.underlying33 rfl HI.out ?_)
        | (with_reducible refine wpList_store_row rfl 33 _ _ rfl (B + 1 + 1) (ic m) rfl rfl 33 _ HR.out HI.out HO.out H1.out ?_))
      exact bodyPost_ret (v := .agg (ic m)) (results_cell_row (by rfl) _ _ (B + 1 + 1) 33 _ (0, 0) _ rfl (setRow_heap _ _ _ _ _ _ HR.out) Tryd.underlying33 rfl HI.out) rfl ⟨by first | (with_reducible rfl) | rw [HM.out], by rw [HBB.out]; exact below_setRow hb (by omega) _⟩
end Go.Proofs.YtjgpcfjnanideaaDoor
