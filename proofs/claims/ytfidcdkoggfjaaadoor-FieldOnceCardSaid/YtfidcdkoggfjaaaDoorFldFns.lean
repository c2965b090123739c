/- The program's sums and differences of limbs: plus, plusWord, minus, plusTimes. -/
import Derived.Test.YtfidcdkoggfjaaaDoorFldWord
import Derived.Test.YtfidcdkoggfjaaaDoorLate
import Derived.Laws.Tables
import Derived.Laws.ResultCell
namespace Go.Proofs.YtfidcdkoggfjaaaDoor
open Go.RowKit Go.Sort
set_option maxRecDepth 100000
set_option linter.unusedSimpArgs false
set_option linter.unusedVariables false

/-- The cells of numbers. -/
def nc (k : IntKind) (l : List Nat) : Array Value := (l.map fun n : Nat => Value.int k (n : Int)).toArray
theorem nc_size (k : IntKind) (l : List Nat) : (nc k l).size = l.length := by simp [nc]
theorem nc_get (k : IntKind) (l : List Nat) (j : Nat) (h : j < l.length) : (nc k l)[j]? = some (.int k ((l.getD j 0 : Nat) : Int)) := by simp [nc, h]
theorem nc_set (k : IntKind) (l : List Nat) (j : Nat) (x : Nat) : (nc k l).setIfInBounds j (.int k (x : Int)) = nc k (l.set j x) := by simp [nc, List.map_set]
theorem nc_one (k : IntKind) (l : List Nat) : (nc k l).all (·.oneCell') = true := by
  rw [Array.all_eq_true]
  intro i hi
  simp [nc, Value.oneCell']
theorem nc_cell {k : IntKind} {W : World} {B : Nat} {l : List Nat} {T : TypeId} {fr : Nat × Nat} (h : W.heap[B]? = some (.cells (nc k l) T fr)) (j : Nat) (hj : j < l.length) : W.cell? ⟨B, j, none⟩ = some (.int k ((l.getD j 0 : Nat) : Int)) := by rw [cell_of_row W _ _ _ _ _ h]; exact nc_get k l j hj
theorem nc_heap_set {k : IntKind} {W : World} {B : Nat} {l : List Nat} {T : TypeId} (h : W.heap[B]? = some (.cells (nc k l) T)) (j : Nat) (x : Nat) : (W.setCell ⟨B, j, none⟩ (.int k (x : Int))).heap[B]? = some (.cells (nc k (l.set j x)) T) := by rw [← nc_set]; exact Go.heap_setCell_same _ _ _ _ _ _ h
/-- The cells of limbs. -/
def uc (l : List Nat) : Array Value := nc .u64 l
def zeros4 : Array Value := uc (List.replicate 4 0)
theorem infoL : (Tryd.prog.info? 24).map (fun i => (i.zero, i.size)) = some (some (.agg zeros4), 4) := by kernel_rfl
theorem uc_size (l : List Nat) : (uc l).size = l.length := nc_size _ l
theorem uc_one (l : List Nat) : (uc l).all (·.oneCell') = true := nc_one _ l
theorem uc_cell {W : World} {B : Nat} {l : List Nat} {T : TypeId} {fr : Nat × Nat} (h : W.heap[B]? = some (.cells (uc l) T fr)) (j : Nat) (hj : j < l.length) : W.cell? ⟨B, j, none⟩ = some (.int .u64 ((l.getD j 0 : Nat) : Int)) := nc_cell h j hj
theorem uc_heap_set {W : World} {B : Nat} {l : List Nat} {T : TypeId} (h : W.heap[B]? = some (.cells (uc l) T)) (j : Nat) (x : Nat) : (W.setCell ⟨B, j, none⟩ (.int .u64 (x : Int))).heap[B]? = some (.cells (uc (l.set j x)) T) := nc_heap_set h j x
theorem sizeL (l : List Nat) (h : l.length = 4) : (Tryd.prog.info? 24).map (·.size) = some (uc l).size := by rw [uc_size, h]; exact (zero_of_info infoL).2
theorem zeros4_size (l : List Nat) (h : l.length = 4) : zeros4.size = (uc l).size := by rw [uc_size, h]; exact uc_size _

set_option maxHeartbeats 1000000 in
theorem plusL_any (x y : Nat) (w : World) :
    Calls Tryd.prog 36 #[.agg (uc (limN 4 x)), .agg (uc (limN 4 y))] w fun e w' => e = .returned (.agg (uc (limN 4 (x + y)))) ∧ Below w.heap.size w w' := by
  obtain ⟨hz, hi⟩ := zero_of_info infoL
  have hg0 := blk_old (o := .cells zeros4 24) (blk_old (o := .cells (uc (limN 4 y)) 24) (blk_new w (.cells (uc (limN 4 x)) 24)))
  rw [← mixN_zero 4 x (x + y)] at hg0
  have HG0 := Lib.hid hg0
  have HD0 := Lib.hid (blk_old (o := .cells zeros4 24) (blk_new2 w (.cells (uc (limN 4 x)) 24) (.cells (uc (limN 4 y)) 24)))
  have HR0 := Lib.hid (blk_new3 w (.cells (uc (limN 4 x)) 24) (.cells (uc (limN 4 y)) 24) (.cells zeros4 24))
  have hb0 := below_new3 w (.cells (uc (limN 4 x)) 24) (.cells (uc (limN 4 y)) 24) (.cells zeros4 24)
  clear hi hg0
  rw [mixN_zero] at HG0
  have HZ0 := Lib.hid (mixN_zero 4 x (x + y))
  go_enter Tryd.func36, Tryd.ntmps36
  go_wp2_with fail
  clear hz
  generalize (((w.alloc _).alloc _).alloc _) = W0 at *
  generalize hBB : w.heap.size = B at *
  have HBB := Lib.hid hBB
  clear hBB
  go_loopw [5, 7] (fun c i wr => ∃ k : Nat, k ≤ 4 ∧ i = .int .i64 (k : Int) ∧ c = .int .u64 ((cyN x y 1 k : Nat) : Int) ∧ wr.heap[B]? = some (.cells (uc (mixN 4 x (x + y) k)) 24) ∧ wr.heap[B + 1]? = some (.cells (uc (limN 4 y)) 24) ∧ wr.heap[B + 1 + 1]? = some (.cells zeros4 24) ∧ Below B w wr) (fun _ i _ => 4 - (intOf i).toNat)
  case atStart => exact ⟨0, by omega, rfl, by rw [cyN_zero]; rfl, by rw [HZ0.out]; exact HG0.out, HD0.out, HR0.out, hb0⟩
  case round =>
    clear HG0 HD0 HR0 hb0
    obtain ⟨k, hk, rfl, rfl, hg, hdd, hr, hb⟩ := hrel
    have HG := Lib.hid hg; have HD := Lib.hid hdd; have HR := Lib.hid hr
    clear hg hr hdd
    by_cases hlt : k < 4
    · have hd : decide ((k : Int) < 4) = true := by simp; omega
      obtain ⟨s1, s2⟩ := add_step x y k
      have hc1 := cyN_one x y k
      have HS := Lib.hid (mixN_set 4 x (x + y) k hlt)
      have hll := mixN_length 4 x (x + y) k
      have cx := uc_cell HG.out k (by omega)
      have cy := uc_cell HD.out k (by rw [limN_length]; omega)
      rw [mixN_get _ _ _ _ _ hlt (Nat.le_refl _)] at cx
      rw [limN_get _ _ _ hlt] at cy
      have hcall := add64_told (x := dg x k) (y := dg y k) hc1 s1 s2
      have HC2 := Lib.hid (show cyN x y 1 (k + 1) = cyN x y 1 (k + 1) from rfl)
      generalize hv : mixN 4 x (x + y) k = u at *
      generalize dg (x + y) k = z at *
      generalize dg x k = p at *
      generalize dg y k = q at *
      generalize hcc : cyN x y 1 (k + 1) = c' at *
      have HCC := Lib.hid hcc
      generalize cyN x y 1 k = c at *
      clear s1 s2 hc1 HC2 hcc hv
      go_wp2_with fail
      have ka := cell_regrown cx; have kb := cell_regrown cy
      refine wp_region_late 10 (.tmp 6) rfl rfl rfl rfl rfl rfl rfl rfl rfl (by kernel_rfl) (by kernel_rfl) (fun _ _ _ _ h => h) (fun _ _ _ _ h => h) (fun _ _ _ _ h => h) ?_
      simp only [List.take_succ_cons, List.take_zero, List.drop_succ_cons, List.drop_zero]
      repeat (first | go_big_quiet_step (fail) | quiet_step (fail))
      refine wpQuiet_nil ?_
      intro W1 hb1
      have hlw := blk_lt HR.out
      have hG1 := blk_below hb1 (by omega) HG.out
      have hD1 := blk_below hb1 (by omega) HD.out
      have hR1 := blk_below hb1 hlw HR.out
      have fx := frozen_of_row W1 B k _ _ hG1
      have cu := uc_cell hG1 k (by omega)
      have r1 := uc_heap_set hG1 k z
      rw [HS.out] at r1
      have HG2 := Lib.hid r1
      have HD2 := Lib.hid (show (W1.setCell ⟨B, k, none⟩ (.int .u64 (z : Int))).heap[B + 1]? = some (.cells (uc (limN 4 y)) 24) from by rw [heap_setCell_other _ _ _ _ (by simp <;> omega)]; exact hD1)
      have HR2 := Lib.hid (show (W1.setCell ⟨B, k, none⟩ (.int .u64 (z : Int))).heap[B + 1 + 1]? = some (.cells zeros4 24) from by rw [heap_setCell_other _ _ _ _ (by simp <;> omega)]; exact hR1)
      have hb2 : Below B w (W1.setCell ⟨B, k, none⟩ (.int .u64 (z : Int))) := (hb.trans (hb1.mono (by omega))).setCell (by simp) _
      clear r1 hb HR HG HD HS ka kb cx cy hG1 hD1 hR1 hlw hb1 hcall
      go_wp2_with fail
      go_roundw
      case rel => exact ⟨k + 1, by omega, by go_num, by rw [HCC.out], HG2.out, HD2.out, HR2.out, hb2⟩
      case measure => simp [intOf]; omega
    · have hd : decide ((k : Int) < 4) = false := by simp; omega
      obtain rfl : k = 4 := by omega
      rw [mixN_full _ _ _ _ (Nat.le_refl _)] at HG
      have hll := limN_length 4 (x + y)
      generalize hrow : limN 4 (x + y) = row at *
      have HROW := Lib.hid hrow
      clear hrow
      have HI := Lib.hid (sizeL row hll)
      have HO := Lib.hid (zeros4_size row hll)
      have H1 := Lib.hid (uc_one row)
      clear HZ0
      go_wp2_with (first
        | (with_reducible refine wpList_load_row rfl 24 _ rfl B rfl 24 _ (0, 0) _ HG.out Tryd.underlying24 rfl HI.out ?_)
        | (with_reducible refine wpList_store_row rfl 24 _ _ rfl (B + 1 + 1) (uc row) rfl rfl 24 _ HR.out HI.out HO.out H1.out ?_))
      exact bodyPost_ret (v := .agg (uc row)) (results_cell_row (by rfl) _ _ (B + 1 + 1) 24 _ (0, 0) _ rfl (setRow_heap _ _ _ _ _ _ HR.out) Tryd.underlying24 rfl HI.out) rfl ⟨by first | (with_reducible rfl) | rw [HROW.out], by rw [HBB.out]; exact below_setRow hb (by omega) _⟩
end Go.Proofs.YtfidcdkoggfjaaaDoor
