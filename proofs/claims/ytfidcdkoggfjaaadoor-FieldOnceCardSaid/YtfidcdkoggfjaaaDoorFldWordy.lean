/- The program's sum of limbs and a word. -/
import Derived.Test.YtfidcdkoggfjaaaDoorFldFns
namespace Go.Proofs.YtfidcdkoggfjaaaDoor
open Go.RowKit Go.Sort
set_option maxRecDepth 100000
set_option linter.unusedSimpArgs false
set_option linter.unusedVariables false

set_option maxHeartbeats 1000000 in
theorem plusW_any (x v : Nat) (w : World) :
    Calls Tryd.prog 48 #[.agg (uc (limN 4 x)), .int .u64 (v : Int)] w fun e w' => e = .returned (.agg (uc (limN 4 (x + v)))) ∧ Below w.heap.size w w' := by
  obtain ⟨hz, hi⟩ := zero_of_info infoL
  have hg0 := blk_old (o := .cells zeros4 24) (blk_new w (.cells (uc (limN 4 x)) 24))
  rw [← mixN_zero 4 x (x + v)] at hg0
  have HG0 := Lib.hid hg0
  have HR0 := Lib.hid (blk_new2 w (.cells (uc (limN 4 x)) 24) (.cells zeros4 24))
  have hb0 := below_new2 w (.cells (uc (limN 4 x)) 24) (.cells zeros4 24)
  clear hi hg0
  rw [mixN_zero] at HG0
  have HZ0 := Lib.hid (mixN_zero 4 x (x + v))
  go_enter Tryd.func48, Tryd.ntmps48
  go_wp2_with fail
  clear hz
  generalize ((w.alloc _).alloc _) = W0 at *
  generalize hBB : w.heap.size = B at *
  have HBB := Lib.hid hBB
  clear hBB
  go_loopw [1, 6] (fun c i wr => ∃ k : Nat, k ≤ 4 ∧ i = .int .i64 (k : Int) ∧ c = .int .u64 ((cwN x v k : Nat) : Int) ∧ wr.heap[B]? = some (.cells (uc (mixN 4 x (x + v) k)) 24) ∧ wr.heap[B + 1]? = some (.cells zeros4 24) ∧ Below B w wr) (fun _ i _ => 4 - (intOf i).toNat)
  case atStart => exact ⟨0, by omega, rfl, by rw [cwN_zero], by rw [HZ0.out]; exact HG0.out, HR0.out, hb0⟩
  case round =>
    clear HG0 HR0 hb0
    obtain ⟨k, hk, rfl, rfl, hg, hr, hb⟩ := hrel
    have HG := Lib.hid hg; have HR := Lib.hid hr
    clear hg hr
    by_cases hlt : k < 4
    · have hd : decide ((k : Int) < 4) = true := by simp; omega
      obtain ⟨s1, s2⟩ := cwN_step x v k
      have HS := Lib.hid (mixN_set 4 x (x + v) k hlt)
      have hll := mixN_length 4 x (x + v) k
      have cx := uc_cell HG.out k (by omega)
      rw [mixN_get _ _ _ _ _ hlt (Nat.le_refl _)] at cx
      have hcall := add64_zero (x := dg x k) (y := cwN x v k) s1 s2
      have HC2 := Lib.hid (show cwN x v (k + 1) = cwN x v (k + 1) from rfl)
      generalize hv : mixN 4 x (x + v) k = u at *
      generalize dg (x + v) k = z at *
      generalize dg x k = p at *
      generalize hcc : cwN x v (k + 1) = c' at *
      have HCC := Lib.hid hcc
      generalize cwN x v k = c at *
      clear s1 s2 HC2 hcc hv
      have fx := frozen_of_row wr B k _ _ HG.out
      have r1 := uc_heap_set HG.out k z
      rw [HS.out] at r1
      have HG2 := Lib.hid r1
      have HR2 := Lib.hid (show (wr.setCell ⟨B, k, none⟩ (.int .u64 (z : Int))).heap[B + 1]? = some (.cells zeros4 24) from by rw [heap_setCell_other _ _ _ _ (by simp <;> omega)]; exact HR.out)
      have hb2 : Below B w (wr.setCell ⟨B, k, none⟩ (.int .u64 (z : Int))) := hb.setCell (by simp) _
      clear r1 hb HR HG HS
      go_wp2_with fail
      go_roundw
      case rel => exact ⟨k + 1, by omega, by go_num, by rw [HCC.out], HG2.out, HR2.out, hb2⟩
      case measure => simp [intOf]; omega
    · have hd : decide ((k : Int) < 4) = false := by simp; omega
      obtain rfl : k = 4 := by omega
      rw [mixN_full _ _ _ _ (Nat.le_refl _)] at HG
      have hll := limN_length 4 (x + v)
      generalize hrow : limN 4 (x + v) = row at *
      have HROW := Lib.hid hrow
      clear hrow
      have HI := Lib.hid (sizeL row hll)
      have HO := Lib.hid (zeros4_size row hll)
      have H1 := Lib.hid (uc_one row)
      clear HZ0
      go_wp2_with (first
        | (with_reducible refine wpList_load_row rfl 24 _ rfl B rfl 24 _ (0, 0) _ HG.out Tryd.underlying24 rfl HI.out ?_)
        | (with_reducible refine wpList_store_row rfl 24 _ _ rfl (B + 1) (uc row) rfl rfl 24 _ HR.out HI.out HO.out H1.out ?_))
      exact bodyPost_ret (v := .agg (uc row)) (results_cell_row (by rfl) _ _ (B + 1) 24 _ (0, 0) _ rfl (setRow_heap _ _ _ _ _ _ HR.out) Tryd.underlying24 rfl HI.out) rfl ⟨by first | (with_reducible rfl) | rw [HROW.out], by rw [HBB.out]; exact below_setRow hb (by omega) _⟩
end Go.Proofs.YtfidcdkoggfjaaaDoor
