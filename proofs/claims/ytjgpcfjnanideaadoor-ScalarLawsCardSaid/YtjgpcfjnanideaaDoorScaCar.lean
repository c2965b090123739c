/- The program's carries. -/
import Derived.Test.YtjgpcfjnanideaaDoorScaFns
namespace Go.Proofs.YtjgpcfjnanideaaDoor
open Go.RowKit Go.Sort
set_option maxRecDepth 100000
set_option linter.unusedSimpArgs false
set_option linter.unusedVariables false

theorem and_36 (y : Int) : bits .and .i64 y 68719476735 = y % 68719476736 := by
  have h1 : (BitVec.ofInt 64 68719476735).toNat = 2 ^ 36 - 1 := by decide
  have key : (BitVec.ofInt 64 y &&& BitVec.ofInt 64 68719476735).toNat = (y % ((2 ^ 64 : Nat) : Int)).toNat % 2 ^ 36 := by
    rw [BitVec.toNat_and, BitVec.toNat_ofInt, h1, Nat.and_two_pow_sub_one_eq_mod]
  show IntKind.i64.wrap ((BitVec.ofInt 64 y &&& BitVec.ofInt 64 68719476735).toNat : Nat) = y % 68719476736
  rw [key, IntKind.wrap_i64]
  omega

set_option maxHeartbeats 1000000 in
theorem carriedN_any (l : List Int) (w : World) (hl : l.length = 8) (hlo : ∀ j, j < 8 → -2305843009213693952 ≤ l.getD j 0 ∧ l.getD j 0 ≤ 2305843009213693952) :
    Calls Tryd.prog 31 #[.agg (ic l)] w fun e w' => e = .returned (.agg (ic (limI 7 (vI l)))) ∧ Below w.heap.size w w' := by
  obtain ⟨hz, hi⟩ := zero_of_info infoN
  have HG0 := Lib.hid (show ((w.alloc (.cells (ic l) 33)).alloc (.cells izeros8 33)).heap[w.heap.size]? = some (.cells (ic (carI 0 l)) 33) from blk_old (o := .cells izeros8 33) (blk_new w (.cells (ic l) 33)))
  have HR0 := Lib.hid (blk_new2 w (.cells (ic l) 33) (.cells izeros8 33))
  have hb0 := below_new2 w (.cells (ic l) 33) (.cells izeros8 33)
  have HL := Lib.hid hl
  have HB := Lib.hid (fun k => carI_bound l k hl hlo)
  have HF := Lib.hid (carI_full 7 l hl)
  clear hi hl hlo
  go_enter Tryd.func31, Tryd.ntmps31
  go_wp2_with fail
  clear hz
  generalize ((w.alloc _).alloc _) = W0 at *
  generalize hBB : w.heap.size = B at *
  have HBB := Lib.hid hBB
  clear hBB
  go_loopw [4] (fun i wr => ∃ k : Nat, k ≤ 7 ∧ i = .int .i64 (k : Int) ∧ wr.heap[B]? = some (.cells (ic (carI k l)) 33) ∧ wr.heap[B + 1]? = some (.cells izeros8 33) ∧ Below B w wr) (fun i _ => 7 - (intOf i).toNat)
  case atStart => exact ⟨0, by omega, rfl, HG0.out, HR0.out, hb0⟩
  case round =>
    clear HG0 HR0 hb0
    obtain ⟨k, hk, rfl, hg, hr, hb⟩ := hrel
    have HG := Lib.hid hg; have HR := Lib.hid hr
    clear hg hr
    by_cases hlt : k < 7
    · have hd : decide ((k : Int) < 7) = true := by simp; omega
      have HS := Lib.hid (carI_step k l (by rw [HL.out]; omega))
      have hll : (carI k l).length = 8 := by rw [carI_length, HL.out]
      have cx := ic_cell HG.out k (by omega)
      have cy := ic_cell HG.out (k + 1) (by omega)
      have hbx := HB.out k k
      have hby := HB.out k (k + 1)
      have HXY := Lib.hid (show (carI k l).getD k 0 = (carI k l).getD k 0 from rfl)
      generalize hxx : (carI k l).getD k 0 = x at *
      generalize hyy : (carI k l).getD (k + 1) 0 = y at *
      generalize carI k l = u at *
      have hw : wrap64 (y + x / 68719476736) = y + x / 68719476736 := by unfold wrap64; omega
      have hw2 : IntKind.i64.wrap (y + x / 68719476736) = y + x / 68719476736 := by rw [IntKind.wrap_i64]; omega
      have hand := and_36 x
      have hk1 : ((k : Int) + 1).toNat = k + 1 := by omega
      have HU := Lib.hid hll; have HX := Lib.hid hxx
      clear hxx hyy HXY
      go_wp2_with fail
      have ka := cell_regrown cx; have kb := cell_regrown cy
      refine wp_region_reads_tail 10 (by kernel_rfl) (by kernel_rfl) ?_
      simp only [List.take_succ_cons, List.take_zero, List.drop_succ_cons, List.drop_zero]
      repeat (first | go_big_quiet_step (fail) | quiet_step (fail))
      refine wpQuiet_nil ?_
      intro W1 hb1
      have hlw := blk_lt HR.out
      have hG1 := blk_below hb1 (by omega) HG.out
      have hR1 := blk_below hb1 hlw HR.out
      have fy := frozen_of_row W1 B (k + 1) _ _ hG1
      have cv := ic_cell hG1 (k + 1) (by omega)
      have r1 := ic_heap_set hG1 (k + 1) (y + x / 68719476736)
      have cu := ic_cell r1 k (by rw [List.length_set]; omega)
      have e1 : (u.set (k + 1) (y + x / 68719476736)).getD k 0 = x := by rw [List.getD_eq_getElem?_getD, List.getElem?_set_ne (by omega), ← List.getD_eq_getElem?_getD]; exact HX.out
      rw [e1] at cu
      have fx := frozen_of_row _ B k _ _ r1
      have r2 := ic_heap_set r1 k (x % 68719476736)
      rw [HS.out] at r2
      have HG2 := Lib.hid r2
      have HR2 := Lib.hid (show ((W1.setCell ⟨B, k + 1, none⟩ (.int .i64 (y + x / 68719476736))).setCell ⟨B, k, none⟩ (.int .i64 (x % 68719476736))).heap[B + 1]? = some (.cells izeros8 33) from by rw [heap_setCell_other _ _ _ _ (by simp <;> omega), heap_setCell_other _ _ _ _ (by simp <;> omega)]; exact hR1)
      have hb2 : Below B w ((W1.setCell ⟨B, k + 1, none⟩ (.int .i64 (y + x / 68719476736))).setCell ⟨B, k, none⟩ (.int .i64 (x % 68719476736))) := ((hb.trans (hb1.mono (by omega))).setCell (by simp) _).setCell (by simp) _
      clear r1 r2 e1 hb HR HG HS ka kb cx cy hG1 hR1 hlw hb1
      go_wp2_with fail
      go_roundw
      case rel => exact ⟨k + 1, by omega, by go_num, HG2.out, HR2.out, hb2⟩
      case measure => simp [intOf]; omega
    · have hd : decide ((k : Int) < 7) = false := by simp; omega
      obtain rfl : k = 7 := by omega
      rw [HF.out] at HG
      have hml := limI_length 7 (vI l)
      generalize hm : limI 7 (vI l) = m at *
      have HM := Lib.hid hm
      have HI := Lib.hid (sizeN m hml)
      have HO := Lib.hid (izeros8_size m hml)
      have H1 := Lib.hid (ic_one m)
      clear hm
      go_wp2_with (first
        | (with_reducible refine wpList_load_row rfl 33 _ rfl B rfl 33 _ (0, 0) _ HG.out Tryd.underlying33 rfl HI.out ?_)
        | (with_reducible refine wpList_store_row rfl 33 _ _ rfl (B + 1) (ic m) rfl rfl 33 _ HR.out HI.out HO.out H1.out ?_))
      exact bodyPost_ret (v := .agg (ic m)) (results_cell_row (by rfl) _ _ (B + 1) 33 _ (0, 0) _ rfl (setRow_heap _ _ _ _ _ _ HR.out) Tryd.underlying33 rfl HI.out) rfl ⟨by first | (with_reducible rfl) | rw [HM.out], by rw [HBB.out]; exact below_setRow hb (by omega) _⟩
end Go.Proofs.YtjgpcfjnanideaaDoor
