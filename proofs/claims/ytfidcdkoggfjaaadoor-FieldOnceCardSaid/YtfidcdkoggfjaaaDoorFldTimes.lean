/- The program's product of limbs: the low half and the high one. -/
import Derived.Test.YtfidcdkoggfjaaaDoorFldFns
import Derived.Test.YtfidcdkoggfjaaaDoorArr
import Derived.Test.YtfidcdkoggfjaaaDoorTail
import Derived.Test.YtfidcdkoggfjaaaDoorPair
import Derived.Laws.CopyRow
namespace Go.Proofs.YtfidcdkoggfjaaaDoor
open Go.RowKit Go.Sort
set_option maxRecDepth 100000
set_option linter.unusedSimpArgs false
set_option linter.unusedVariables false

def zeros8 : Array Value := uc (List.replicate 8 0)
theorem infoL8 : (Tryd.prog.info? 66).map (fun i => (i.zero, i.size)) = some (some (.agg zeros8), 8) := by kernel_rfl
theorem zeros8_row (x y : Nat) : zeros8 = uc (limN 8 (rowW x y 0)) := by rw [rowW_zero]; rfl
theorem blk_new5 (w : World) (P R A D E : Obj) : (((((w.alloc P).alloc R).alloc A).alloc D).alloc E).heap[w.heap.size + 1 + 1 + 1 + 1]? = some E := by
  have := blk_new ((((w.alloc P).alloc R).alloc A).alloc D) E
  simpa using this
theorem blk_new4 (w : World) (P R A D : Obj) : ((((w.alloc P).alloc R).alloc A).alloc D).heap[w.heap.size + 1 + 1 + 1]? = some D := by
  have := blk_new (((w.alloc P).alloc R).alloc A) D
  simpa using this
theorem below_new5 (w : World) (P R A D E : Obj) : Below w.heap.size w (((((w.alloc P).alloc R).alloc A).alloc D).alloc E) := ((below_new3 w P R A).alloc (by simp; omega) _).alloc (by simp; omega) _
theorem index_limb (x j : Nat) (hj : j < 4) (w : World) : (Instr.index 24 (.agg (uc (limN 4 x))) (.int .i64 (j : Int))).run Tryd.prog w = .ok (.int .u64 ((dg x j : Nat) : Int)) w := by
  refine arr_index 24 22 4 j (uc (limN 4 x)) _ Tryd.underlying24 (by kernel_rfl) (fun w => ?_) hj ?_ w
  · unfold isAgg
    rw [Sem.run_bind, run_underlying Tryd.underlying22 w]
    rfl
  · rw [uc, nc_get _ _ _ (by rw [limN_length]; exact hj), limN_get _ _ _ hj]
theorem cyR_lt (x y i j : Nat) : cyR x y i j < 18446744073709551616 := cyN_lt _ _ _ _ (by have := dg_lt y i; omega)

theorem copy_words (V : World) (g b o c : Nat) (u m : List Nat) (hm : m.length = 4) (hu : o + 4 ≤ u.length) (hj : ∀ j, j < 4 → u.getD (o + j) 0 = m.getD j 0) (hg : V.heap[g]? = some (.cells zeros4 24)) (hb : V.heap[b]? = some (.cells (uc u) 66)) :
    (Builtin.copy_ #[68, 68] 3 #[.slice (some ⟨g, 0, none⟩) 4 4, .slice (some ⟨b, o, none⟩) 4 c]).run Tryd.prog V = .ok (.int .i64 4) (V.setRow g (uc m)) := by
  have h := run_copy_row (P := Tryd.prog) V 68 68 3 22 g 0 4 4 ⟨b, o, none⟩ 4 c zeros4 24 (m.map fun n : Nat => Value.int .u64 (n : Int)) Tryd.underlying68 (by kernel_rfl) hg (by simp [hm]) (fun j v hv => by
      have hj4 : j < 4 := by
        have := (List.getElem?_eq_some_iff.1 hv).1
        simpa [hm] using this
      have hv' : v = .int .u64 ((m.getD j 0 : Nat) : Int) := by
        rw [List.getElem?_map, List.getElem?_eq_getElem (by omega)] at hv
        rw [List.getD_eq_getElem?_getD, List.getElem?_eq_getElem (by omega)]
        simpa using hv.symm
      rw [Addr.add_lit, hv', ← hj j hj4]
      exact uc_cell hb (o + j) (by omega)) (by rw [show zeros4.size = 4 from uc_size _]; simp [hm]) (fun v hv => by
      obtain ⟨n, _, rfl⟩ := List.mem_map.1 hv
      rfl)
  rw [h]
  have e1 : zeros4.toList.drop (0 + (m.map fun n : Nat => Value.int .u64 (n : Int)).length) = [] := List.drop_of_length_le (by rw [Array.length_toList, show zeros4.size = 4 from uc_size _]; simp [hm])
  rw [e1, List.take_zero, List.nil_append, List.append_nil]
  simp only [goInt, List.length_map, hm]
  rfl
theorem sliced_low8 (a : Nat) (w : World) : (Instr.sliceAt 66 (.pointer (some ⟨a, 0, none⟩)) none (some (.int .i64 4)) none).run Tryd.prog w = .ok (.slice (some ⟨a, 0, none⟩) 4 8) w := by
  rw [run_sliceAt_array_h w 66 ⟨a, 0, none⟩ (by kernel_rfl) .i64 4 (by omega) (by rw [show Tryd.prog.arrayLen 66 = 8 from by kernel_rfl]; omega), arr_sizeOf (by kernel_rfl)]
  rfl
theorem sliced_high8 (a : Nat) (w : World) : (Instr.sliceAt 66 (.pointer (some ⟨a, 0, none⟩)) (some (.int .i64 4)) none none).run Tryd.prog w = .ok (.slice (some ⟨a, 4, none⟩) 4 4) w := by
  rw [run_sliceAt_array_l w 66 ⟨a, 0, none⟩ (by kernel_rfl) .i64 4 (by omega) (by rw [show Tryd.prog.arrayLen 66 = 8 from by kernel_rfl]; omega), arr_sizeOf (by kernel_rfl)]
  rfl

set_option maxHeartbeats 2000000 in
theorem timesL_any (x y : Nat) (w : World) (hx : x < bw 4) (hy : y < bw 4) :
    Calls Tryd.prog 39 #[.agg (uc (limN 4 x)), .agg (uc (limN 4 y))] w fun e w' => e = .returned (.tuple #[.agg (uc (limN 4 (x * y % mF))), .agg (uc (limN 4 (x * y / mF)))]) ∧ Below w.heap.size w w' := by
  obtain ⟨hz, hi⟩ := zero_of_info infoL
  obtain ⟨hz8, hi8⟩ := zero_of_info infoL8
  have HX := Lib.hid hx; have HY := Lib.hid hy
  have HG0 := Lib.hid (blk_old (o := .cells zeros8 66) (blk_old (o := .cells zeros4 24) (blk_old (o := .cells zeros4 24) (blk_old (o := .cells (uc (limN 4 y)) 24) (blk_new w (.cells (uc (limN 4 x)) 24))))))
  have HD0 := Lib.hid (blk_old (o := .cells zeros8 66) (blk_old (o := .cells zeros4 24) (blk_old (o := .cells zeros4 24) (blk_new2 w (.cells (uc (limN 4 x)) 24) (.cells (uc (limN 4 y)) 24)))))
  have HR0 := Lib.hid (blk_old (o := .cells zeros8 66) (blk_old (o := .cells zeros4 24) (blk_new3 w (.cells (uc (limN 4 x)) 24) (.cells (uc (limN 4 y)) 24) (.cells zeros4 24))))
  have HS0 := Lib.hid (blk_old (o := .cells zeros8 66) (blk_new4 w (.cells (uc (limN 4 x)) 24) (.cells (uc (limN 4 y)) 24) (.cells zeros4 24) (.cells zeros4 24)))
  have HW0 := Lib.hid (blk_new5 w (.cells (uc (limN 4 x)) 24) (.cells (uc (limN 4 y)) 24) (.cells zeros4 24) (.cells zeros4 24) (.cells zeros8 66))
  have hb0 := below_new5 w (.cells (uc (limN 4 x)) 24) (.cells (uc (limN 4 y)) 24) (.cells zeros4 24) (.cells zeros4 24) (.cells zeros8 66)
  have HIx := Lib.hid (sizeL (limN 4 x) (limN_length _ _))
  have HIy := Lib.hid (sizeL (limN 4 y) (limN_length _ _))
  have HZ8 := Lib.hid (zeros8_row x y)
  clear hi hi8 hx hy
  go_enter Tryd.func39, Tryd.ntmps39
  go_wp2_with (with_reducible refine wpList_load_row rfl 24 _ rfl (w.heap.size + 1) rfl 24 _ (0, 0) _ HD0.out Tryd.underlying24 rfl HIy.out ?_)
  clear hz8
  generalize (((((w.alloc _).alloc _).alloc _).alloc _).alloc _) = W0 at *
  generalize hBB : w.heap.size = B at *
  have HBB := Lib.hid hBB
  clear hBB
  go_loopw [15] (fun iv wr => ∃ i : Nat, i ≤ 4 ∧ iv = .int .i64 (i : Int) ∧ wr.heap[B]? = some (.cells (uc (limN 4 x)) 24) ∧ wr.heap[B + 1]? = some (.cells (uc (limN 4 y)) 24) ∧ wr.heap[B + 1 + 1]? = some (.cells zeros4 24) ∧ wr.heap[B + 1 + 1 + 1]? = some (.cells zeros4 24) ∧ wr.heap[B + 1 + 1 + 1 + 1]? = some (.cells (uc (limN 8 (rowW x y i))) 66) ∧ Below B w wr) (fun iv _ => 4 - (intOf iv).toNat)
  case atStart => exact ⟨0, by omega, rfl, HG0.out, HD0.out, HR0.out, HS0.out, by rw [← HZ8.out]; exact HW0.out, hb0⟩
  case round =>
    clear HG0 HD0 HR0 HS0 HW0 hb0
    obtain ⟨i, hi, rfl, hg, hdd, hr, hs, hww, hb⟩ := hrel
    have HG := Lib.hid hg; have HD := Lib.hid hdd; have HR := Lib.hid hr; have HS := Lib.hid hs; have HO := Lib.hid hww
    clear hg hr hdd hww hs
    by_cases hlt : i < 4
    · have hd : decide ((i : Int) < 4) = true := by simp; omega
      have ix := index_limb y i hlt
      go_wp2_with (with_reducible refine wpList_load_row rfl 24 _ rfl B rfl 24 _ (0, 0) _ HG.out Tryd.underlying24 rfl HIx.out ?_)
      clear ix
      go_loopw [9, 20] (fun cv jv wr => ∃ j : Nat, j ≤ 4 ∧ jv = .int .i64 (j : Int) ∧ cv = .int .u64 ((cyR x y i j : Nat) : Int) ∧ wr.heap[B]? = some (.cells (uc (limN 4 x)) 24) ∧ wr.heap[B + 1]? = some (.cells (uc (limN 4 y)) 24) ∧ wr.heap[B + 1 + 1]? = some (.cells zeros4 24) ∧ wr.heap[B + 1 + 1 + 1]? = some (.cells zeros4 24) ∧ wr.heap[B + 1 + 1 + 1 + 1]? = some (.cells (uc (mixN 8 (rowW x y i) (rowW x y (i + 1)) (i + j))) 66) ∧ Below B w wr) (fun _ jv _ => 4 - (intOf jv).toNat)
      case atStart => exact ⟨0, by omega, rfl, by rw [cyR, cyN_zero]; rfl, HG.out, HD.out, HR.out, HS.out, by rw [show mixN 8 (rowW x y i) (rowW x y (i + 1)) (i + 0) = limN 8 (rowW x y i) from row_begin 8 x y i]; exact HO.out, hb⟩
      case round =>
        clear HG HD HR HS HO hb
        obtain ⟨j, hj, rfl, rfl, hg, hdd, hr, hs, hww, hb⟩ := hrel
        have HG := Lib.hid hg; have HD := Lib.hid hdd; have HR := Lib.hid hr; have HS := Lib.hid hs; have HO := Lib.hid hww
        clear hg hr hdd hww hs
        by_cases hjlt : j < 4
        · have hdj : decide ((j : Int) < 4) = true := by simp; omega
          have ix := index_limb x j hjlt
          obtain ⟨s1, s2⟩ := row_step x y i j
          have HC := Lib.hid (sumProd_any (dg (rowW x y i) (i + j)) (cyR x y i j) (dg x j) (dg y i) _ _ wr (dg_lt _ _) (cyR_lt _ _ _ _) (dg_lt _ _) (dg_lt _ _) s1 s2)
          have cz := uc_cell HO.out (i + j) (by rw [mixN_length]; omega)
          rw [mixN_get _ _ _ _ _ (by omega) (Nat.le_refl _)] at cz
          have r1 := uc_heap_set HO.out (i + j) (dg (rowW x y (i + 1)) (i + j))
          rw [mixN_set _ _ _ _ (by omega)] at r1
          have fx := frozen_of_row wr (B + 1 + 1 + 1 + 1) (i + j) _ _ HO.out
          have hij : ((i : Int) + (j : Int)).toNat = i + j := by omega
          have hll := mixN_length 8 (rowW x y i) (rowW x y (i + 1)) (i + j)
          generalize dg (rowW x y (i + 1)) (i + j) = z at *
          have HO2 := Lib.hid r1
          have HG2 := Lib.hid (show (wr.setCell ⟨B + 1 + 1 + 1 + 1, i + j, none⟩ (.int .u64 (z : Int))).heap[B]? = some (.cells (uc (limN 4 x)) 24) from by rw [heap_setCell_other _ _ _ _ (by simp <;> omega)]; exact HG.out)
          have HD2 := Lib.hid (show (wr.setCell ⟨B + 1 + 1 + 1 + 1, i + j, none⟩ (.int .u64 (z : Int))).heap[B + 1]? = some (.cells (uc (limN 4 y)) 24) from by rw [heap_setCell_other _ _ _ _ (by simp <;> omega)]; exact HD.out)
          have HR2 := Lib.hid (show (wr.setCell ⟨B + 1 + 1 + 1 + 1, i + j, none⟩ (.int .u64 (z : Int))).heap[B + 1 + 1]? = some (.cells zeros4 24) from by rw [heap_setCell_other _ _ _ _ (by simp <;> omega)]; exact HR.out)
          have HS2 := Lib.hid (show (wr.setCell ⟨B + 1 + 1 + 1 + 1, i + j, none⟩ (.int .u64 (z : Int))).heap[B + 1 + 1 + 1]? = some (.cells zeros4 24) from by rw [heap_setCell_other _ _ _ _ (by simp <;> omega)]; exact HS.out)
          have hb2 : Below B w (wr.setCell ⟨B + 1 + 1 + 1 + 1, i + j, none⟩ (.int .u64 (z : Int))) := hb.setCell (by simp; omega) _
          generalize dg (rowW x y i) (i + j) = p at *
          generalize mixN 8 (rowW x y i) (rowW x y (i + 1)) (i + j) = u at *
          generalize cyR x y i j = c at *
          generalize hcc : cyR x y i (j + 1) = c' at *
          have HCC := Lib.hid hcc
          generalize dg x j = q at *
          clear r1 HG HD HR HS hb s1 s2 hcc
          go_wp2_with fail
          clear ix
          refine HC.out.mono ?_
          rintro e W1 ⟨rfl, rfl⟩
          go_wp2_with fail
          go_roundw
          case rel => exact ⟨j + 1, by omega, by go_num, by rw [HCC.out], HG2.out, HD2.out, HR2.out, HS2.out, by rw [← Nat.add_assoc]; exact HO2.out, hb2⟩
          case measure => simp [intOf]; omega
        · have hdj : decide ((j : Int) < 4) = false := by simp; omega
          obtain rfl : j = 4 := by omega
          have hij : ((i : Int) + 4).toNat = i + 4 := by omega
          rw [row_last x y i HX.out]
          have r1 := uc_heap_set HO.out (i + 4) (dg (rowW x y (i + 1)) (i + 4))
          rw [mixN_set _ _ _ _ (by omega), show i + 4 + 1 = i + 5 from rfl, row_end _ _ _ _ HX.out] at r1
          have cz := uc_cell HO.out (i + 4) (by rw [mixN_length]; omega)
          have fx := frozen_of_row wr (B + 1 + 1 + 1 + 1) (i + 4) _ _ HO.out
          have hll := mixN_length 8 (rowW x y i) (rowW x y (i + 1)) (i + 4)
          generalize dg (rowW x y (i + 1)) (i + 4) = z at *
          have HO2 := Lib.hid r1
          have HG2 := Lib.hid (show (wr.setCell ⟨B + 1 + 1 + 1 + 1, i + 4, none⟩ (.int .u64 (z : Int))).heap[B]? = some (.cells (uc (limN 4 x)) 24) from by rw [heap_setCell_other _ _ _ _ (by simp <;> omega)]; exact HG.out)
          have HD2 := Lib.hid (show (wr.setCell ⟨B + 1 + 1 + 1 + 1, i + 4, none⟩ (.int .u64 (z : Int))).heap[B + 1]? = some (.cells (uc (limN 4 y)) 24) from by rw [heap_setCell_other _ _ _ _ (by simp <;> omega)]; exact HD.out)
          have HR2 := Lib.hid (show (wr.setCell ⟨B + 1 + 1 + 1 + 1, i + 4, none⟩ (.int .u64 (z : Int))).heap[B + 1 + 1]? = some (.cells zeros4 24) from by rw [heap_setCell_other _ _ _ _ (by simp <;> omega)]; exact HR.out)
          have HS2 := Lib.hid (show (wr.setCell ⟨B + 1 + 1 + 1 + 1, i + 4, none⟩ (.int .u64 (z : Int))).heap[B + 1 + 1 + 1]? = some (.cells zeros4 24) from by rw [heap_setCell_other _ _ _ _ (by simp <;> omega)]; exact HS.out)
          have hb2 : Below B w (wr.setCell ⟨B + 1 + 1 + 1 + 1, i + 4, none⟩ (.int .u64 (z : Int))) := hb.setCell (by simp; omega) _
          generalize mixN 8 (rowW x y i) (rowW x y (i + 1)) (i + 4) = u at *
          clear r1 HG HD HR HS hb
          go_wp2_with fail
          go_roundw
          case rel => exact ⟨i + 1, by omega, by go_num, HG2.out, HD2.out, HR2.out, HS2.out, HO2.out, hb2⟩
          case measure => simp [intOf]; omega
    · have hd : decide ((i : Int) < 4) = false := by simp; omega
      obtain rfl : i = 4 := by omega
      rw [rowW_last x y HY.out, limN_halves] at HO
      clear HX HY HZ8
      go_wp2_with fail
      have hlw := blk_lt HO.out
      have hm0 := limN_length 4 (x * y % mF); have hm1 := limN_length 4 (x * y / mF)
      generalize hlo : limN 4 (x * y % mF) = lo at *
      generalize hhi : limN 4 (x * y / mF) = hi at *
      have HLO := Lib.hid hlo; have HHI := Lib.hid hhi
      clear hlo hhi HG HD
      have HV1 := Lib.hid (blk_old (o := .cells zeros4 24) (blk_new wr (.cells zeros4 24)))
      have HV2 := Lib.hid (blk_new2 wr (.cells zeros4 24) (.cells zeros4 24))
      have hb1 : Below wr.heap.size wr ((wr.alloc (.cells zeros4 24)).alloc (.cells zeros4 24)) := below_new2 wr (.cells zeros4 24) (.cells zeros4 24)
      have HO1 := Lib.hid (blk_below hb1 hlw HO.out)
      have HR1 := Lib.hid (blk_below hb1 (by omega) HR.out)
      have HS1 := Lib.hid (blk_below hb1 (by omega) HS.out)
      have hb2 : Below B w ((wr.alloc (.cells zeros4 24)).alloc (.cells zeros4 24)) := hb.trans (hb1.mono (by omega))
      clear HO HR HS hb hb1 hz
      generalize ((wr.alloc _).alloc _) = V0 at *
      generalize wr.heap.size = S at *
      have sl := arr_sliced_all 24 4 S (by kernel_rfl) (by kernel_rfl) (by kernel_rfl) (by omega)
      have sh := sliced_low8 (B + 1 + 1 + 1 + 1)
      refine wp_region_reads_tail 2 (by kernel_rfl) (by kernel_rfl) ?_
      simp only [List.take_succ_cons, List.take_zero, List.drop_succ_cons, List.drop_zero]
      repeat (first | go_big_quiet_step (fail) | quiet_step (fail))
      refine wpQuiet_nil ?_
      intro V1 hv1
      have hq0 := blk_lt HV2.out
      have HVa := Lib.hid (blk_below hv1 (by omega) HV1.out)
      have HVb := Lib.hid (blk_below hv1 hq0 HV2.out)
      have HO2 := Lib.hid (blk_below hv1 (blk_lt HO1.out) HO1.out)
      have HR2 := Lib.hid (blk_below hv1 (blk_lt HR1.out) HR1.out)
      have HS2 := Lib.hid (blk_below hv1 (blk_lt HS1.out) HS1.out)
      have hb3 : Below B w V1 := hb2.trans (hv1.mono (by have := blk_lt HO1.out; omega))
      have hcp := copy_words V1 S (B + 1 + 1 + 1 + 1) 0 8 (lo ++ hi) lo hm0 (by simp [hm0, hm1]) (fun j hj => by rw [Nat.zero_add, List.getD_eq_getElem?_getD, List.getElem?_append_left (by omega), ← List.getD_eq_getElem?_getD]) HVa.out HO2.out
      clear HV1 HV2 HO1 HR1 HS1 hb2 hq0
      go_wp2_with fail
      clear hcp sh sl hv1
      have HA := Lib.hid (setRow_heap V1 S zeros4 (uc lo) _ _ HVa.out)
      have HVc := Lib.hid (show (V1.setRow S (uc lo)).heap[S + 1]? = some (.cells zeros4 24) from by rw [setRow_other _ _ _ _ (by omega)]; exact HVb.out)
      have HO3 := Lib.hid (show (V1.setRow S (uc lo)).heap[B + 1 + 1 + 1 + 1]? = some (.cells (uc (lo ++ hi)) 66) from by rw [setRow_other _ _ _ _ (by omega)]; exact HO2.out)
      have HR3 := Lib.hid (show (V1.setRow S (uc lo)).heap[B + 1 + 1]? = some (.cells zeros4 24) from by rw [setRow_other _ _ _ _ (by omega)]; exact HR2.out)
      have HS3 := Lib.hid (show (V1.setRow S (uc lo)).heap[B + 1 + 1 + 1]? = some (.cells zeros4 24) from by rw [setRow_other _ _ _ _ (by omega)]; exact HS2.out)
      have hb4 : Below B w (V1.setRow S (uc lo)) := below_setRow hb3 (by omega) _
      clear HVa HVb HO2 HR2 HS2 hb3
      generalize V1.setRow S (uc lo) = V2 at *
      have sl := arr_sliced_all 24 4 (S + 1) (by kernel_rfl) (by kernel_rfl) (by kernel_rfl) (by omega)
      have sh := sliced_high8 (B + 1 + 1 + 1 + 1)
      refine wp_region_reads_tail 2 (by kernel_rfl) (by kernel_rfl) ?_
      simp only [List.take_succ_cons, List.take_zero, List.drop_succ_cons, List.drop_zero]
      repeat (first | go_big_quiet_step (fail) | quiet_step (fail))
      refine wpQuiet_nil ?_
      intro V3 hv3
      have HA3 := Lib.hid (blk_below hv3 (blk_lt HA.out) HA.out)
      have HVd := Lib.hid (blk_below hv3 (blk_lt HVc.out) HVc.out)
      have HO4 := Lib.hid (blk_below hv3 (blk_lt HO3.out) HO3.out)
      have HR4 := Lib.hid (blk_below hv3 (blk_lt HR3.out) HR3.out)
      have HS4 := Lib.hid (blk_below hv3 (blk_lt HS3.out) HS3.out)
      have hb5 : Below B w V3 := hb4.trans (hv3.mono (by have := blk_lt HO3.out; omega))
      have hcp := copy_words V3 (S + 1) (B + 1 + 1 + 1 + 1) 4 4 (lo ++ hi) hi hm1 (by simp [hm0, hm1]) (fun j hj => by rw [List.getD_eq_getElem?_getD, List.getElem?_append_right (by omega), hm0, Nat.add_sub_cancel_left, ← List.getD_eq_getElem?_getD]) HVd.out HO4.out
      clear HA HVc HO3 HR3 HS3 hb4
      go_wp2_with fail
      clear hcp sh sl hv3
      have HB := Lib.hid (setRow_heap V3 (S + 1) zeros4 (uc hi) _ _ HVd.out)
      have HA5 := Lib.hid (show (V3.setRow (S + 1) (uc hi)).heap[S]? = some (.cells (uc lo) 24) from by rw [setRow_other _ _ _ _ (by omega)]; exact HA3.out)
      have HR5 := Lib.hid (show (V3.setRow (S + 1) (uc hi)).heap[B + 1 + 1]? = some (.cells zeros4 24) from by rw [setRow_other _ _ _ _ (by omega)]; exact HR4.out)
      have HS5 := Lib.hid (show (V3.setRow (S + 1) (uc hi)).heap[B + 1 + 1 + 1]? = some (.cells zeros4 24) from by rw [setRow_other _ _ _ _ (by omega)]; exact HS4.out)
      have hb6 : Below B w (V3.setRow (S + 1) (uc hi)) := below_setRow hb5 (by omega) _
      clear HVd HO4 HA3 HR4 HS4 hb5
      generalize V3.setRow (S + 1) (uc hi) = V4 at *
      have HI0 := Lib.hid (sizeL lo hm0); have HI1 := Lib.hid (sizeL hi hm1)
      have HZ0 := Lib.hid (zeros4_size lo hm0); have HZ1 := Lib.hid (zeros4_size hi hm1)
      have H0 := Lib.hid (uc_one lo); have H1 := Lib.hid (uc_one hi)
      refine wp_region_rows2 (d0 := 52) (d1 := 53) (by kernel_rfl) (by kernel_rfl) rfl rfl rfl rfl rfl rfl rfl rfl rfl rfl rfl rfl (by decide) S (S + 1) (B + 1 + 1) (B + 1 + 1 + 1) (uc lo) (uc hi) zeros4 zeros4 24 24 24 24 _ HA5.out HB.out HR5.out HS5.out (by omega) (by omega) Tryd.underlying24 rfl HI0.out HI1.out HZ0.out HZ1.out H0.out H1.out rfl rfl rfl rfl rfl rfl rfl rfl rfl rfl ?_
      intro V5 hv5 hh5
      have HR6 : V5.heap[B + 1 + 1]? = some (.cells zeros4 24) := by rw [hh5]; exact HR5.out
      have HS6 : V5.heap[B + 1 + 1 + 1]? = some (.cells zeros4 24) := by rw [hh5]; exact HS5.out
      have hb7 : Below B w V5 := hb6.trans (hv5.mono (by have := blk_lt HS5.out; omega))
      have HS7 : (V5.setRow (B + 1 + 1) (uc lo)).heap[B + 1 + 1 + 1]? = some (.cells zeros4 24) := by rw [setRow_other _ _ _ _ (by omega)]; exact HS6
      have HR7 : ((V5.setRow (B + 1 + 1) (uc lo)).setRow (B + 1 + 1 + 1) (uc hi)).heap[B + 1 + 1]? = some (.cells (uc lo) 24) := by rw [setRow_other _ _ _ _ (by omega)]; exact setRow_heap _ _ _ _ _ _ HR6
      have HS8 := setRow_heap _ (B + 1 + 1 + 1) _ (uc hi) _ _ HS7
      have hb8 := below_setRow (below_setRow hb7 (show B ≤ B + 1 + 1 by omega) (uc lo)) (show B ≤ B + 1 + 1 + 1 by omega) (uc hi)
      go_wp2_with fail
      exact bodyPost_ret (results_rows2 (by rfl) _ _ (B + 1 + 1) (B + 1 + 1 + 1) 24 24 _ _ _ _ rfl HR7 Tryd.underlying24 rfl HI0.out rfl HS8 Tryd.underlying24 rfl HI1.out) rfl ⟨by rw [HLO.out, HHI.out], by rw [HBB.out]; exact hb8⟩
end Go.Proofs.YtfidcdkoggfjaaaDoor
