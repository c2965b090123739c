/- sha.schedule at words of 64 bits: the eighty cells of its array, of a block of 128 bytes. -/
import Derived.Test.YthcfolefdalaiaaDoorMath64
import Derived.Test.YthcfolefdalaiaaDoorTail
namespace Go.Proofs.YthcfolefdalaiaaDoor
open Go.RowKit Go.Sort
set_option maxRecDepth 100000
set_option linter.unusedSimpArgs false
set_option linter.unusedVariables false

theorem info80_64 : (Tryd.prog.info? 92).map (fun i => (i.zero, i.size)) = some (some (.agg (pad80_64 [])), 80) := by kernel_rfl

/-- The parameters lie in block b. -/
def PrmBt (W : World) (b : Nat) : Prop := W.heap[b]? = some (.cells #[.int .i64 128, .int .i64 80, .int .u64 1, .int .u64 8, .int .u64 7, .int .u64 19, .int .u64 61, .int .u64 6, .int .u64 14, .int .u64 18, .int .u64 41, .int .u64 28, .int .u64 34, .int .u64 39] 52 (0, 0))
theorem PrmBt.cells {W : World} {b : Nat} (h : PrmBt W b) :
    W.cell? ⟨b, 0, none⟩ = some (.int .i64 128) ∧ W.cell? ⟨b, 1, none⟩ = some (.int .i64 80) ∧
    W.cell? ⟨b, 2, none⟩ = some (.int .u64 1) ∧ W.cell? ⟨b, 3, none⟩ = some (.int .u64 8) ∧ W.cell? ⟨b, 4, none⟩ = some (.int .u64 7) ∧
    W.cell? ⟨b, 5, none⟩ = some (.int .u64 19) ∧ W.cell? ⟨b, 6, none⟩ = some (.int .u64 61) ∧ W.cell? ⟨b, 7, none⟩ = some (.int .u64 6) ∧
    W.cell? ⟨b, 8, none⟩ = some (.int .u64 14) ∧ W.cell? ⟨b, 9, none⟩ = some (.int .u64 18) ∧ W.cell? ⟨b, 10, none⟩ = some (.int .u64 41) ∧
    W.cell? ⟨b, 11, none⟩ = some (.int .u64 28) ∧ W.cell? ⟨b, 12, none⟩ = some (.int .u64 34) ∧ W.cell? ⟨b, 13, none⟩ = some (.int .u64 39) := by
  refine ⟨?_, ?_, ?_, ?_, ?_, ?_, ?_, ?_, ?_, ?_, ?_, ?_, ?_, ?_⟩ <;> (rw [cell_of_row W b _ _ _ _ h]; rfl)
theorem PrmBt.below {W W' : World} {b B : Nat} (h : PrmBt W b) (hb : Below B W W') (hlt : b < B) : PrmBt W' b := (hb.block b hlt).trans h
set_option maxHeartbeats 1000000 in
theorem schedule64_any (s : ByteArray) (w : World) (hs : 128 ≤ s.size) (hs' : s.size ≤ 128) :
    Calls Tryd.prog 65 #[prm512, .string s] w fun e w' => e = .returned (.agg (pad80_64 (sch64 (wds64 s.data.toList) 64))) ∧ Below w.heap.size w w' := by
  obtain ⟨hz, hi⟩ := zero_of_info info80_64
  go_enter Tryd.func65, Tryd.ntmps65
  go_wp2_with fail
  clear hz
  have hP := blk_old (o := .cells (pad80_64 []) 92) (blk_old (o := .cells (pad80_64 []) 92) (blk_new w (.cells #[.int .i64 128, .int .i64 80, .int .u64 1, .int .u64 8, .int .u64 7, .int .u64 19, .int .u64 61, .int .u64 6, .int .u64 14, .int .u64 18, .int .u64 41, .int .u64 28, .int .u64 34, .int .u64 39] 52)))
  have hR := blk_old (o := .cells (pad80_64 []) 92) (blk_new2 w (.cells #[.int .i64 128, .int .i64 80, .int .u64 1, .int .u64 8, .int .u64 7, .int .u64 19, .int .u64 61, .int .u64 6, .int .u64 14, .int .u64 18, .int .u64 41, .int .u64 28, .int .u64 34, .int .u64 39] 52) (.cells (pad80_64 []) 92))
  have hA := blk_new3 w (.cells #[.int .i64 128, .int .i64 80, .int .u64 1, .int .u64 8, .int .u64 7, .int .u64 19, .int .u64 61, .int .u64 6, .int .u64 14, .int .u64 18, .int .u64 41, .int .u64 28, .int .u64 34, .int .u64 39] 52) (.cells (pad80_64 []) 92) (.cells (pad80_64 []) 92)
  have hB := below_new3 w (.cells #[.int .i64 128, .int .i64 80, .int .u64 1, .int .u64 8, .int .u64 7, .int .u64 19, .int .u64 61, .int .u64 6, .int .u64 14, .int .u64 18, .int .u64 41, .int .u64 28, .int .u64 34, .int .u64 39] 52) (.cells (pad80_64 []) 92) (.cells (pad80_64 []) 92)
  generalize (((w.alloc _).alloc _).alloc _) = W at *
  replace hP : PrmBt W w.heap.size := hP
  generalize hBB : w.heap.size = B at *
  have HBB := Lib.hid hBB
  clear hBB
  obtain ⟨c0, c1, c2, c3, c4, c5, c6, c7, c8, c9, c10, c11, c12, c13⟩ := hP.cells
  have k0 := cell_regrown c0; have k1 := cell_regrown c1; have k2 := cell_regrown c2; have k3 := cell_regrown c3; have k4 := cell_regrown c4
  have k5 := cell_regrown c5; have k6 := cell_regrown c6; have k7 := cell_regrown c7; have k8 := cell_regrown c8; have k9 := cell_regrown c9
  have k10 := cell_regrown c10; have k11 := cell_regrown c11; have k12 := cell_regrown c12; have k13 := cell_regrown c13
  have HR := Lib.hid hR; have HA := Lib.hid hA; clear hR hA
  refine wp_region_reads (by kernel_rfl) (by kernel_rfl) ?_
  repeat (quiet_step (first | (go_at_call 53; exact Calls.regrown_of (wordBytes512 _)) | (go_at_call 54; exact Calls.regrown_of (wordBits512 _))))
  refine wpQuiet_nil ?_
  intro W2 hb2
  clear k0 k1 k2 k3 k4 k5 k6 k7 k8 k9 k10 k11 k12 k13 c0 c1 c2 c3 c4 c5 c6 c7 c8 c9 c10 c11 c12 c13
  have hp2 := hP.below hb2 (blk_lt hP)
  have hr2 := blk_below hb2 (blk_lt HR.out) HR.out
  have ha2 := blk_below hb2 (blk_lt HA.out) HA.out
  have hB2 : Below B w W2 := hB.trans (hb2.mono (Nat.le_of_lt (blk_lt hP)))
  clear hP HR HA hB hb2
  go_wp2_with fail
  go_loopw [14] (fun i wr => ∃ k : Nat, k ≤ 16 ∧ i = .int .i64 k ∧ PrmBt wr B ∧ wr.heap[B + 1]? = some (.cells (pad80_64 []) 92) ∧ wr.heap[B + 1 + 1]? = some (.cells (pad80_64 ((wds64 s.data.toList).take k)) 92) ∧ Below B w wr) (fun i _ => 16 - (intOf i).toNat)
  case atStart => exact ⟨0, Nat.zero_le _, rfl, hp2, hr2, ha2, hB2⟩
  case round =>
    obtain ⟨k, hk, rfl, hp, hr, ha, hb⟩ := hrel
    clear hp2 hr2 ha2 hB2
    have hl : ((wds64 s.data.toList).take k).length = k := by simp [wds64_length]; omega
    by_cases hlt : k < 16
    · have hcell : wr.cell? ⟨B + 1 + 1, k, none⟩ = some (.int .u64 0) := by rw [cell_of_row wr _ _ _ _ _ ha]; exact pad80_64_get0 _ _ (by omega) (by omega)
      have hfz : wr.frozen? ⟨B + 1 + 1, k, none⟩ = false := frozen_of_row wr _ _ _ _ ha
      have HP := Lib.hid hp; have HR := Lib.hid hr; have HA := Lib.hid ha; have HL := Lib.hid hl
      clear hp hr ha hl
      go_wp2_with fail
      refine (load64_any _ _ (by simp [maxLen]; omega)).mono ?_
      rintro e w' ⟨rfl, rfl⟩
      have HV : Hid ((k + 1) * 8 - k * 8 = 8) := Lib.hid (by omega)
      go_wp2_with fail
      go_roundw
      case rel =>
        refine ⟨k + 1, by omega, by go_num, ?_, ?_, ?_, hb.setCell (by simp; omega) _⟩
        · exact (heap_setCell_other _ _ _ _ (by simp; omega)).trans HP.out
        · exact (heap_setCell_other _ _ _ _ (by simp)).trans HR.out
        · rw [wds64_snoc _ _ hlt, HV.out]
          have e := pad80_64_set ((wds64 s.data.toList).take k) (ld64 ((s.data.toList.drop (k * 8)).take 8)) (by rw [HL.out]; omega)
          rw [HL.out] at e
          rw [← e]
          exact heap_setCell_same _ _ _ _ _ _ HA.out
      case measure => simp [intOf]; omega
    · have hd : decide ((k : Int) < 16) = false := by simp; omega
      have hk16 : (wds64 s.data.toList).take k = sch64 (wds64 s.data.toList) 0 := by rw [List.take_of_length_le (by rw [wds64_length]; omega)]; rfl
      rw [hk16] at ha
      clear hk16 hl
      have HP := Lib.hid hp; have HR := Lib.hid hr; have HA := Lib.hid ha
      clear hp hr ha
      have hc1 : wr.cell? ⟨B, 1, none⟩ = some (.int .i64 80) := HP.out.cells.2.1
      go_wp2_with fail
      clear hc1
      go_loopw [9] (fun i wr => ∃ t : Nat, 16 ≤ t ∧ t ≤ 80 ∧ i = .int .i64 t ∧ PrmBt wr B ∧ wr.heap[B + 1]? = some (.cells (pad80_64 []) 92) ∧ wr.heap[B + 1 + 1]? = some (.cells (pad80_64 (sch64 (wds64 s.data.toList) (t - 16))) 92) ∧ Below B w wr) (fun i _ => 80 - (intOf i).toNat)
      case atStart => exact ⟨16, Nat.le_refl _, by omega, rfl, HP.out, HR.out, HA.out, hb⟩
      case round =>
        clear HP HR HA hb hd
        obtain ⟨t, ht, ht', rfl, hp, hr, ha, hb⟩ := hrel
        obtain ⟨c0, c1, c2, c3, c4, c5, c6, c7, c8, c9, c10, c11, c12, c13⟩ := hp.cells
        clear c0 c8 c9 c10 c11 c12 c13
        have hl : (sch64 (wds64 s.data.toList) (t - 16)).length = t := by rw [sch64_length _ (wds64_length _)]; omega
        have hz1 := blk_lt ha
        by_cases hlt : t < 80
        · have hd : decide ((t : Int) < 80) = true := by simp; omega
          have hcell : ∀ j, j < t → wr.cell? ⟨B + 1 + 1, j, none⟩ = some (.int .u64 ((sch64 (wds64 s.data.toList) (t - 16)).getD j 0)) := fun j hj => by rw [cell_of_row wr _ _ _ _ _ ha]; exact pad80_64_get _ _ (by omega)
          have d16 := hcell (t - 16) (by omega); have d7 := hcell (t - 7) (by omega); have d15 := hcell (t - 15) (by omega); have d2 := hcell (t - 2) (by omega)
          have dt : wr.cell? ⟨B + 1 + 1, t, none⟩ = some (.int .u64 0) := by rw [cell_of_row wr _ _ _ _ _ ha]; exact pad80_64_get0 _ _ (by omega) (by omega)
          have hfz : wr.frozen? ⟨B + 1 + 1, t, none⟩ = false := frozen_of_row wr _ _ _ _ ha
          have he : ext64 (sch64 (wds64 s.data.toList) (t - 16)) t = IntKind.u64.wrap (IntKind.u64.wrap (IntKind.u64.wrap ((sch64 (wds64 s.data.toList) (t - 16)).getD (t - 16) 0 + (sch64 (wds64 s.data.toList) (t - 16)).getD (t - 7) 0) + shf3_64 ((sch64 (wds64 s.data.toList) (t - 16)).getD (t - 15) 0) 1 8 7) + shf3_64 ((sch64 (wds64 s.data.toList) (t - 16)).getD (t - 2) 0) 19 61 6) := rfl
          generalize (sch64 (wds64 s.data.toList) (t - 16)).getD (t - 16) 0 = x16 at *
          generalize (sch64 (wds64 s.data.toList) (t - 16)).getD (t - 7) 0 = x7 at *
          generalize (sch64 (wds64 s.data.toList) (t - 16)).getD (t - 15) 0 = x15 at *
          generalize (sch64 (wds64 s.data.toList) (t - 16)).getD (t - 2) 0 = x2 at *
          have HP := Lib.hid hp; have HR := Lib.hid hr; have HA := Lib.hid ha; have HL := Lib.hid hl; have HE := Lib.hid he
          clear hp hr ha hl hcell he
          go_wp2_with fail
          have k16 := cell_regrown d16; have k7 := cell_regrown d7; have k15 := cell_regrown d15; have k2 := cell_regrown d2
          have m2 := cell_regrown c2; have m3 := cell_regrown c3; have m4 := cell_regrown c4; have m5 := cell_regrown c5; have m6 := cell_regrown c6; have m7 := cell_regrown c7
          refine wp_region_reads_tail 29 (by kernel_rfl) (by kernel_rfl) ?_
          simp only [List.take_succ_cons, List.take_zero, List.drop_succ_cons, List.drop_zero]
          repeat (first | go_big_quiet_step ((go_at_call 71; exact Calls.regrown_of (shifted64_any _ _ _ _ _ (by omega) (by omega) (by omega) (by omega) (by omega) (by omega)))) | quiet_step ((go_at_call 71; exact Calls.regrown_of (shifted64_any _ _ _ _ _ (by omega) (by omega) (by omega) (by omega) (by omega) (by omega)))))
          refine wpQuiet_nil ?_
          intro W3 hb3
          clear k16 k7 k15 k2 m2 m3 m4 m5 m6 m7
          have dt3 : W3.cell? ⟨B + 1 + 1, t, none⟩ = some (.int .u64 0) := (hb3.cell (by simpa using hz1)).trans dt
          have hfz3 : W3.frozen? ⟨B + 1 + 1, t, none⟩ = false := (hb3.frozen (by simpa using hz1)).trans hfz
          have hsz3 := hb3.size
          have hb4 : Below B w W3 := hb.trans (hb3.mono (by omega))
          have HP3 := Lib.hid (HP.out.below hb3 (by omega)); have HR3 := Lib.hid (blk_below hb3 (by omega) HR.out); have HA3 := Lib.hid (blk_below hb3 hz1 HA.out)
          clear HP HR HA d16 d7 d15 d2 dt hfz hb3 hb c1 c2 c3 c4 c5 c6 c7
          go_wp2_with fail
          go_roundw
          case rel =>
            refine ⟨t + 1, by omega, by omega, by go_num, ?_, ?_, ?_, hb4.setCell (by simp; omega) _⟩
            · exact (heap_setCell_other _ _ _ _ (by simp; omega)).trans HP3.out
            · exact (heap_setCell_other _ _ _ _ (by simp)).trans HR3.out
            · have e := pad80_64_set (sch64 (wds64 s.data.toList) (t - 16)) (ext64 (sch64 (wds64 s.data.toList) (t - 16)) t) (by rw [HL.out]; omega)
              rw [HL.out] at e
              have e2 : sch64 (wds64 s.data.toList) (t + 1 - 16) = sch64 (wds64 s.data.toList) (t - 16) ++ [ext64 (sch64 (wds64 s.data.toList) (t - 16)) t] := by
                rw [show t + 1 - 16 = (t - 16) + 1 by omega, sch64, show 16 + (t - 16) = t by omega]
              rw [e2, ← e]
              refine (heap_setCell_same _ _ _ _ _ _ HA3.out).trans ?_
              rw [HE.out]
          case measure => simp [intOf]; omega
        · have hd : decide ((t : Int) < 80) = false := by simp; omega
          obtain rfl : t = 80 := by omega
          have HP := Lib.hid hp; have HR := Lib.hid hr; have HA := Lib.hid ha
          have hlen : (sch64 (wds64 s.data.toList) (80 - 16)).length ≤ 80 := by rw [sch64_length _ (wds64_length _)]; omega
          have HI := Lib.hid (show (Tryd.prog.info? 92).map (·.size) = some (pad80_64 (sch64 (wds64 s.data.toList) (80 - 16))).size from by rw [pad80_64_size _ hlen]; exact hi)
          have HO := Lib.hid (show (pad80_64 []).size = (pad80_64 (sch64 (wds64 s.data.toList) (80 - 16))).size from by rw [pad80_64_size _ hlen, pad80_64_size _ (by simp)])
          have H1 := Lib.hid (pad80_64_one _ hlen)
          clear hp hr ha hl c2 c3 c4 c5 c6 c7 hi hlen
          go_wp2_with (first
            | (with_reducible refine wpList_load_row rfl 92 _ rfl (B + 1 + 1) rfl 92 _ (0, 0) (.array 80 48) HA.out Tryd.underlying92 rfl HI.out ?_)
            | (with_reducible refine wpList_store_row rfl 92 _ _ rfl (B + 1) (pad80_64 (sch64 (wds64 s.data.toList) (80 - 16))) rfl rfl 92 _ HR.out HI.out HO.out H1.out ?_))
          exact bodyPost_ret (v := .agg (pad80_64 (sch64 (wds64 s.data.toList) (80 - 16)))) (results_cell_row (by rfl) _ _ (B + 1) 92 _ (0, 0) (.array 80 48) rfl (setRow_heap _ _ _ _ _ _ HR.out) Tryd.underlying92 rfl HI.out) rfl ⟨rfl, by rw [HBB.out]; exact below_setRow hb (by omega) _⟩
end Go.Proofs.YthcfolefdalaiaaDoor
