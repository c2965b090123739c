/- sha.start at words of 64 bits: the initial words, no byte, no length. The table of the initial values lies in its variable. -/
import Derived.Test.YthcfolefdalaiaaDoorWrite64
import Derived.Test.YthcfolefdalaiaaDoorStart32
namespace Go.Proofs.YthcfolefdalaiaaDoor
open Go.RowKit Go.Sort
set_option maxRecDepth 100000
set_option linter.unusedSimpArgs false
set_option linter.unusedVariables false

/-- The initial words, of which k have been laid. -/
def beg64 (H : Nat → Int) (k : Nat) : W8 := ofFn fun j => if j < k then H j else 0
theorem beg64_set (H : Nat → Int) (k : Nat) (h : k < 8) (r : ByteArray) (l : Int) : (rc64 [] [] (beg64 H k) r l).setIfInBounds k (.int .u64 (H k)) = rc64 [] [] (beg64 H (k + 1)) r l := by
  rcases lt8 h with rfl | rfl | rfl | rfl | rfl | rfl | rfl | rfl <;> rfl
def init64 (H : Nat → Int) : W8 := ofFn fun j => H j
theorem beg64_eight (H : Nat → Int) : beg64 H 8 = init64 H := rfl
theorem info10_64 : (Tryd.prog.info? 65).map (fun i => (i.zero, i.size)) = some (some (.agg (rc64 [] [] (ofFn fun _ => 0) ⟨#[]⟩ 0)), 10) := by kernel_rfl

set_option maxHeartbeats 1000000 in
theorem start64_any (H : Nat → Int) (w : World) (hH : TabH w H) :
    Calls Tryd.prog 39 #[prm512] w fun e w' => e = .returned (.agg (rc64 [] [] (init64 H) ⟨#[]⟩ 0)) ∧ Below w.heap.size w w' := by
  have HZ := Lib.hid (zero_of_info info10_64)
  have hz := HZ.out.1
  go_enter Tryd.func39, Tryd.ntmps39
  go_wp2_with fail
  have hP : PrmBt (((w.alloc (.cells #[.int .i64 128, .int .i64 80, .int .u64 1, .int .u64 8, .int .u64 7, .int .u64 19, .int .u64 61, .int .u64 6, .int .u64 14, .int .u64 18, .int .u64 41, .int .u64 28, .int .u64 34, .int .u64 39] 52)).alloc (.cells (rc64 [] [] (ofFn fun _ => 0) ⟨#[]⟩ 0) 65)).alloc (.cells (rc64 [] [] (ofFn fun _ => 0) ⟨#[]⟩ 0) 65)) w.heap.size := blk_old (blk_old (blk_new w _))
  have hR := blk_old (o := (.cells (rc64 [] [] (ofFn fun _ => 0) ⟨#[]⟩ 0) 65)) (blk_new2 w (.cells #[.int .i64 128, .int .i64 80, .int .u64 1, .int .u64 8, .int .u64 7, .int .u64 19, .int .u64 61, .int .u64 6, .int .u64 14, .int .u64 18, .int .u64 41, .int .u64 28, .int .u64 34, .int .u64 39] 52) (.cells (rc64 [] [] (ofFn fun _ => 0) ⟨#[]⟩ 0) 65))
  have hA := blk_new3 w (.cells #[.int .i64 128, .int .i64 80, .int .u64 1, .int .u64 8, .int .u64 7, .int .u64 19, .int .u64 61, .int .u64 6, .int .u64 14, .int .u64 18, .int .u64 41, .int .u64 28, .int .u64 34, .int .u64 39] 52) (.cells (rc64 [] [] (ofFn fun _ => 0) ⟨#[]⟩ 0) 65) (.cells (rc64 [] [] (ofFn fun _ => 0) ⟨#[]⟩ 0) 65)
  have hB := below_new3 w (.cells #[.int .i64 128, .int .i64 80, .int .u64 1, .int .u64 8, .int .u64 7, .int .u64 19, .int .u64 61, .int .u64 6, .int .u64 14, .int .u64 18, .int .u64 41, .int .u64 28, .int .u64 34, .int .u64 39] 52) (.cells (rc64 [] [] (ofFn fun _ => 0) ⟨#[]⟩ 0) 65) (.cells (rc64 [] [] (ofFn fun _ => 0) ⟨#[]⟩ 0) 65)
  have hT := hH.below hB hH.lt
  have hlow := hH.lt
  generalize (((w.alloc _).alloc _).alloc _) = W at *
  generalize hBB : w.heap.size = B at *
  have HBB := Lib.hid hBB
  have HP := Lib.hid hP; have HR := Lib.hid hR; have HA := Lib.hid hA
  clear hBB hP hR hA hH hz
  go_loopw [5] (fun i wr => ∃ k : Nat, k ≤ 8 ∧ i = .int .i64 k ∧ PrmBt wr B ∧ wr.heap[B + 1]? = some (.cells (rc64 [] [] (ofFn fun _ => 0) ⟨#[]⟩ 0) 65) ∧ wr.heap[B + 1 + 1]? = some (.cells (rc64 [] [] (beg64 H k) ⟨#[]⟩ 0) 65) ∧ TabH wr H ∧ Below B w wr) (fun i _ => 8 - (intOf i).toNat)
  case atStart => exact ⟨0, by omega, rfl, HP.out, HR.out, HA.out, hT, hB⟩
  case round =>
    clear HP HR HA hT hB
    obtain ⟨k, hk, rfl, hp, hr, ha, ht, hb⟩ := hrel
    have HP := Lib.hid hp; have HR := Lib.hid hr; have HA := Lib.hid ha
    clear hp hr ha
    by_cases hk8 : k < 8
    · have hd : decide ((k : Int) < 8) = true := by simp; omega
      go_wp2_with fail
      obtain ⟨c0, c1, c2, c3, c4, c5, c6, c7, c8, c9, c10, c11, c12, c13⟩ := HP.out.cells
      have k0 := cell_regrown c0; have k1 := cell_regrown c1; have k2 := cell_regrown c2; have k3 := cell_regrown c3; have k4 := cell_regrown c4
      have k5 := cell_regrown c5; have k6 := cell_regrown c6; have k7 := cell_regrown c7; have k8 := cell_regrown c8; have k9 := cell_regrown c9
      have k10 := cell_regrown c10; have k11 := cell_regrown c11; have k12 := cell_regrown c12; have k13 := cell_regrown c13
      have kh := cell_regrown (ht k hk8)
      refine wp_region_reads_tail 9 (by kernel_rfl) (by kernel_rfl) ?_
      simp only [List.take_succ_cons, List.take_zero, List.drop_succ_cons, List.drop_zero]
      repeat (first | go_big_quiet_step ((go_at_call 51; exact Calls.regrown_of (unused512 _))) | quiet_step ((go_at_call 51; exact Calls.regrown_of (unused512 _))))
      refine wpQuiet_nil ?_
      intro W1 hb1
      clear k0 k1 k2 k3 k4 k5 k6 k7 k8 k9 k10 k11 k12 k13 c0 c1 c2 c3 c4 c5 c6 c7 c8 c9 c10 c11 c12 c13 kh
      have hA1 := blk_below hb1 (blk_lt HA.out) HA.out
      have hR1 := blk_below hb1 (blk_lt HR.out) HR.out
      have hP1 := HP.out.below hb1 (blk_lt HP.out)
      have ht1 := ht.below hb1 ht.lt
      have hB1 : Below B w W1 := hb.trans (hb1.mono (Nat.le_of_lt (blk_lt HP.out)))
      have ck : ∃ y, W1.cell? ⟨B + 1 + 1, k, none⟩ = some (.int .u64 y) := by
        have := rc64_state [] [] (beg64 H k) ⟨#[]⟩ 0 k hk8
        exact ⟨_, by rw [cell_of_row W1 _ _ _ _ _ hA1]; simpa using this⟩
      obtain ⟨y, ck⟩ := ck
      have fk : W1.frozen? ⟨B + 1 + 1, k, none⟩ = false := frozen_of_row W1 _ _ _ _ hA1
      replace HA := Lib.hid hA1; replace HP := Lib.hid hP1; replace HR := Lib.hid hR1
      clear hA1 hP1 hR1 ht hb hb1
      go_wp2_with fail
      go_roundw
      case rel =>
        refine ⟨k + 1, by omega, by go_num, ?_, ?_, ?_, ?_, hB1.setCell (by simp; omega) _⟩
        · exact (heap_setCell_other _ _ _ _ (by simp; omega)).trans HP.out
        · exact (heap_setCell_other _ _ _ _ (by simp)).trans HR.out
        · rw [← beg64_set _ _ hk8]; exact heap_setCell_same _ _ _ _ _ _ HA.out
        · exact fun t htt => (World.cell?_setCell_far _ _ _ _ (by simp)).trans (ht1 t htt)
      case measure => simp [intOf]; omega
    · have hd : decide ((k : Int) < 8) = false := by simp; omega
      obtain rfl : k = 8 := by omega
      rw [beg64_eight] at HA
      have HI := Lib.hid (show (Tryd.prog.info? 65).map (·.size) = some (rc64 [] [] (init64 H) ⟨#[]⟩ 0).size from HZ.out.2)
      have HO := Lib.hid (show (rc64 [] [] (ofFn fun _ => 0) ⟨#[]⟩ 0).size = (rc64 [] [] (init64 H) ⟨#[]⟩ 0).size from rfl)
      have H1 := Lib.hid (show (rc64 [] [] (init64 H) ⟨#[]⟩ 0).all (·.oneCell') = true from by simp [rc64, Value.oneCell'])
      go_wp2_with (first
        | (with_reducible refine wpList_load_row rfl 65 _ rfl (B + 1 + 1) rfl 65 _ (0, 0) _ HA.out Tryd.underlying65 rfl HI.out ?_)
        | (with_reducible refine wpList_store_row rfl 65 _ _ rfl (B + 1) (rc64 [] [] (init64 H) ⟨#[]⟩ 0) rfl rfl 65 _ HR.out HI.out HO.out H1.out ?_))
      exact bodyPost_ret (v := .agg (rc64 [] [] (init64 H) ⟨#[]⟩ 0)) (results_cell_row (by rfl) _ _ (B + 1) 65 _ (0, 0) _ rfl (setRow_heap _ _ _ _ _ _ HR.out) Tryd.underlying65 rfl HI.out) rfl ⟨rfl, by rw [HBB.out]; exact below_setRow hb (by omega) _⟩
end Go.Proofs.YthcfolefdalaiaaDoor
