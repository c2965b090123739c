/- sha.padding with the parameters of Sum512: the byte 128, noughts, and sixteen bytes of the length in bits. The data has at most 2^40 bytes. -/
import Derived.Test.YthcfolefdalaiaaDoorSched64
import Derived.Test.YthcfolefdalaiaaDoorPad256
import Derived.Test.YthcfolefdalaiaaDoorBytes
namespace Go.Proofs.YthcfolefdalaiaaDoor
open Go.RowKit Go.Sort
set_option maxRecDepth 100000
set_option linter.unusedSimpArgs false
set_option linter.unusedVariables false

set_option maxHeartbeats 1000000 in
theorem padding512_any (n : Nat) (w : World) (hn : n ≤ 1099511627776) :
    Calls Tryd.prog 52 #[prm512, .int .u64 (n : Int)] w fun e w' => e = .returned (.string ⟨(padL 128 16 n).toArray⟩) ∧ Below w.heap.size w w' := by
  have hP : PrmBt (w.alloc (.cells #[.int .i64 128, .int .i64 80, .int .u64 1, .int .u64 8, .int .u64 7, .int .u64 19, .int .u64 61, .int .u64 6, .int .u64 14, .int .u64 18, .int .u64 41, .int .u64 28, .int .u64 34, .int .u64 39] 52)) w.heap.size := blk_new w _
  have hB := below_new w (.cells #[.int .i64 128, .int .i64 80, .int .u64 1, .int .u64 8, .int .u64 7, .int .u64 19, .int .u64 61, .int .u64 6, .int .u64 14, .int .u64 18, .int .u64 41, .int .u64 28, .int .u64 34, .int .u64 39] 52)
  go_enter Tryd.func52, Tryd.ntmps52
  go_wp2_with fail
  generalize (w.alloc _) = W at *
  generalize hBB : w.heap.size = B at *
  have HBB := Lib.hid hBB
  have HP := Lib.hid hP
  clear hBB hP
  · obtain ⟨c0, c1, c2, c3, c4, c5, c6, c7, c8, c9, c10, c11, c12, c13⟩ := HP.out.cells
    have k0 := cell_regrown c0; have k1 := cell_regrown c1; have k2 := cell_regrown c2; have k3 := cell_regrown c3; have k4 := cell_regrown c4
    have k5 := cell_regrown c5; have k6 := cell_regrown c6; have k7 := cell_regrown c7; have k8 := cell_regrown c8; have k9 := cell_regrown c9
    have k10 := cell_regrown c10; have k11 := cell_regrown c11; have k12 := cell_regrown c12; have k13 := cell_regrown c13
    have hm0 : (0 : Int) ≤ (n : Int) % 128 := by omega
    have hm1 : (n : Int) % 128 < 128 := by omega
    refine wp_region_reads (by kernel_rfl) (by kernel_rfl) ?_
    repeat (first | go_big_quiet_step ((go_at_call 61; exact Calls.regrown_of (lengthBytes512 _))) | quiet_step ((go_at_call 61; exact Calls.regrown_of (lengthBytes512 _))))
    refine wpQuiet_nil ?_
    intro W1 hb1
    have hB1 : Below B w W1 := hB.trans (hb1.mono (Nat.le_of_lt (blk_lt HP.out)))
    replace HP := Lib.hid (HP.out.below hb1 (blk_lt HP.out))
    clear k0 k1 k2 k3 k4 k5 k6 k7 k8 k9 k10 k11 k12 k13 c0 c1 c2 c3 c4 c5 c6 c7 c8 c9 c10 c11 c12 c13 hb1 hB
    obtain ⟨c0, c1, c2, c3, c4, c5, c6, c7, c8, c9, c10, c11, c12, c13⟩ := HP.out.cells
    go_wp2_with fail
    obtain ⟨z, hz⟩ : ∃ z : Nat, ((256 : Int) - ((n : Int) % 128 + 1 + 16)) % 128 = (z : Int) := ⟨((256 - (n % 128 + 1 + 16)) % 128 : Nat), by omega⟩
    have HZ := Lib.hid (show (2 * 128 - (n % 128 + 1 + 16)) % 128 = z from by omega)
    have hz64 : z < 128 := by omega
    rw [hz]
    clear hz hm0 hm1
    refine (lengthBytes512 _).mono ?_
    rintro e W2 ⟨rfl, hb2⟩
    have hB2 : Below B w W2 := hB1.trans (hb2.mono (Nat.le_of_lt (blk_lt HP.out)))
    have hBl : B < W2.heap.size := Nat.lt_of_lt_of_le (blk_lt HP.out) hb2.size
    clear hb2 hB1 HP c0 c1 c2 c3 c4 c5 c6 c7 c8 c9 c10 c11 c12 c13
    obtain ⟨i0, hi, hz0, hz1, hz2⟩ := info_parts info_u8
    have hmk : ∀ W : World, (Instr.makeSlice 46 (.int .i64 (1 + (z : Int) + 16)) (.int .i64 (1 + (z : Int) + 16))).run Tryd.prog W = .ok (.slice (some ⟨W.heap.size, 0, none⟩) (z + 17) (z + 17)) (W.alloc (.cells (bcells (List.replicate (z + 17) 0)) 5)) := fun W => by
      have h := run_make (P := Tryd.prog) W 46 5 i0 (.int .u8 0) Tryd.underlying46 hi hz0 .i64 .i64 (1 + (z : Int) + 16) (1 + (z : Int) + 16) (by omega) (by omega) (by rw [hz2]; omega) (by omega)
      rw [hz1, made_zero, show (1 + (z : Int) + 16).toNat = z + 17 by omega, Nat.mul_one] at h
      simpa using h
    clear hi hz0 hz1 hz2
    have hc0 : ∀ W : World, (W.alloc (.cells (bcells (List.replicate (z + 17) 0)) 5)).cell? ⟨W.heap.size, 0, none⟩ = some (.int .u8 0) := fun W => by
      rw [cell_of_row _ _ _ _ _ _ (blk_new W _)]; exact bcells_get _ _ 0 (by simp)
    have hf0 : ∀ W : World, (W.alloc (.cells (bcells (List.replicate (z + 17) 0)) 5)).frozen? ⟨W.heap.size, 0, none⟩ = false := fun W => frozen_of_row _ _ _ _ _ (blk_new W _)
    have hG : (W2.alloc (.cells ((bcells (List.replicate (z + 17) 0)).setIfInBounds 0 (.int .u8 128)) 5)).heap[W2.heap.size]? = some (.cells (bcells (128 :: (List.replicate (z + 16) 0 ++ be 0 (n * 8)))) 5) := by
      rw [blk_new, show (Value.int .u8 128) = .int .u8 ((128 : UInt8).toNat) from rfl, bcells_set, List.replicate_succ]
      simp [be]
    have HG := Lib.hid hG
    have hB3 : Below B w (W2.alloc (.cells ((bcells (List.replicate (z + 17) 0)).setIfInBounds 0 (.int .u8 128)) 5)) := hB2.alloc (Nat.le_of_lt hBl) _
    clear hG
    go_wp2_with fail
    generalize (W2.alloc _) = W3 at *
    generalize W2.heap.size = G at *
    clear hmk hc0 hf0
    go_loopw [8, 9] (fun x i wr => ∃ j q : Nat, j + q = z + 16 ∧ j ≤ 8 ∧ x = .int .u64 ((n * 8 / 256 ^ j : Nat) : Int) ∧ i = .int .i64 (q : Int) ∧ wr.heap[G]? = some (.cells (bcells (128 :: (List.replicate q 0 ++ be j (n * 8)))) 5) ∧ Below B w wr) (fun _ i _ => (intOf i).toNat)
    case atStart => exact ⟨0, z + 16, by omega, by omega, by simp, by go_num, HG.out, hB3⟩
    case round =>
      obtain ⟨j, q, hjq, hj8, rfl, rfl, hg, hb⟩ := hrel
      clear HG hB3 hB2
      have hjq' := Lib.hid hjq
      have hq : q ≤ z + 16 := by omega
      by_cases hpos : 0 < n * 8 / 256 ^ j
      · have hj := pad_pow n j hn hpos
        obtain ⟨q, rfl⟩ : ∃ q', q = q' + 1 := ⟨q - 1, by omega⟩
        have hx : n * 8 / 256 ^ j ≤ n * 8 := Nat.div_le_self _ _
        have HD := Lib.hid (show n * 8 / 256 ^ (j + 1) = n * 8 / 256 ^ j / 256 from by rw [Nat.pow_succ, Nat.div_div_eq_div_mul])
        have HS : Hid (be (j + 1) (n * 8) = UInt8.ofNat (n * 8 / 256 ^ j) :: be j (n * 8)) := Lib.hid rfl
        have hlen : (128 :: (List.replicate (q + 1) 0 ++ be j (n * 8))).length = q + 1 + 1 + j := by simp [be_length]; omega
        have cq : ∃ y, wr.cell? ⟨G, q + 1, none⟩ = some (.int .u8 y) := by
          have hlt : q + 1 < (128 :: (List.replicate (q + 1) 0 ++ be j (n * 8))).length := by omega
          exact ⟨_, cells_of_bcells hg (q + 1) _ (List.getElem?_eq_getElem hlt)⟩
        obtain ⟨y, cq⟩ := cq
        have fq : wr.frozen? ⟨G, q + 1, none⟩ = false := frozen_of_row wr _ _ _ _ hg
        have HGr := Lib.hid hg
        clear hg hlen hjq
        generalize n * 8 / 256 ^ j = x at *
        have hdd : decide ((0 : Int) < (x : Int)) = true := by simp; omega
        have hqz : (q : Int) + 1 < (z : Int) + 17 := by omega
        go_wp2_with fail
        go_roundw
        case rel =>
          refine ⟨j + 1, q, by have := hjq'.out; omega, by omega, by rw [HD.out]; simp, by go_num, ?_, ?_⟩
          · rw [HS.out, ← pad_set, ← bcells_set]
            have e : (UInt8.ofNat x).toNat = x % 256 := by simp
            rw [e]
            refine Eq.trans (heap_setCell_same _ _ _ _ _ _ HGr.out) ?_
            simp
          · exact hb.setCell (Nat.le_of_lt hBl) _
        case measure => simp [intOf]
      · have hlead := be_lead (n * 8) j (Nat.eq_zero_of_not_pos hpos) (16 - j)
        have hlen : (128 :: (List.replicate q 0 ++ be j (n * 8))).length = z + 17 := by simp [be_length]; omega
        have hcv := run_string_row wr G (z + 17) _ (cells_of_bcells hg)
        rw [hlen] at hcv
        have HE : Hid (128 :: (List.replicate q 0 ++ be j (n * 8)) = padL 128 16 n) := Lib.hid (by
          rw [show j + (16 - j) = 16 by omega] at hlead
          rw [padL, HZ.out, hlead, ← List.append_assoc, List.replicate_append_replicate, show z + (16 - j) = q by omega])
        clear hg hlen hlead
        generalize n * 8 / 256 ^ j = x at *
        have hdd : decide ((0 : Int) < (x : Int)) = false := by simp; omega
        generalize 128 :: (List.replicate q 0 ++ be j (n * 8)) = L at *
        go_wp2_with fail
        go_ret
        exact ⟨by rw [← HE.out]; rfl, by rw [HBB.out]; exact hb⟩
end Go.Proofs.YthcfolefdalaiaaDoor
