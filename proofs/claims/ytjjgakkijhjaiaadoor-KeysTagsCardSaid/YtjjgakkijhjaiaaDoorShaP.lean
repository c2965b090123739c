/- sha.start at words of 32 bits: the initial words, no byte, no length. The table of the initial values lies in its variable; sha.padding with the parameters of Sum256: the byte 128, noughts, and eight bytes of the length in bits. The data has at most 2^40 bytes; (running).sum at words of 32 bits: the digest of what has been written; sha.digest at words of 32 bits, and Sum256: the digest of a text of at most 2^40 bytes; sha.start at words of 64 bits: the initial words, no byte, no length. The table of the initial values lies in its variable; sha.padding with the parameters of Sum512: the byte 128, noughts, and sixteen bytes of the length in bits. The data has at most 2^40 bytes; (running).sum at words of 64 bits: the digest of what has been written; sha.digest at words of 64 bits, and Sum512: the digest of a text of at most 2^40 bytes; The two tables of package sha, as the program's text has them, and the digests of the text abc. -/
import Derived.Test.YtjjgakkijhjaiaaDoorShaB
import Derived.Test.YtjjgakkijhjaiaaDoorShaA
import Derived.Test.YtjjgakkijhjaiaaDoorBase
namespace Go.Proofs.YtjjgakkijhjaiaaDoor
section
open Go.RowKit Go.Sort
set_option maxRecDepth 100000
set_option linter.unusedSimpArgs false
set_option linter.unusedVariables false

def TabH (w : World) (H : Nat → Int) : Prop := ∀ t, t < 8 → w.cell? ⟨0, t, none⟩ = some (.int .u64 (H t))
theorem TabH.lt {w : World} {H : Nat → Int} (h : TabH w H) : 0 < w.heap.size := block_lt_of_cell (h 0 (by omega))
theorem TabH.below {w w' : World} {H : Nat → Int} {B : Nat} (h : TabH w H) (hb : Below B w w') (hB : 0 < B) : TabH w' H := fun t ht => (hb.cell hB).trans (h t ht)

def ofFn (f : Nat → Int) : W8 := ⟨f 0, f 1, f 2, f 3, f 4, f 5, f 6, f 7⟩
/-- The initial words, of which k have been laid. -/
def beg32 (H : Nat → Int) (k : Nat) : W8 := ofFn fun j => if j < k then H j / 4294967296 % 4294967296 else 0
theorem beg32_set (H : Nat → Int) (k : Nat) (h : k < 8) (r : ByteArray) (l : Int) : (rc32 [] [] (beg32 H k) r l).setIfInBounds k (.int .u32 (H k / 4294967296 % 4294967296)) = rc32 [] [] (beg32 H (k + 1)) r l := by
  rcases lt8 h with rfl | rfl | rfl | rfl | rfl | rfl | rfl | rfl <;> rfl
def init32 (H : Nat → Int) : W8 := ofFn fun j => H j / 4294967296 % 4294967296
theorem beg32_eight (H : Nat → Int) : beg32 H 8 = init32 H := rfl
theorem info10_32 : (Tryd.prog.info? 77).map (fun i => (i.zero, i.size)) = some (some (.agg (rc32 [] [] (ofFn fun _ => 0) ⟨#[]⟩ 0)), 10) := by kernel_rfl

set_option maxHeartbeats 1000000 in
theorem start32_any (H : Nat → Int) (w : World) (hH : TabH w H) :
    Calls Tryd.prog 64 #[prm256] w fun e w' => e = .returned (.agg (rc32 [] [] (init32 H) ⟨#[]⟩ 0)) ∧ Below w.heap.size w w' := by
  have HZ := Lib.hid (zero_of_info info10_32)
  have hz := HZ.out.1
  go_enter Tryd.func64, Tryd.ntmps64
  go_wp2_with fail
  have hP : PrmAt (((w.alloc (.cells #[.int .i64 64, .int .i64 64, .int .u64 7, .int .u64 18, .int .u64 3, .int .u64 17, .int .u64 19, .int .u64 10, .int .u64 6, .int .u64 11, .int .u64 25, .int .u64 2, .int .u64 13, .int .u64 22] 49)).alloc (.cells (rc32 [] [] (ofFn fun _ => 0) ⟨#[]⟩ 0) 77)).alloc (.cells (rc32 [] [] (ofFn fun _ => 0) ⟨#[]⟩ 0) 77)) w.heap.size := blk_old (blk_old (blk_new w _))
  have hR := blk_old (o := (.cells (rc32 [] [] (ofFn fun _ => 0) ⟨#[]⟩ 0) 77)) (blk_new2 w (.cells #[.int .i64 64, .int .i64 64, .int .u64 7, .int .u64 18, .int .u64 3, .int .u64 17, .int .u64 19, .int .u64 10, .int .u64 6, .int .u64 11, .int .u64 25, .int .u64 2, .int .u64 13, .int .u64 22] 49) (.cells (rc32 [] [] (ofFn fun _ => 0) ⟨#[]⟩ 0) 77))
  have hA := blk_new3 w (.cells #[.int .i64 64, .int .i64 64, .int .u64 7, .int .u64 18, .int .u64 3, .int .u64 17, .int .u64 19, .int .u64 10, .int .u64 6, .int .u64 11, .int .u64 25, .int .u64 2, .int .u64 13, .int .u64 22] 49) (.cells (rc32 [] [] (ofFn fun _ => 0) ⟨#[]⟩ 0) 77) (.cells (rc32 [] [] (ofFn fun _ => 0) ⟨#[]⟩ 0) 77)
  have hB := below_new3 w (.cells #[.int .i64 64, .int .i64 64, .int .u64 7, .int .u64 18, .int .u64 3, .int .u64 17, .int .u64 19, .int .u64 10, .int .u64 6, .int .u64 11, .int .u64 25, .int .u64 2, .int .u64 13, .int .u64 22] 49) (.cells (rc32 [] [] (ofFn fun _ => 0) ⟨#[]⟩ 0) 77) (.cells (rc32 [] [] (ofFn fun _ => 0) ⟨#[]⟩ 0) 77)
  have hT := hH.below hB hH.lt
  have hlow := hH.lt
  generalize (((w.alloc _).alloc _).alloc _) = W at *
  generalize hBB : w.heap.size = B at *
  have HBB := Lib.hid hBB
  have HP := Lib.hid hP; have HR := Lib.hid hR; have HA := Lib.hid hA
  clear hBB hP hR hA hH hz
  go_loopw [5] (fun i wr => ∃ k : Nat, k ≤ 8 ∧ i = .int .i64 k ∧ PrmAt wr B ∧ wr.heap[B + 1]? = some (.cells (rc32 [] [] (ofFn fun _ => 0) ⟨#[]⟩ 0) 77) ∧ wr.heap[B + 1 + 1]? = some (.cells (rc32 [] [] (beg32 H k) ⟨#[]⟩ 0) 77) ∧ TabH wr H ∧ Below B w wr) (fun i _ => 8 - (intOf i).toNat)
  case atStart => exact ⟨0, by omega, rfl, HP.out, HR.out, HA.out, hT, hB⟩
  case round =>
    clear HP HR HA hT hB
    obtain ⟨k, hk, rfl, hp, hr, ha, ht, hb⟩ := hrel
    have HP := Lib.hid hp; have HR := Lib.hid hr; have HA := Lib.hid ha
    clear hp hr ha
    by_cases hk8 : k < 8
    · have hd : decide ((k : Int) < 8) = true := by simp; omega
      go_wp2_with fail
      obtain ⟨c0, c1, c2, c3, c4, c5, c6, c7, c8, c9, c10, c11, c12, c13⟩ := HP.out.cells
      have k0 := cell_regrown c0; have k1 := cell_regrown c1; have k2 := cell_regrown c2; have k3 := cell_regrown c3; have k4 := cell_regrown c4
      have k5 := cell_regrown c5; have k6 := cell_regrown c6; have k7 := cell_regrown c7; have k8 := cell_regrown c8; have k9 := cell_regrown c9
      have k10 := cell_regrown c10; have k11 := cell_regrown c11; have k12 := cell_regrown c12; have k13 := cell_regrown c13
      have kh := cell_regrown (ht k hk8)
      refine wp_region_reads_tail 10 (by kernel_rfl) (by kernel_rfl) ?_
      simp only [List.take_succ_cons, List.take_zero, List.drop_succ_cons, List.drop_zero]
      repeat (first | go_big_quiet_step ((go_at_call 76; exact Calls.regrown_of (unused256 _))) | quiet_step ((go_at_call 76; exact Calls.regrown_of (unused256 _))))
      refine wpQuiet_nil ?_
      intro W1 hb1
      clear k0 k1 k2 k3 k4 k5 k6 k7 k8 k9 k10 k11 k12 k13 c0 c1 c2 c3 c4 c5 c6 c7 c8 c9 c10 c11 c12 c13 kh
      have hA1 := blk_below hb1 (blk_lt HA.out) HA.out
      have hR1 := blk_below hb1 (blk_lt HR.out) HR.out
      have hP1 := HP.out.below hb1 (blk_lt HP.out)
      have ht1 := ht.below hb1 ht.lt
      have hB1 : Below B w W1 := hb.trans (hb1.mono (Nat.le_of_lt (blk_lt HP.out)))
      have ck : ∃ y, W1.cell? ⟨B + 1 + 1, k, none⟩ = some (.int .u32 y) := by
        have := rc32_state [] [] (beg32 H k) ⟨#[]⟩ 0 k hk8
        exact ⟨_, by rw [cell_of_row W1 _ _ _ _ _ hA1]; simpa using this⟩
      obtain ⟨y, ck⟩ := ck
      have fk : W1.frozen? ⟨B + 1 + 1, k, none⟩ = false := frozen_of_row W1 _ _ _ _ hA1
      replace HA := Lib.hid hA1; replace HP := Lib.hid hP1; replace HR := Lib.hid hR1
      clear hA1 hP1 hR1 ht hb hb1
      go_wp2_with fail
      go_roundw
      case rel =>
        refine ⟨k + 1, by omega, by go_num, ?_, ?_, ?_, ?_, hB1.setCell (by simp; omega) _⟩
        · exact (heap_setCell_other _ _ _ _ (by simp; omega)).trans HP.out
        · exact (heap_setCell_other _ _ _ _ (by simp)).trans HR.out
        · rw [← beg32_set _ _ hk8]; exact heap_setCell_same _ _ _ _ _ _ HA.out
        · exact fun t htt => (World.cell?_setCell_far _ _ _ _ (by first | (simp; done) | (simp; omega))).trans (ht1 t htt)
      case measure => simp [intOf]; omega
    · have hd : decide ((k : Int) < 8) = false := by simp; omega
      obtain rfl : k = 8 := by omega
      rw [beg32_eight] at HA
      have HI := Lib.hid (show (Tryd.prog.info? 77).map (·.size) = some (rc32 [] [] (init32 H) ⟨#[]⟩ 0).size from HZ.out.2)
      have HO := Lib.hid (show (rc32 [] [] (ofFn fun _ => 0) ⟨#[]⟩ 0).size = (rc32 [] [] (init32 H) ⟨#[]⟩ 0).size from rfl)
      have H1 := Lib.hid (show (rc32 [] [] (init32 H) ⟨#[]⟩ 0).all (·.oneCell') = true from by simp [rc32, Value.oneCell'])
      go_wp2_with (first
        | (with_reducible refine wpList_load_row rfl 77 _ rfl (B + 1 + 1) rfl 77 _ (0, 0) _ HA.out Tryd.underlying77 rfl HI.out ?_)
        | (with_reducible refine wpList_store_row rfl 77 _ _ rfl (B + 1) (rc32 [] [] (init32 H) ⟨#[]⟩ 0) rfl rfl 77 _ HR.out HI.out HO.out H1.out ?_))
      exact bodyPost_ret (v := .agg (rc32 [] [] (init32 H) ⟨#[]⟩ 0)) (results_cell_row (by rfl) _ _ (B + 1) 77 _ (0, 0) _ rfl (setRow_heap _ _ _ _ _ _ HR.out) Tryd.underlying77 rfl HI.out) rfl ⟨rfl, by rw [HBB.out]; exact below_setRow hb (by omega) _⟩
end

section
open Go.RowKit Go.Sort
set_option maxRecDepth 100000
set_option linter.unusedSimpArgs false
set_option linter.unusedVariables false

/-- What stands behind n bytes of data. -/
def padL (blk lb n : Nat) : List UInt8 := 128 :: (List.replicate ((2 * blk - (n % blk + 1 + lb)) % blk) 0 ++ be lb (n * 8))

theorem pad_set (q : Nat) (l : List UInt8) (v : UInt8) : (128 :: (List.replicate (q + 1) 0 ++ l)).set (q + 1) v = 128 :: (List.replicate q 0 ++ v :: l) := by
  rw [List.set_cons_succ, List.replicate_succ', List.append_assoc, List.set_append, if_neg (by simp)]
  simp
theorem pad_pow (n j : Nat) (hn : n ≤ 1099511627776) (h : 0 < n * 8 / 256 ^ j) : j < 8 := by
  rcases Nat.lt_or_ge j 8 with h' | h'
  · exact h'
  · have h1 : 256 ^ 8 ≤ 256 ^ j := Nat.pow_le_pow_right (by omega) h'
    have h2 : n * 8 / 256 ^ j = 0 := Nat.div_eq_of_lt (Nat.lt_of_lt_of_le (by omega : n * 8 < 256 ^ 8) h1)
    omega

set_option maxHeartbeats 1000000 in
theorem padding256_any (n : Nat) (w : World) (hn : n ≤ 1099511627776) :
    Calls Tryd.prog 79 #[prm256, .int .u64 (n : Int)] w fun e w' => e = .returned (.string ⟨(padL 64 8 n).toArray⟩) ∧ Below w.heap.size w w' := by
  have hP : PrmAt (w.alloc (.cells #[.int .i64 64, .int .i64 64, .int .u64 7, .int .u64 18, .int .u64 3, .int .u64 17, .int .u64 19, .int .u64 10, .int .u64 6, .int .u64 11, .int .u64 25, .int .u64 2, .int .u64 13, .int .u64 22] 49)) w.heap.size := blk_new w _
  have hB := below_new w (.cells #[.int .i64 64, .int .i64 64, .int .u64 7, .int .u64 18, .int .u64 3, .int .u64 17, .int .u64 19, .int .u64 10, .int .u64 6, .int .u64 11, .int .u64 25, .int .u64 2, .int .u64 13, .int .u64 22] 49)
  go_enter Tryd.func79, Tryd.ntmps79
  go_wp2_with fail
  generalize (w.alloc _) = W at *
  generalize hBB : w.heap.size = B at *
  have HBB := Lib.hid hBB
  have HP := Lib.hid hP
  clear hBB hP
  · obtain ⟨c0, c1, c2, c3, c4, c5, c6, c7, c8, c9, c10, c11, c12, c13⟩ := HP.out.cells
    have k0 := cell_regrown c0; have k1 := cell_regrown c1; have k2 := cell_regrown c2; have k3 := cell_regrown c3; have k4 := cell_regrown c4
    have k5 := cell_regrown c5; have k6 := cell_regrown c6; have k7 := cell_regrown c7; have k8 := cell_regrown c8; have k9 := cell_regrown c9
    have k10 := cell_regrown c10; have k11 := cell_regrown c11; have k12 := cell_regrown c12; have k13 := cell_regrown c13
    have hm0 : (0 : Int) ≤ (n : Int) % 64 := by omega
    have hm1 : (n : Int) % 64 < 64 := by omega
    refine wp_region_reads (by kernel_rfl) (by kernel_rfl) ?_
    repeat (first | go_big_quiet_step ((go_at_call 88; exact Calls.regrown_of (lengthBytes256 _))) | quiet_step ((go_at_call 88; exact Calls.regrown_of (lengthBytes256 _))))
    refine wpQuiet_nil ?_
    intro W1 hb1
    have hB1 : Below B w W1 := hB.trans (hb1.mono (Nat.le_of_lt (blk_lt HP.out)))
    replace HP := Lib.hid (HP.out.below hb1 (blk_lt HP.out))
    clear k0 k1 k2 k3 k4 k5 k6 k7 k8 k9 k10 k11 k12 k13 c0 c1 c2 c3 c4 c5 c6 c7 c8 c9 c10 c11 c12 c13 hb1 hB
    obtain ⟨c0, c1, c2, c3, c4, c5, c6, c7, c8, c9, c10, c11, c12, c13⟩ := HP.out.cells
    go_wp2_with fail
    obtain ⟨z, hz⟩ : ∃ z : Nat, ((128 : Int) - ((n : Int) % 64 + 1 + 8)) % 64 = (z : Int) := ⟨((128 - (n % 64 + 1 + 8)) % 64 : Nat), by omega⟩
    have HZ := Lib.hid (show (2 * 64 - (n % 64 + 1 + 8)) % 64 = z from by omega)
    have hz64 : z < 64 := by omega
    rw [hz]
    clear hz hm0 hm1
    refine (lengthBytes256 _).mono ?_
    rintro e W2 ⟨rfl, hb2⟩
    have hB2 : Below B w W2 := hB1.trans (hb2.mono (Nat.le_of_lt (blk_lt HP.out)))
    have hBl : B < W2.heap.size := Nat.lt_of_lt_of_le (blk_lt HP.out) hb2.size
    clear hb2 hB1 HP c0 c1 c2 c3 c4 c5 c6 c7 c8 c9 c10 c11 c12 c13
    obtain ⟨i0, hi, hz0, hz1, hz2⟩ := info_parts info_u8
    have hmk : ∀ W : World, (Instr.makeSlice 38 (.int .i64 (1 + (z : Int) + 8)) (.int .i64 (1 + (z : Int) + 8))).run Tryd.prog W = .ok (.slice (some ⟨W.heap.size, 0, none⟩) (z + 9) (z + 9)) (W.alloc (.cells (bcells (List.replicate (z + 9) 0)) 5)) := fun W => by
      have h := run_make (P := Tryd.prog) W 38 5 i0 (.int .u8 0) Tryd.underlying38 hi hz0 .i64 .i64 (1 + (z : Int) + 8) (1 + (z : Int) + 8) (by omega) (by omega) (by rw [hz2]; omega) (by omega)
      rw [hz1, made_zero, show (1 + (z : Int) + 8).toNat = z + 9 by omega, Nat.mul_one] at h
      simpa using h
    clear hi hz0 hz1 hz2
    have hc0 : ∀ W : World, (W.alloc (.cells (bcells (List.replicate (z + 9) 0)) 5)).cell? ⟨W.heap.size, 0, none⟩ = some (.int .u8 0) := fun W => by
      rw [cell_of_row _ _ _ _ _ _ (blk_new W _)]; exact bcells_get _ _ 0 (by simp)
    have hf0 : ∀ W : World, (W.alloc (.cells (bcells (List.replicate (z + 9) 0)) 5)).frozen? ⟨W.heap.size, 0, none⟩ = false := fun W => frozen_of_row _ _ _ _ _ (blk_new W _)
    have hG : (W2.alloc (.cells ((bcells (List.replicate (z + 9) 0)).setIfInBounds 0 (.int .u8 128)) 5)).heap[W2.heap.size]? = some (.cells (bcells (128 :: (List.replicate (z + 8) 0 ++ be 0 (n * 8)))) 5) := by
      rw [blk_new, show (Value.int .u8 128) = .int .u8 ((128 : UInt8).toNat) from rfl, bcells_set, List.replicate_succ]
      simp [be]
    have HG := Lib.hid hG
    have hB3 : Below B w (W2.alloc (.cells ((bcells (List.replicate (z + 9) 0)).setIfInBounds 0 (.int .u8 128)) 5)) := hB2.alloc (Nat.le_of_lt hBl) _
    clear hG
    go_wp2_with fail
    generalize (W2.alloc _) = W3 at *
    generalize W2.heap.size = G at *
    clear hmk hc0 hf0
    go_loopw [8, 9] (fun x i wr => ∃ j q : Nat, j + q = z + 8 ∧ j ≤ 8 ∧ x = .int .u64 ((n * 8 / 256 ^ j : Nat) : Int) ∧ i = .int .i64 (q : Int) ∧ wr.heap[G]? = some (.cells (bcells (128 :: (List.replicate q 0 ++ be j (n * 8)))) 5) ∧ Below B w wr) (fun _ i _ => (intOf i).toNat)
    case atStart => exact ⟨0, z + 8, by omega, by omega, by simp, by go_num, HG.out, hB3⟩
    case round =>
      obtain ⟨j, q, hjq, hj8, rfl, rfl, hg, hb⟩ := hrel
      clear HG hB3 hB2
      have hjq' := Lib.hid hjq
      have hq : q ≤ z + 8 := by omega
      by_cases hpos : 0 < n * 8 / 256 ^ j
      · have hj := pad_pow n j hn hpos
        obtain ⟨q, rfl⟩ : ∃ q', q = q' + 1 := ⟨q - 1, by omega⟩
        have hx : n * 8 / 256 ^ j ≤ n * 8 := Nat.div_le_self _ _
        have HD := Lib.hid (show n * 8 / 256 ^ (j + 1) = n * 8 / 256 ^ j / 256 from by rw [Nat.pow_succ, Nat.div_div_eq_div_mul])
        have HS : Hid (be (j + 1) (n * 8) = UInt8.ofNat (n * 8 / 256 ^ j) :: be j (n * 8)) := Lib.hid rfl
        have hlen : (128 :: (List.replicate (q + 1) 0 ++ be j (n * 8))).length = q + 1 + 1 + j := by simp [be_length]; omega
        have cq : ∃ y, wr.cell? ⟨G, q + 1, none⟩ = some (.int .u8 y) := by
          have hlt : q + 1 < (128 :: (List.replicate (q + 1) 0 ++ be j (n * 8))).length := by omega
          exact ⟨_, cells_of_bcells hg (q + 1) _ (List.getElem?_eq_getElem hlt)⟩
        obtain ⟨y, cq⟩ := cq
        have fq : wr.frozen? ⟨G, q + 1, none⟩ = false := frozen_of_row wr _ _ _ _ hg
        have HGr := Lib.hid hg
        clear hg hlen hjq
        generalize n * 8 / 256 ^ j = x at *
        have hdd : decide ((0 : Int) < (x : Int)) = true := by simp; omega
        have hqz : (q : Int) + 1 < (z : Int) + 9 := by omega
        go_wp2_with fail
        go_roundw
        case rel =>
          refine ⟨j + 1, q, by have := hjq'.out; omega, by omega, by rw [HD.out]; simp, by go_num, ?_, ?_⟩
          · rw [HS.out, ← pad_set, ← bcells_set]
            have e : (UInt8.ofNat x).toNat = x % 256 := by simp
            rw [e]
            refine Eq.trans (heap_setCell_same _ _ _ _ _ _ HGr.out) ?_
            simp
          · exact hb.setCell (Nat.le_of_lt hBl) _
        case measure => simp [intOf]
      · have hlead := be_lead (n * 8) j (Nat.eq_zero_of_not_pos hpos) (8 - j)
        have hlen : (128 :: (List.replicate q 0 ++ be j (n * 8))).length = z + 9 := by simp [be_length]; omega
        have hcv := run_string_row wr G (z + 9) _ (cells_of_bcells hg)
        rw [hlen] at hcv
        have HE : Hid (128 :: (List.replicate q 0 ++ be j (n * 8)) = padL 64 8 n) := Lib.hid (by
          rw [show j + (8 - j) = 8 by omega] at hlead
          rw [padL, HZ.out, hlead, ← List.append_assoc, List.replicate_append_replicate, show z + (8 - j) = q by omega])
        clear hg hlen hlead
        generalize n * 8 / 256 ^ j = x at *
        have hdd : decide ((0 : Int) < (x : Int)) = false := by simp; omega
        generalize 128 :: (List.replicate q 0 ++ be j (n * 8)) = L at *
        go_wp2_with fail
        go_ret
        exact ⟨by rw [← HE.out]; rfl, by rw [HBB.out]; exact hb⟩
end

section
open Go.RowKit Go.Sort
set_option maxRecDepth 100000
set_option linter.unusedSimpArgs false
set_option linter.unusedVariables false

def dig32 (s : W8) : List UInt8 := (List.range 32).map fun i => wbyte (s.at (i / 4)) (24 - 8 * (i % 4))
theorem dig32_length (s : W8) : (dig32 s).length = 32 := by simp [dig32]
theorem dig32_snoc (s : W8) (k m : Nat) (hk : k < 8) (hm : m < 4) : (dig32 s).take (4 * k + m + 1) = (dig32 s).take (4 * k + m) ++ [wbyte (s.at k) (24 - 8 * m)] := by
  rw [List.take_succ_eq_append_getElem (by rw [dig32_length]; omega)]
  have h1 : (4 * k + m) / 4 = k := by omega
  have h2 : (4 * k + m) % 4 = m := by omega
  simp [dig32, h1, h2]

theorem owns_below {w w' : World} {base : Nat} {e : TypeId} {size : Nat} {v : Value} {n : Nat} {xs : List Value} (h : w.ownsRow base e size v n xs) (hb : Below w.heap.size w w') : w'.ownsRow base e size v n xs := by
  obtain ⟨hl, h | ⟨g, cap, cur, hv, hbase, hg, h1, h2, h3, h4⟩⟩ := h
  · exact ⟨hl, .inl h⟩
  · exact ⟨hl, .inr ⟨g, cap, cur, hv, hbase, blk_below hb (blk_lt hg) hg, h1, h2, h3, h4⟩⟩

/-- The cells of a new row of 32 bytes. -/
def zeros32 : Array Value := bcells (List.replicate 32 0)

set_option maxHeartbeats 1000000 in
set_option maxRecDepth 100000 in
theorem sum32_any (K : Nat → Int) (st : W8) (rest : ByteArray) (n : Nat) (w : World) (hK : TabK w K) (hr : rest.size < 64) (hn : n ≤ 1099511627776) :
    Calls Tryd.prog 66 #[.agg (rc32 [] [] st rest n), prm256] w fun e w' => e = .returned (.string ⟨(dig32 (full32 (fun t => K t / 4294967296) st (rest.data.toList ++ padL 64 8 n))).toArray⟩) ∧ Below w.heap.size w w' := by
  go_enter Tryd.func66, Tryd.ntmps66
  go_wp2_with fail
  have hP : PrmAt ((w.alloc (.cells (rc32 [] [] st rest n) 77)).alloc (.cells #[.int .i64 64, .int .i64 64, .int .u64 7, .int .u64 18, .int .u64 3, .int .u64 17, .int .u64 19, .int .u64 10, .int .u64 6, .int .u64 11, .int .u64 25, .int .u64 2, .int .u64 13, .int .u64 22] 49)) (w.heap.size + 1) := blk_new2 w _ _
  have hR := blk_old (o := (.cells #[.int .i64 64, .int .i64 64, .int .u64 7, .int .u64 18, .int .u64 3, .int .u64 17, .int .u64 19, .int .u64 10, .int .u64 6, .int .u64 11, .int .u64 25, .int .u64 2, .int .u64 13, .int .u64 22] 49)) (blk_new w (.cells (rc32 [] [] st rest n) 77))
  have hB := below_new2 w (.cells (rc32 [] [] st rest n) 77) (.cells #[.int .i64 64, .int .i64 64, .int .u64 7, .int .u64 18, .int .u64 3, .int .u64 17, .int .u64 19, .int .u64 10, .int .u64 6, .int .u64 11, .int .u64 25, .int .u64 2, .int .u64 13, .int .u64 22] 49)
  have hT := hK.below hB hK.lt
  have hlow := hK.lt
  generalize ((w.alloc _).alloc _) = W at *
  generalize hBB : w.heap.size = B at *
  have HBB := Lib.hid hBB
  have HP := Lib.hid hP; have HR := Lib.hid hR
  have cl : W.cell? ⟨B, 9, none⟩ = some (.int .u64 (n : Int)) := by
    rw [cell_of_row W _ _ _ _ _ hR]; exact rc32_len [] [] st rest n
  clear hBB hP hR hK
  obtain ⟨c0, c1, c2, c3, c4, c5, c6, c7, c8, c9, c10, c11, c12, c13⟩ := HP.out.cells
  have k0 := cell_regrown c0; have k1 := cell_regrown c1; have k2 := cell_regrown c2; have k3 := cell_regrown c3; have k4 := cell_regrown c4
  have k5 := cell_regrown c5; have k6 := cell_regrown c6; have k7 := cell_regrown c7; have k8 := cell_regrown c8; have k9 := cell_regrown c9
  have k10 := cell_regrown c10; have k11 := cell_regrown c11; have k12 := cell_regrown c12; have k13 := cell_regrown c13
  have kl := cell_regrown cl
  refine wp_region_reads_tail 5 (by kernel_rfl) (by kernel_rfl) ?_
  simp only [List.take_succ_cons, List.take_zero, List.drop_succ_cons, List.drop_zero]
  repeat (quiet_step ((go_at_call 79; exact Calls.regrown_of (padding256_any n _ hn))))
  refine wpQuiet_nil ?_
  intro W1 hb1
  clear k0 k1 k2 k3 k4 k5 k6 k7 k8 k9 k10 k11 k12 k13 c0 c1 c2 c3 c4 c5 c6 c7 c8 c9 c10 c11 c12 c13 kl cl
  have hpl : (⟨(padL 64 8 n).toArray⟩ : ByteArray).size ≤ 1099511627776 := by
    have : ((2 * 64 - (n % 64 + 1 + 8)) % 64) < 64 := Nat.mod_lt _ (by omega)
    show (padL 64 8 n).toArray.size ≤ _
    simp [padL, be_length]; omega
  go_wp2_with fail
  refine (write32_any K B 77 [] [] st rest ⟨(padL 64 8 n).toArray⟩ n W1 (blk_below hb1 (blk_lt HR.out) HR.out) (hT.below hb1 hT.lt) (by omega) hr hpl (by omega) (by omega)).mono ?_
  rintro e W2 ⟨rfl, rest2, hrest2, hrun2, hbut⟩
  have hP2 : PrmAt W2 (B + 1) := (hbut.block _ (Nat.lt_of_lt_of_le (blk_lt HP.out) hb1.size) (by omega)).trans (HP.out.below hb1 (blk_lt HP.out))
  have hB2 : Below B w W2 := (hB.trans (hb1.mono (Nat.le_of_lt (blk_lt HR.out)))).trans (hbut.below (Nat.le_refl _) (Nat.le_trans (Nat.le_of_lt (blk_lt HR.out)) hb1.size))
  replace HP := Lib.hid hP2
  clear HR hT hb1 hrest2 hbut hP2 hB hpl
  generalize hOut : full32 (fun t => K t / 4294967296) st (rest.data.toList ++ padL 64 8 n) = out at *
  have HOut := Lib.hid hOut
  clear hOut
  generalize (n : Int) + ((⟨(padL 64 8 n).toArray⟩ : ByteArray).size : Int) = ln at *
  have HW := Lib.hid hrun2
  clear hrun2
  obtain ⟨c0, c1, c2, c3, c4, c5, c6, c7, c8, c9, c10, c11, c12, c13⟩ := HP.out.cells
  go_wp2_with fail
  refine (wordBytes256 _).mono ?_
  rintro e W3 ⟨rfl, hb3⟩
  clear c0 c1 c2 c3 c4 c5 c6 c7 c8 c9 c10 c11 c12 c13
  have hW3 := blk_below hb3 (blk_lt HW.out) HW.out
  have hP3 := HP.out.below hb3 (blk_lt HP.out)
  have hB3 : Below B w W3 := hB2.trans (hb3.mono (Nat.le_of_lt (blk_lt HW.out)))
  have hlt3 := blk_lt hP3
  obtain ⟨i0, hi, hz0, hz1, hz2⟩ := info_parts info_u8
  have hmk : ∀ W : World, (Instr.makeSlice 38 (.int .i64 0) (.int .i64 32)).run Tryd.prog W = .ok (.slice (some ⟨W.heap.size, 0, none⟩) 0 32) (W.alloc (.cells zeros32 5)) := fun W => by
    have h := run_make (P := Tryd.prog) W 38 5 i0 (.int .u8 0) Tryd.underlying38 hi hz0 .i64 .i64 0 32 (by omega) (by omega) (by rw [hz2]; omega) (by omega)
    rw [hz1, made_zero] at h
    exact h
  have hW4 : (W3.alloc (.cells zeros32 5)).heap[B]? = _ := blk_old hW3
  have m : ∀ j, j < 8 → (W3.alloc (.cells zeros32 5)).cell? ⟨B, j, none⟩ = some (.int .u32 (out.at j)) := fun j hj => by
    rw [cell_of_row _ _ _ _ _ _ hW4]; simpa using rc32_state [] [] out rest2 ln j hj
  have m0 := m 0 (by omega); have m1 := m 1 (by omega); have m2 := m 2 (by omega); have m3 := m 3 (by omega); have m4 := m 4 (by omega); have m5 := m 5 (by omega); have m6 := m 6 (by omega); have m7 := m 7 (by omega)
  simp only [W8.at] at m0 m1 m2 m3 m4 m5 m6 m7
  have hP4 : PrmAt (W3.alloc (.cells zeros32 5)) (B + 1) := blk_old hP3
  have hB4 : Below B w (W3.alloc (.cells zeros32 5)) := hB3.alloc (by omega) _
  have hO4 : (W3.alloc (.cells zeros32 5)).ownsRow B 5 1 (.slice (some ⟨W3.heap.size, 0, none⟩) 0 32) 0 (Lib.byteCells ((dig32 out).take 0)) :=
    ⟨rfl, .inr ⟨W3.heap.size, 32, _, rfl, by omega, blk_new W3 _, by omega, by unfold maxLen; omega, by rw [zeros32, bcells_size]; simp, rfl⟩⟩
  have HO4 := Lib.hid hO4; have HP4 := Lib.hid hP4
  clear hW3 hP3 hB3 hW4 m HP HW hB2 hb3 hO4 hP4
  go_wp2_with fail
  clear m0 m1 m2 m3 m4 m5 m6 m7 hmk
  have hBG : B + 1 < W3.heap.size := hlt3
  generalize (W3.alloc _) = W4 at *
  generalize W3.heap.size = G at *
  go_loopw [5, 21] (fun o i wr => ∃ k : Nat, k ≤ 8 ∧ i = .int .i64 k ∧ o = .slice (some ⟨G, 0, none⟩) (4 * k) 32 ∧ wr.ownsRow B 5 1 (.slice (some ⟨G, 0, none⟩) (4 * k) 32) (4 * k) (Lib.byteCells ((dig32 out).take (4 * k))) ∧ PrmAt wr (B + 1) ∧ Below B w wr) (fun _ i _ => 8 - (intOf i).toNat)
  case atStart => exact ⟨0, by omega, rfl, rfl, HO4.out, HP4.out, hB4⟩
  case round =>
    clear HO4 HP4 hB4
    obtain ⟨k, hk, rfl, rfl, hown, hp, hb⟩ := hrel
    have HP := Lib.hid hp
    have HOwn := Lib.hid hown
    clear hp hown
    by_cases hk8 : k < 8
    · have hd : decide ((k : Int) < 8) = true := by simp; omega
      have hix : ∀ w, (Instr.index 75 (.agg #[.int .u32 out.a, .int .u32 out.b, .int .u32 out.c, .int .u32 out.d, .int .u32 out.e, .int .u32 out.f, .int .u32 out.g, .int .u32 out.h]) (.int .i64 (k : Int))).run Tryd.prog w = .ok (.int .u32 (out.at k)) w := fun w => index8_32 out w k hk8
      obtain ⟨c0, c1, c2, c3, c4, c5, c6, c7, c8, c9, c10, c11, c12, c13⟩ := HP.out.cells
      go_wp2_with fail
      refine (wordBits256 _).mono ?_
      rintro e W5 ⟨rfl, hb5⟩
      clear c0 c1 c2 c3 c4 c5 c6 c7 c8 c9 c10 c11 c12 c13
      go_wp2_with fail
      have hown5 := owns_below HOwn.out hb5
      have hp5 := HP.out.below hb5 (blk_lt HP.out)
      have hb6 : Below B w W5 := hb.trans (hb5.mono (by have := blk_lt HP.out; omega))
      clear HOwn HP hb hb5
      go_loopw [5, 8] (fun o sh wr => ∃ m s : Nat, m ≤ 4 ∧ s + 8 * m = 32 ∧ sh = .int .u64 (s : Int) ∧ o = .slice (some ⟨G, 0, none⟩) (4 * k + m) 32 ∧ wr.ownsRow B 5 1 (.slice (some ⟨G, 0, none⟩) (4 * k + m) 32) (4 * k + m) (Lib.byteCells ((dig32 out).take (4 * k + m))) ∧ PrmAt wr (B + 1) ∧ Below B w wr) (fun _ sh _ => (intOf sh).toNat)
      case atStart => exact ⟨0, 32, by omega, by omega, rfl, rfl, hown5, hp5, hb6⟩
      case round =>
        clear hown5 hp5 hb6 hix hd
        obtain ⟨m, s, hm, hs, rfl, rfl, hown, hp, hb⟩ := hrel
        have HP := Lib.hid hp
        clear hp
        by_cases hm4 : m < 4
        · have hd : decide ((0 : Int) < (s : Int)) = true := by simp; omega
          have hs8 : (8 : Int) ≤ (s : Int) := by omega
          have hs32 : (s : Int) ≤ 32 := by omega
          have hcap : 4 * k + m + 1 ≤ 32 := by omega
          have HSn := Lib.hid (dig32_snoc out k m hk8 hm4)
          have HS8 := Lib.hid (show s - 8 = 24 - 8 * m from by omega)
          have HW := Lib.hid (wbyte_toNat (out.at k) (s - 8))
          have HOwn := Lib.hid hown
          have HSM := Lib.hid hs
          clear hown hs
          generalize out.at k = v at *
          go_wp2_with (at_builtin; refine wpList_append_fits _ rfl (.tmp 30) (.tmp 35) 38 rfl B 5 i0 1 Tryd.underlying38 hi hz1 G (4 * k + m) 32 _ rfl (HOwn.out.alloc _) ⟨wr.heap.size, 0, none⟩ 1 1 [.int .u8 (v / 2 ^ (s - 8) % 256)] rfl rfl ?c1 ?c2 ?c3 ?_)
          case c1 =>
            intro j u hj
            match j, hj with
            | 0, hj => simp at hj; subst hj; simp [Addr.add]
          case c2 => intro u hu; simp at hu; subst hu; rfl
          case c3 => exact hcap
          · intro W6 hown6 hgrow
            have hown7 : W6.ownsRow B 5 1 (.slice (some ⟨G, 0, none⟩) (4 * k + (m + 1)) 32) (4 * k + (m + 1)) (Lib.byteCells ((dig32 out).take (4 * k + (m + 1)))) := by
              rw [← Nat.add_assoc, HSn.out, Lib.byteCells_append, ← HS8.out]
              have e : Lib.byteCells [wbyte v (s - 8)] = [.int .u8 (v / 2 ^ (s - 8) % 256)] := by simp [Lib.byteCells, HW.out]
              rw [e]
              exact hown6
            have hpl := blk_lt HP.out
            have hp7 : PrmAt W6 (B + 1) := (hgrow.block _ (by simp; omega) (by simp; omega)).trans (blk_old HP.out)
            have hb7 : Below B w W6 := (hb.alloc (by omega) _).grown hgrow (by simp; omega) (by intro k hk; simp at hk; omega)
            clear hown6 hgrow HOwn HP hb
            go_wp2_with fail
            go_roundw
            case rel => exact ⟨m + 1, s - 8, by omega, by have := HSM.out; omega, by go_num, rfl, hown7, hp7, hb7⟩
            case measure => simp [intOf]; omega
        · have hd : decide ((0 : Int) < (s : Int)) = false := by simp; omega
          obtain rfl : m = 4 := by omega
          go_wp2_with fail
          go_roundw
          case rel => exact ⟨k + 1, by omega, by go_num, by rw [Nat.mul_succ], hown, HP.out, hb⟩
          case measure => simp [intOf]; omega
    · have hd : decide ((k : Int) < 8) = false := by simp; omega
      obtain rfl : k = 8 := by omega
      have hcv := run_string_row wr G 32 (dig32 out) (fun j x hx => by
        have hj : j < 32 := by
          have := (List.getElem?_eq_some_iff.1 hx).1
          rwa [dig32_length] at this
        rw [HOwn.out.cellAt j (by omega), List.take_of_length_le (by rw [dig32_length]; omega)]
        simp [Lib.byteCells, hx])
      rw [dig32_length] at hcv
      go_wp2_with fail
      go_ret
      exact ⟨by rw [HOut.out]; rfl, by rw [HBB.out]; exact hb⟩
end

section
open Go.RowKit Go.Sort
set_option maxRecDepth 100000
set_option linter.unusedSimpArgs false
set_option linter.unusedVariables false

/-- The digest of 32 bytes. -/
def sha256L (K H : Nat → Int) (l : List UInt8) : List UInt8 := dig32 (full32 (fun t => K t / 4294967296) (init32 H) (l ++ padL 64 8 l.length))
theorem full32_append (K : Nat → Int) (st : W8) (l m : List UInt8) : full32 K (full32 K st l) (tail64 l ++ m) = full32 K st (l ++ m) ∧ tail64 (tail64 l ++ m) = tail64 (l ++ m) := by
  induction h : l.length / 64 generalizing st l with
  | zero =>
    have hs := full32_short K st l (by omega)
    rw [hs.1, hs.2]
    exact ⟨rfl, rfl⟩
  | succ k ih =>
    have hl : 64 ≤ l.length := by omega
    have h1 := full32_long K st l hl
    have h2 := full32_long K st (l ++ m) (by rw [List.length_append]; omega)
    have e1 : (l ++ m).take 64 = l.take 64 := by rw [List.take_append, show 64 - l.length = 0 by omega]; simp
    have e2 : (l ++ m).drop 64 = l.drop 64 ++ m := by rw [List.drop_append, show 64 - l.length = 0 by omega]; simp
    have := ih (comp32 K st (l.take 64)) (l.drop 64) (by rw [List.length_drop]; omega)
    rw [h1.1, h1.2, h2.1, h2.2, e1, e2]
    exact this

set_option maxHeartbeats 1000000 in
set_option maxRecDepth 100000 in
theorem digest32_any (K H : Nat → Int) (data : ByteArray) (w : World) (hK : TabK w K) (hH : TabH w H) (hd : data.size ≤ 1099511627776) :
    Calls Tryd.prog 46 #[prm256, .string data] w fun e w' => e = .returned (.string ⟨(sha256L K H data.data.toList).toArray⟩) ∧ Below w.heap.size w w' := by
  have hP0 : PrmAt (w.alloc (.cells #[.int .i64 64, .int .i64 64, .int .u64 7, .int .u64 18, .int .u64 3, .int .u64 17, .int .u64 19, .int .u64 10, .int .u64 6, .int .u64 11, .int .u64 25, .int .u64 2, .int .u64 13, .int .u64 22] 49)) w.heap.size := blk_new w _
  have hB0 := below_new w (.cells #[.int .i64 64, .int .i64 64, .int .u64 7, .int .u64 18, .int .u64 3, .int .u64 17, .int .u64 19, .int .u64 10, .int .u64 6, .int .u64 11, .int .u64 25, .int .u64 2, .int .u64 13, .int .u64 22] 49)
  have hT0 := hK.below hB0 hK.lt
  have hU0 := hH.below hB0 hH.lt
  have HZ := Lib.hid (zero_of_info info10_32)
  have hlow := hK.lt
  go_enter Tryd.func46, Tryd.ntmps46
  go_wp2_with fail
  generalize (w.alloc _) = W at *
  generalize hBB : w.heap.size = B at *
  have HBB := Lib.hid hBB
  have HP := Lib.hid hP0
  clear hBB hP0 hK hH
  refine (start32_any H _ hU0).mono ?_
  rintro e W1 ⟨rfl, hb1⟩
  have hP1 := HP.out.below hb1 (blk_lt HP.out)
  have hT1 := hT0.below hb1 hT0.lt
  have hB1 : Below B w W1 := hB0.trans (hb1.mono (Nat.le_of_lt (blk_lt HP.out)))
  have hl1 : B < W1.heap.size := blk_lt hP1
  have hz := HZ.out.1
  have HI := Lib.hid (show (Tryd.prog.info? 77).map (·.size) = some (rc32 [] [] (init32 H) ⟨#[]⟩ 0).size from HZ.out.2)
  have HO := Lib.hid (show (rc32 [] [] (ofFn fun _ => 0) ⟨#[]⟩ 0).size = (rc32 [] [] (init32 H) ⟨#[]⟩ 0).size from rfl)
  have H1 := Lib.hid (show (rc32 [] [] (init32 H) ⟨#[]⟩ 0).all (·.oneCell') = true from by simp [rc32, Value.oneCell'])
  have HG := Lib.hid (blk_new W1 (.cells (rc32 [] [] (ofFn fun _ => 0) ⟨#[]⟩ 0) 77))
  have hR2 := setRow_heap (W1.alloc (.cells (rc32 [] [] (ofFn fun _ => 0) ⟨#[]⟩ 0) 77)) W1.heap.size _ (rc32 [] [] (init32 H) ⟨#[]⟩ 0) _ _ HG.out
  have hP2 : PrmAt ((W1.alloc (.cells (rc32 [] [] (ofFn fun _ => 0) ⟨#[]⟩ 0) 77)).setRow W1.heap.size (rc32 [] [] (init32 H) ⟨#[]⟩ 0)) B := (setRow_other _ _ _ _ (by omega)).trans (blk_old hP1)
  have hB2 : Below W1.heap.size W1 ((W1.alloc (.cells (rc32 [] [] (ofFn fun _ => 0) ⟨#[]⟩ 0) 77)).setRow W1.heap.size (rc32 [] [] (init32 H) ⟨#[]⟩ 0)) := below_setRow (below_new W1 _) (Nat.le_refl _) _
  have hT2 := hT1.below hB2 hT1.lt
  have hB3 : Below B w ((W1.alloc (.cells (rc32 [] [] (ofFn fun _ => 0) ⟨#[]⟩ 0) 77)).setRow W1.heap.size (rc32 [] [] (init32 H) ⟨#[]⟩ 0)) := hB1.trans (hB2.mono (by omega))
  obtain ⟨c0, c1, c2, c3, c4, c5, c6, c7, c8, c9, c10, c11, c12, c13⟩ := hP2.cells
  have HP2 := Lib.hid hP2; have HR2 := Lib.hid hR2
  clear HP hP1 hT1 hB1 hB0 hT0 hU0 hb1 hP2 hR2 hB2
  go_wp2_with (with_reducible refine wpList_store_row rfl 77 _ _ rfl W1.heap.size (rc32 [] [] (init32 H) ⟨#[]⟩ 0) rfl rfl 77 _ HG.out HI.out HO.out H1.out ?_)
  clear HI HO H1 HG hz c0 c1 c2 c3 c4 c5 c6 c7 c8 c9 c10 c11 c12 c13
  generalize (W1.alloc _).setRow _ _ = W2 at *
  have hl2 := blk_lt HR2.out
  generalize W1.heap.size = G at *
  refine (write32_any K G 77 [] [] (init32 H) ⟨#[]⟩ data 0 W2 HR2.out hT2 (by omega) (by decide) hd (by omega) (by omega)).mono ?_
  rintro e W3 ⟨rfl, rest, hrest, hrun3, hbut3⟩
  have hP3 : PrmAt W3 B := (hbut3.block _ (blk_lt HP2.out) (by omega)).trans HP2.out
  have hB4 : Below B w W3 := hB3.trans (hbut3.below (by omega) (by omega))
  have hT3 : TabK W3 K := fun t ht => by
    have e : W3.heap[1]? = W2.heap[1]? := hbut3.block _ hT2.lt (by omega)
    rw [← hT2 t ht]
    exact World.cell?_of_block (a := ⟨1, t, none⟩) e
  simp only [List.nil_append, Int.zero_add] at hrest hrun3
  have hrs : rest.size < 64 := by rw [Lib.size_eq, hrest]; exact tail64_length _
  have HE : Hid (sha256L K H data.data.toList = dig32 (full32 (fun t => K t / 4294967296) (full32 (fun t => K t / 4294967296) (init32 H) data.data.toList) (rest.data.toList ++ padL 64 8 data.size))) := Lib.hid (by
    rw [hrest, (full32_append _ _ _ _).1, sha256L, ← Lib.size_eq])
  generalize hst : full32 (fun t => K t / 4294967296) (init32 H) data.data.toList = st at *
  have HI := Lib.hid (show (Tryd.prog.info? 77).map (·.size) = some (rc32 [] [] st rest data.size).size from HZ.out.2)
  have HR3 := Lib.hid hrun3; have HP3 := Lib.hid hP3
  obtain ⟨c0, c1, c2, c3, c4, c5, c6, c7, c8, c9, c10, c11, c12, c13⟩ := hP3.cells
  clear hrest hrun3 hst hbut3 HP2 HR2 hP3 hT2 hB3
  go_wp2_with (with_reducible refine wpList_load_row rfl 77 _ rfl G rfl 77 _ (0, 0) _ HR3.out Tryd.underlying77 rfl HI.out ?_)
  refine (sum32_any K st rest data.size W3 hT3 hrs hd).mono ?_
  rintro e W4 ⟨rfl, hb4⟩
  clear c0 c1 c2 c3 c4 c5 c6 c7 c8 c9 c10 c11 c12 c13
  go_wp2_with fail
  go_ret
  exact ⟨by rw [HE.out]; rfl, by rw [HBB.out]; exact hB4.trans (hb4.mono (Nat.le_of_lt (blk_lt HP3.out)))⟩

theorem sum256_any (K H : Nat → Int) (data : ByteArray) (w : World) (hK : TabK w K) (hH : TabH w H) (hd : data.size ≤ 1099511627776) :
    Calls Tryd.prog 29 #[.string data] w fun e w' => e = .returned (.string ⟨(sha256L K H data.data.toList).toArray⟩) ∧ Below w.heap.size w w' := by
  go_enter Tryd.func29, Tryd.ntmps29
  go_wp2_with fail
  refine (parameters256_any _).mono ?_
  rintro e W1 ⟨rfl, hb1⟩
  go_wp2_with fail
  refine (digest32_any K H data W1 (hK.below hb1 hK.lt) (hH.below hb1 hH.lt) hd).mono ?_
  rintro e W2 ⟨rfl, hb2⟩
  go_wp2_with fail
  go_ret
  exact ⟨rfl, hb1.trans (hb2.mono hb1.size)⟩
end

section
open Go.RowKit Go.Sort
set_option maxRecDepth 100000
set_option linter.unusedSimpArgs false
set_option linter.unusedVariables false

/-- The initial words, of which k have been laid. -/
def beg64 (H : Nat → Int) (k : Nat) : W8 := ofFn fun j => if j < k then H j else 0
theorem beg64_set (H : Nat → Int) (k : Nat) (h : k < 8) (r : ByteArray) (l : Int) : (rc64 [] [] (beg64 H k) r l).setIfInBounds k (.int .u64 (H k)) = rc64 [] [] (beg64 H (k + 1)) r l := by
  rcases lt8 h with rfl | rfl | rfl | rfl | rfl | rfl | rfl | rfl <;> rfl
def init64 (H : Nat → Int) : W8 := ofFn fun j => H j
theorem beg64_eight (H : Nat → Int) : beg64 H 8 = init64 H := rfl
theorem info10_64 : (Tryd.prog.info? 104).map (fun i => (i.zero, i.size)) = some (some (.agg (rc64 [] [] (ofFn fun _ => 0) ⟨#[]⟩ 0)), 10) := by kernel_rfl

set_option maxHeartbeats 1000000 in
theorem start64_any (H : Nat → Int) (w : World) (hH : TabH w H) :
    Calls Tryd.prog 94 #[prm512] w fun e w' => e = .returned (.agg (rc64 [] [] (init64 H) ⟨#[]⟩ 0)) ∧ Below w.heap.size w w' := by
  have HZ := Lib.hid (zero_of_info info10_64)
  have hz := HZ.out.1
  go_enter Tryd.func94, Tryd.ntmps94
  go_wp2_with fail
  have hP : PrmBt (((w.alloc (.cells #[.int .i64 128, .int .i64 80, .int .u64 1, .int .u64 8, .int .u64 7, .int .u64 19, .int .u64 61, .int .u64 6, .int .u64 14, .int .u64 18, .int .u64 41, .int .u64 28, .int .u64 34, .int .u64 39] 49)).alloc (.cells (rc64 [] [] (ofFn fun _ => 0) ⟨#[]⟩ 0) 104)).alloc (.cells (rc64 [] [] (ofFn fun _ => 0) ⟨#[]⟩ 0) 104)) w.heap.size := blk_old (blk_old (blk_new w _))
  have hR := blk_old (o := (.cells (rc64 [] [] (ofFn fun _ => 0) ⟨#[]⟩ 0) 104)) (blk_new2 w (.cells #[.int .i64 128, .int .i64 80, .int .u64 1, .int .u64 8, .int .u64 7, .int .u64 19, .int .u64 61, .int .u64 6, .int .u64 14, .int .u64 18, .int .u64 41, .int .u64 28, .int .u64 34, .int .u64 39] 49) (.cells (rc64 [] [] (ofFn fun _ => 0) ⟨#[]⟩ 0) 104))
  have hA := blk_new3 w (.cells #[.int .i64 128, .int .i64 80, .int .u64 1, .int .u64 8, .int .u64 7, .int .u64 19, .int .u64 61, .int .u64 6, .int .u64 14, .int .u64 18, .int .u64 41, .int .u64 28, .int .u64 34, .int .u64 39] 49) (.cells (rc64 [] [] (ofFn fun _ => 0) ⟨#[]⟩ 0) 104) (.cells (rc64 [] [] (ofFn fun _ => 0) ⟨#[]⟩ 0) 104)
  have hB := below_new3 w (.cells #[.int .i64 128, .int .i64 80, .int .u64 1, .int .u64 8, .int .u64 7, .int .u64 19, .int .u64 61, .int .u64 6, .int .u64 14, .int .u64 18, .int .u64 41, .int .u64 28, .int .u64 34, .int .u64 39] 49) (.cells (rc64 [] [] (ofFn fun _ => 0) ⟨#[]⟩ 0) 104) (.cells (rc64 [] [] (ofFn fun _ => 0) ⟨#[]⟩ 0) 104)
  have hT := hH.below hB hH.lt
  have hlow := hH.lt
  generalize (((w.alloc _).alloc _).alloc _) = W at *
  generalize hBB : w.heap.size = B at *
  have HBB := Lib.hid hBB
  have HP := Lib.hid hP; have HR := Lib.hid hR; have HA := Lib.hid hA
  clear hBB hP hR hA hH hz
  go_loopw [5] (fun i wr => ∃ k : Nat, k ≤ 8 ∧ i = .int .i64 k ∧ PrmBt wr B ∧ wr.heap[B + 1]? = some (.cells (rc64 [] [] (ofFn fun _ => 0) ⟨#[]⟩ 0) 104) ∧ wr.heap[B + 1 + 1]? = some (.cells (rc64 [] [] (beg64 H k) ⟨#[]⟩ 0) 104) ∧ TabH wr H ∧ Below B w wr) (fun i _ => 8 - (intOf i).toNat)
  case atStart => exact ⟨0, by omega, rfl, HP.out, HR.out, HA.out, hT, hB⟩
  case round =>
    clear HP HR HA hT hB
    obtain ⟨k, hk, rfl, hp, hr, ha, ht, hb⟩ := hrel
    have HP := Lib.hid hp; have HR := Lib.hid hr; have HA := Lib.hid ha
    clear hp hr ha
    by_cases hk8 : k < 8
    · have hd : decide ((k : Int) < 8) = true := by simp; omega
      go_wp2_with fail
      obtain ⟨c0, c1, c2, c3, c4, c5, c6, c7, c8, c9, c10, c11, c12, c13⟩ := HP.out.cells
      have k0 := cell_regrown c0; have k1 := cell_regrown c1; have k2 := cell_regrown c2; have k3 := cell_regrown c3; have k4 := cell_regrown c4
      have k5 := cell_regrown c5; have k6 := cell_regrown c6; have k7 := cell_regrown c7; have k8 := cell_regrown c8; have k9 := cell_regrown c9
      have k10 := cell_regrown c10; have k11 := cell_regrown c11; have k12 := cell_regrown c12; have k13 := cell_regrown c13
      have kh := cell_regrown (ht k hk8)
      refine wp_region_reads_tail 9 (by kernel_rfl) (by kernel_rfl) ?_
      simp only [List.take_succ_cons, List.take_zero, List.drop_succ_cons, List.drop_zero]
      repeat (first | go_big_quiet_step ((go_at_call 76; exact Calls.regrown_of (unused512 _))) | quiet_step ((go_at_call 76; exact Calls.regrown_of (unused512 _))))
      refine wpQuiet_nil ?_
      intro W1 hb1
      clear k0 k1 k2 k3 k4 k5 k6 k7 k8 k9 k10 k11 k12 k13 c0 c1 c2 c3 c4 c5 c6 c7 c8 c9 c10 c11 c12 c13 kh
      have hA1 := blk_below hb1 (blk_lt HA.out) HA.out
      have hR1 := blk_below hb1 (blk_lt HR.out) HR.out
      have hP1 := HP.out.below hb1 (blk_lt HP.out)
      have ht1 := ht.below hb1 ht.lt
      have hB1 : Below B w W1 := hb.trans (hb1.mono (Nat.le_of_lt (blk_lt HP.out)))
      have ck : ∃ y, W1.cell? ⟨B + 1 + 1, k, none⟩ = some (.int .u64 y) := by
        have := rc64_state [] [] (beg64 H k) ⟨#[]⟩ 0 k hk8
        exact ⟨_, by rw [cell_of_row W1 _ _ _ _ _ hA1]; simpa using this⟩
      obtain ⟨y, ck⟩ := ck
      have fk : W1.frozen? ⟨B + 1 + 1, k, none⟩ = false := frozen_of_row W1 _ _ _ _ hA1
      replace HA := Lib.hid hA1; replace HP := Lib.hid hP1; replace HR := Lib.hid hR1
      clear hA1 hP1 hR1 ht hb hb1
      go_wp2_with fail
      go_roundw
      case rel =>
        refine ⟨k + 1, by omega, by go_num, ?_, ?_, ?_, ?_, hB1.setCell (by simp; omega) _⟩
        · exact (heap_setCell_other _ _ _ _ (by simp; omega)).trans HP.out
        · exact (heap_setCell_other _ _ _ _ (by simp)).trans HR.out
        · rw [← beg64_set _ _ hk8]; exact heap_setCell_same _ _ _ _ _ _ HA.out
        · exact fun t htt => (World.cell?_setCell_far _ _ _ _ (by first | (simp; done) | (simp; omega))).trans (ht1 t htt)
      case measure => simp [intOf]; omega
    · have hd : decide ((k : Int) < 8) = false := by simp; omega
      obtain rfl : k = 8 := by omega
      rw [beg64_eight] at HA
      have HI := Lib.hid (show (Tryd.prog.info? 104).map (·.size) = some (rc64 [] [] (init64 H) ⟨#[]⟩ 0).size from HZ.out.2)
      have HO := Lib.hid (show (rc64 [] [] (ofFn fun _ => 0) ⟨#[]⟩ 0).size = (rc64 [] [] (init64 H) ⟨#[]⟩ 0).size from rfl)
      have H1 := Lib.hid (show (rc64 [] [] (init64 H) ⟨#[]⟩ 0).all (·.oneCell') = true from by simp [rc64, Value.oneCell'])
      go_wp2_with (first
        | (with_reducible refine wpList_load_row rfl 104 _ rfl (B + 1 + 1) rfl 104 _ (0, 0) _ HA.out Tryd.underlying104 rfl HI.out ?_)
        | (with_reducible refine wpList_store_row rfl 104 _ _ rfl (B + 1) (rc64 [] [] (init64 H) ⟨#[]⟩ 0) rfl rfl 104 _ HR.out HI.out HO.out H1.out ?_))
      exact bodyPost_ret (v := .agg (rc64 [] [] (init64 H) ⟨#[]⟩ 0)) (results_cell_row (by rfl) _ _ (B + 1) 104 _ (0, 0) _ rfl (setRow_heap _ _ _ _ _ _ HR.out) Tryd.underlying104 rfl HI.out) rfl ⟨rfl, by rw [HBB.out]; exact below_setRow hb (by omega) _⟩
end

section
open Go.RowKit Go.Sort
set_option maxRecDepth 100000
set_option linter.unusedSimpArgs false
set_option linter.unusedVariables false

set_option maxHeartbeats 1000000 in
theorem padding512_any (n : Nat) (w : World) (hn : n ≤ 1099511627776) :
    Calls Tryd.prog 79 #[prm512, .int .u64 (n : Int)] w fun e w' => e = .returned (.string ⟨(padL 128 16 n).toArray⟩) ∧ Below w.heap.size w w' := by
  have hP : PrmBt (w.alloc (.cells #[.int .i64 128, .int .i64 80, .int .u64 1, .int .u64 8, .int .u64 7, .int .u64 19, .int .u64 61, .int .u64 6, .int .u64 14, .int .u64 18, .int .u64 41, .int .u64 28, .int .u64 34, .int .u64 39] 49)) w.heap.size := blk_new w _
  have hB := below_new w (.cells #[.int .i64 128, .int .i64 80, .int .u64 1, .int .u64 8, .int .u64 7, .int .u64 19, .int .u64 61, .int .u64 6, .int .u64 14, .int .u64 18, .int .u64 41, .int .u64 28, .int .u64 34, .int .u64 39] 49)
  go_enter Tryd.func79, Tryd.ntmps79
  go_wp2_with fail
  generalize (w.alloc _) = W at *
  generalize hBB : w.heap.size = B at *
  have HBB := Lib.hid hBB
  have HP := Lib.hid hP
  clear hBB hP
  · obtain ⟨c0, c1, c2, c3, c4, c5, c6, c7, c8, c9, c10, c11, c12, c13⟩ := HP.out.cells
    have k0 := cell_regrown c0; have k1 := cell_regrown c1; have k2 := cell_regrown c2; have k3 := cell_regrown c3; have k4 := cell_regrown c4
    have k5 := cell_regrown c5; have k6 := cell_regrown c6; have k7 := cell_regrown c7; have k8 := cell_regrown c8; have k9 := cell_regrown c9
    have k10 := cell_regrown c10; have k11 := cell_regrown c11; have k12 := cell_regrown c12; have k13 := cell_regrown c13
    have hm0 : (0 : Int) ≤ (n : Int) % 128 := by omega
    have hm1 : (n : Int) % 128 < 128 := by omega
    refine wp_region_reads (by kernel_rfl) (by kernel_rfl) ?_
    repeat (first | go_big_quiet_step ((go_at_call 88; exact Calls.regrown_of (lengthBytes512 _))) | quiet_step ((go_at_call 88; exact Calls.regrown_of (lengthBytes512 _))))
    refine wpQuiet_nil ?_
    intro W1 hb1
    have hB1 : Below B w W1 := hB.trans (hb1.mono (Nat.le_of_lt (blk_lt HP.out)))
    replace HP := Lib.hid (HP.out.below hb1 (blk_lt HP.out))
    clear k0 k1 k2 k3 k4 k5 k6 k7 k8 k9 k10 k11 k12 k13 c0 c1 c2 c3 c4 c5 c6 c7 c8 c9 c10 c11 c12 c13 hb1 hB
    obtain ⟨c0, c1, c2, c3, c4, c5, c6, c7, c8, c9, c10, c11, c12, c13⟩ := HP.out.cells
    go_wp2_with fail
    obtain ⟨z, hz⟩ : ∃ z : Nat, ((256 : Int) - ((n : Int) % 128 + 1 + 16)) % 128 = (z : Int) := ⟨((256 - (n % 128 + 1 + 16)) % 128 : Nat), by omega⟩
    have HZ := Lib.hid (show (2 * 128 - (n % 128 + 1 + 16)) % 128 = z from by omega)
    have hz64 : z < 128 := by omega
    rw [hz]
    clear hz hm0 hm1
    refine (lengthBytes512 _).mono ?_
    rintro e W2 ⟨rfl, hb2⟩
    have hB2 : Below B w W2 := hB1.trans (hb2.mono (Nat.le_of_lt (blk_lt HP.out)))
    have hBl : B < W2.heap.size := Nat.lt_of_lt_of_le (blk_lt HP.out) hb2.size
    clear hb2 hB1 HP c0 c1 c2 c3 c4 c5 c6 c7 c8 c9 c10 c11 c12 c13
    obtain ⟨i0, hi, hz0, hz1, hz2⟩ := info_parts info_u8
    have hmk : ∀ W : World, (Instr.makeSlice 38 (.int .i64 (1 + (z : Int) + 16)) (.int .i64 (1 + (z : Int) + 16))).run Tryd.prog W = .ok (.slice (some ⟨W.heap.size, 0, none⟩) (z + 17) (z + 17)) (W.alloc (.cells (bcells (List.replicate (z + 17) 0)) 5)) := fun W => by
      have h := run_make (P := Tryd.prog) W 38 5 i0 (.int .u8 0) Tryd.underlying38 hi hz0 .i64 .i64 (1 + (z : Int) + 16) (1 + (z : Int) + 16) (by omega) (by omega) (by rw [hz2]; omega) (by omega)
      rw [hz1, made_zero, show (1 + (z : Int) + 16).toNat = z + 17 by omega, Nat.mul_one] at h
      simpa using h
    clear hi hz0 hz1 hz2
    have hc0 : ∀ W : World, (W.alloc (.cells (bcells (List.replicate (z + 17) 0)) 5)).cell? ⟨W.heap.size, 0, none⟩ = some (.int .u8 0) := fun W => by
      rw [cell_of_row _ _ _ _ _ _ (blk_new W _)]; exact bcells_get _ _ 0 (by simp)
    have hf0 : ∀ W : World, (W.alloc (.cells (bcells (List.replicate (z + 17) 0)) 5)).frozen? ⟨W.heap.size, 0, none⟩ = false := fun W => frozen_of_row _ _ _ _ _ (blk_new W _)
    have hG : (W2.alloc (.cells ((bcells (List.replicate (z + 17) 0)).setIfInBounds 0 (.int .u8 128)) 5)).heap[W2.heap.size]? = some (.cells (bcells (128 :: (List.replicate (z + 16) 0 ++ be 0 (n * 8)))) 5) := by
      rw [blk_new, show (Value.int .u8 128) = .int .u8 ((128 : UInt8).toNat) from rfl, bcells_set, List.replicate_succ]
      simp [be]
    have HG := Lib.hid hG
    have hB3 : Below B w (W2.alloc (.cells ((bcells (List.replicate (z + 17) 0)).setIfInBounds 0 (.int .u8 128)) 5)) := hB2.alloc (Nat.le_of_lt hBl) _
    clear hG
    go_wp2_with fail
    generalize (W2.alloc _) = W3 at *
    generalize W2.heap.size = G at *
    clear hmk hc0 hf0
    go_loopw [8, 9] (fun x i wr => ∃ j q : Nat, j + q = z + 16 ∧ j ≤ 8 ∧ x = .int .u64 ((n * 8 / 256 ^ j : Nat) : Int) ∧ i = .int .i64 (q : Int) ∧ wr.heap[G]? = some (.cells (bcells (128 :: (List.replicate q 0 ++ be j (n * 8)))) 5) ∧ Below B w wr) (fun _ i _ => (intOf i).toNat)
    case atStart => exact ⟨0, z + 16, by omega, by omega, by simp, by go_num, HG.out, hB3⟩
    case round =>
      obtain ⟨j, q, hjq, hj8, rfl, rfl, hg, hb⟩ := hrel
      clear HG hB3 hB2
      have hjq' := Lib.hid hjq
      have hq : q ≤ z + 16 := by omega
      by_cases hpos : 0 < n * 8 / 256 ^ j
      · have hj := pad_pow n j hn hpos
        obtain ⟨q, rfl⟩ : ∃ q', q = q' + 1 := ⟨q - 1, by omega⟩
        have hx : n * 8 / 256 ^ j ≤ n * 8 := Nat.div_le_self _ _
        have HD := Lib.hid (show n * 8 / 256 ^ (j + 1) = n * 8 / 256 ^ j / 256 from by rw [Nat.pow_succ, Nat.div_div_eq_div_mul])
        have HS : Hid (be (j + 1) (n * 8) = UInt8.ofNat (n * 8 / 256 ^ j) :: be j (n * 8)) := Lib.hid rfl
        have hlen : (128 :: (List.replicate (q + 1) 0 ++ be j (n * 8))).length = q + 1 + 1 + j := by simp [be_length]; omega
        have cq : ∃ y, wr.cell? ⟨G, q + 1, none⟩ = some (.int .u8 y) := by
          have hlt : q + 1 < (128 :: (List.replicate (q + 1) 0 ++ be j (n * 8))).length := by omega
          exact ⟨_, cells_of_bcells hg (q + 1) _ (List.getElem?_eq_getElem hlt)⟩
        obtain ⟨y, cq⟩ := cq
        have fq : wr.frozen? ⟨G, q + 1, none⟩ = false := frozen_of_row wr _ _ _ _ hg
        have HGr := Lib.hid hg
        clear hg hlen hjq
        generalize n * 8 / 256 ^ j = x at *
        have hdd : decide ((0 : Int) < (x : Int)) = true := by simp; omega
        have hqz : (q : Int) + 1 < (z : Int) + 17 := by omega
        go_wp2_with fail
        go_roundw
        case rel =>
          refine ⟨j + 1, q, by have := hjq'.out; omega, by omega, by rw [HD.out]; simp, by go_num, ?_, ?_⟩
          · rw [HS.out, ← pad_set, ← bcells_set]
            have e : (UInt8.ofNat x).toNat = x % 256 := by simp
            rw [e]
            refine Eq.trans (heap_setCell_same _ _ _ _ _ _ HGr.out) ?_
            simp
          · exact hb.setCell (Nat.le_of_lt hBl) _
        case measure => simp [intOf]
      · have hlead := be_lead (n * 8) j (Nat.eq_zero_of_not_pos hpos) (16 - j)
        have hlen : (128 :: (List.replicate q 0 ++ be j (n * 8))).length = z + 17 := by simp [be_length]; omega
        have hcv := run_string_row wr G (z + 17) _ (cells_of_bcells hg)
        rw [hlen] at hcv
        have HE : Hid (128 :: (List.replicate q 0 ++ be j (n * 8)) = padL 128 16 n) := Lib.hid (by
          rw [show j + (16 - j) = 16 by omega] at hlead
          rw [padL, HZ.out, hlead, ← List.append_assoc, List.replicate_append_replicate, show z + (16 - j) = q by omega])
        clear hg hlen hlead
        generalize n * 8 / 256 ^ j = x at *
        have hdd : decide ((0 : Int) < (x : Int)) = false := by simp; omega
        generalize 128 :: (List.replicate q 0 ++ be j (n * 8)) = L at *
        go_wp2_with fail
        go_ret
        exact ⟨by rw [← HE.out]; rfl, by rw [HBB.out]; exact hb⟩
end

section
open Go.RowKit Go.Sort
set_option maxRecDepth 100000
set_option linter.unusedSimpArgs false
set_option linter.unusedVariables false

def dig64 (s : W8) : List UInt8 := (List.range 64).map fun i => wbyte (s.at (i / 8)) (56 - 8 * (i % 8))
theorem dig64_length (s : W8) : (dig64 s).length = 64 := by simp [dig64]
theorem dig64_snoc (s : W8) (k m : Nat) (hk : k < 8) (hm : m < 8) : (dig64 s).take (8 * k + m + 1) = (dig64 s).take (8 * k + m) ++ [wbyte (s.at k) (56 - 8 * m)] := by
  rw [List.take_succ_eq_append_getElem (by rw [dig64_length]; omega)]
  have h1 : (8 * k + m) / 8 = k := by omega
  have h2 : (8 * k + m) % 8 = m := by omega
  simp [dig64, h1, h2]

/-- The cells of a new row of 64 bytes. -/
def zeros64 : Array Value := bcells (List.replicate 64 0)

set_option maxHeartbeats 1000000 in
set_option maxRecDepth 100000 in
theorem sum64_any (K : Nat → Int) (st : W8) (rest : ByteArray) (n : Nat) (w : World) (hK : TabK w K) (hr : rest.size < 128) (hn : n ≤ 1099511627776) :
    Calls Tryd.prog 96 #[.agg (rc64 [] [] st rest n), prm512] w fun e w' => e = .returned (.string ⟨(dig64 (full64 (fun t => K t) st (rest.data.toList ++ padL 128 16 n))).toArray⟩) ∧ Below w.heap.size w w' := by
  go_enter Tryd.func96, Tryd.ntmps96
  go_wp2_with fail
  have hP : PrmBt ((w.alloc (.cells (rc64 [] [] st rest n) 104)).alloc (.cells #[.int .i64 128, .int .i64 80, .int .u64 1, .int .u64 8, .int .u64 7, .int .u64 19, .int .u64 61, .int .u64 6, .int .u64 14, .int .u64 18, .int .u64 41, .int .u64 28, .int .u64 34, .int .u64 39] 49)) (w.heap.size + 1) := blk_new2 w _ _
  have hR := blk_old (o := (.cells #[.int .i64 128, .int .i64 80, .int .u64 1, .int .u64 8, .int .u64 7, .int .u64 19, .int .u64 61, .int .u64 6, .int .u64 14, .int .u64 18, .int .u64 41, .int .u64 28, .int .u64 34, .int .u64 39] 49)) (blk_new w (.cells (rc64 [] [] st rest n) 104))
  have hB := below_new2 w (.cells (rc64 [] [] st rest n) 104) (.cells #[.int .i64 128, .int .i64 80, .int .u64 1, .int .u64 8, .int .u64 7, .int .u64 19, .int .u64 61, .int .u64 6, .int .u64 14, .int .u64 18, .int .u64 41, .int .u64 28, .int .u64 34, .int .u64 39] 49)
  have hT := hK.below hB hK.lt
  have hlow := hK.lt
  generalize ((w.alloc _).alloc _) = W at *
  generalize hBB : w.heap.size = B at *
  have HBB := Lib.hid hBB
  have HP := Lib.hid hP; have HR := Lib.hid hR
  have cl : W.cell? ⟨B, 9, none⟩ = some (.int .u64 (n : Int)) := by
    rw [cell_of_row W _ _ _ _ _ hR]; exact rc64_len [] [] st rest n
  clear hBB hP hR hK
  obtain ⟨c0, c1, c2, c3, c4, c5, c6, c7, c8, c9, c10, c11, c12, c13⟩ := HP.out.cells
  have k0 := cell_regrown c0; have k1 := cell_regrown c1; have k2 := cell_regrown c2; have k3 := cell_regrown c3; have k4 := cell_regrown c4
  have k5 := cell_regrown c5; have k6 := cell_regrown c6; have k7 := cell_regrown c7; have k8 := cell_regrown c8; have k9 := cell_regrown c9
  have k10 := cell_regrown c10; have k11 := cell_regrown c11; have k12 := cell_regrown c12; have k13 := cell_regrown c13
  have kl := cell_regrown cl
  refine wp_region_reads_tail 5 (by kernel_rfl) (by kernel_rfl) ?_
  simp only [List.take_succ_cons, List.take_zero, List.drop_succ_cons, List.drop_zero]
  repeat (quiet_step ((go_at_call 79; exact Calls.regrown_of (padding512_any n _ hn))))
  refine wpQuiet_nil ?_
  intro W1 hb1
  clear k0 k1 k2 k3 k4 k5 k6 k7 k8 k9 k10 k11 k12 k13 c0 c1 c2 c3 c4 c5 c6 c7 c8 c9 c10 c11 c12 c13 kl cl
  have hpl : (⟨(padL 128 16 n).toArray⟩ : ByteArray).size ≤ 1099511627776 := by
    have : ((2 * 128 - (n % 128 + 1 + 16)) % 128) < 128 := Nat.mod_lt _ (by omega)
    show (padL 128 16 n).toArray.size ≤ _
    simp [padL, be_length]; omega
  go_wp2_with fail
  refine (write64_any K B 104 [] [] st rest ⟨(padL 128 16 n).toArray⟩ n W1 (blk_below hb1 (blk_lt HR.out) HR.out) (hT.below hb1 hT.lt) (by omega) hr hpl (by omega) (by omega)).mono ?_
  rintro e W2 ⟨rfl, rest2, hrest2, hrun2, hbut⟩
  have hP2 : PrmBt W2 (B + 1) := (hbut.block _ (Nat.lt_of_lt_of_le (blk_lt HP.out) hb1.size) (by omega)).trans (HP.out.below hb1 (blk_lt HP.out))
  have hB2 : Below B w W2 := (hB.trans (hb1.mono (Nat.le_of_lt (blk_lt HR.out)))).trans (hbut.below (Nat.le_refl _) (Nat.le_trans (Nat.le_of_lt (blk_lt HR.out)) hb1.size))
  replace HP := Lib.hid hP2
  clear HR hT hb1 hrest2 hbut hP2 hB hpl
  generalize hOut : full64 (fun t => K t) st (rest.data.toList ++ padL 128 16 n) = out at *
  have HOut := Lib.hid hOut
  clear hOut
  generalize (n : Int) + ((⟨(padL 128 16 n).toArray⟩ : ByteArray).size : Int) = ln at *
  have HW := Lib.hid hrun2
  clear hrun2
  obtain ⟨c0, c1, c2, c3, c4, c5, c6, c7, c8, c9, c10, c11, c12, c13⟩ := HP.out.cells
  go_wp2_with fail
  refine (wordBytes512 _).mono ?_
  rintro e W3 ⟨rfl, hb3⟩
  clear c0 c1 c2 c3 c4 c5 c6 c7 c8 c9 c10 c11 c12 c13
  have hW3 := blk_below hb3 (blk_lt HW.out) HW.out
  have hP3 := HP.out.below hb3 (blk_lt HP.out)
  have hB3 : Below B w W3 := hB2.trans (hb3.mono (Nat.le_of_lt (blk_lt HW.out)))
  have hlt3 := blk_lt hP3
  obtain ⟨i0, hi, hz0, hz1, hz2⟩ := info_parts info_u8
  have hmk : ∀ W : World, (Instr.makeSlice 38 (.int .i64 0) (.int .i64 64)).run Tryd.prog W = .ok (.slice (some ⟨W.heap.size, 0, none⟩) 0 64) (W.alloc (.cells zeros64 5)) := fun W => by
    have h := run_make (P := Tryd.prog) W 38 5 i0 (.int .u8 0) Tryd.underlying38 hi hz0 .i64 .i64 0 64 (by omega) (by omega) (by rw [hz2]; omega) (by omega)
    rw [hz1, made_zero] at h
    exact h
  have hW4 : (W3.alloc (.cells zeros64 5)).heap[B]? = _ := blk_old hW3
  have m : ∀ j, j < 8 → (W3.alloc (.cells zeros64 5)).cell? ⟨B, j, none⟩ = some (.int .u64 (out.at j)) := fun j hj => by
    rw [cell_of_row _ _ _ _ _ _ hW4]; simpa using rc64_state [] [] out rest2 ln j hj
  have m0 := m 0 (by omega); have m1 := m 1 (by omega); have m2 := m 2 (by omega); have m3 := m 3 (by omega); have m4 := m 4 (by omega); have m5 := m 5 (by omega); have m6 := m 6 (by omega); have m7 := m 7 (by omega)
  simp only [W8.at] at m0 m1 m2 m3 m4 m5 m6 m7
  have hP4 : PrmBt (W3.alloc (.cells zeros64 5)) (B + 1) := blk_old hP3
  have hB4 : Below B w (W3.alloc (.cells zeros64 5)) := hB3.alloc (by omega) _
  have hO4 : (W3.alloc (.cells zeros64 5)).ownsRow B 5 1 (.slice (some ⟨W3.heap.size, 0, none⟩) 0 64) 0 (Lib.byteCells ((dig64 out).take 0)) :=
    ⟨rfl, .inr ⟨W3.heap.size, 64, _, rfl, by omega, blk_new W3 _, by omega, by unfold maxLen; omega, by rw [zeros64, bcells_size]; simp, rfl⟩⟩
  have HO4 := Lib.hid hO4; have HP4 := Lib.hid hP4
  clear hW3 hP3 hB3 hW4 m HP HW hB2 hb3 hO4 hP4
  go_wp2_with fail
  clear m0 m1 m2 m3 m4 m5 m6 m7 hmk
  have hBG : B + 1 < W3.heap.size := hlt3
  generalize (W3.alloc _) = W4 at *
  generalize W3.heap.size = G at *
  go_loopw [5, 21] (fun o i wr => ∃ k : Nat, k ≤ 8 ∧ i = .int .i64 k ∧ o = .slice (some ⟨G, 0, none⟩) (8 * k) 64 ∧ wr.ownsRow B 5 1 (.slice (some ⟨G, 0, none⟩) (8 * k) 64) (8 * k) (Lib.byteCells ((dig64 out).take (8 * k))) ∧ PrmBt wr (B + 1) ∧ Below B w wr) (fun _ i _ => 8 - (intOf i).toNat)
  case atStart => exact ⟨0, by omega, rfl, rfl, HO4.out, HP4.out, hB4⟩
  case round =>
    clear HO4 HP4 hB4
    obtain ⟨k, hk, rfl, rfl, hown, hp, hb⟩ := hrel
    have HP := Lib.hid hp
    have HOwn := Lib.hid hown
    clear hp hown
    by_cases hk8 : k < 8
    · have hd : decide ((k : Int) < 8) = true := by simp; omega
      have hix : ∀ w, (Instr.index 89 (.agg #[.int .u64 out.a, .int .u64 out.b, .int .u64 out.c, .int .u64 out.d, .int .u64 out.e, .int .u64 out.f, .int .u64 out.g, .int .u64 out.h]) (.int .i64 (k : Int))).run Tryd.prog w = .ok (.int .u64 (out.at k)) w := fun w => index8_64 out w k hk8
      obtain ⟨c0, c1, c2, c3, c4, c5, c6, c7, c8, c9, c10, c11, c12, c13⟩ := HP.out.cells
      go_wp2_with fail
      refine (wordBits512 _).mono ?_
      rintro e W5 ⟨rfl, hb5⟩
      clear c0 c1 c2 c3 c4 c5 c6 c7 c8 c9 c10 c11 c12 c13
      go_wp2_with fail
      have hown5 := owns_below HOwn.out hb5
      have hp5 := HP.out.below hb5 (blk_lt HP.out)
      have hb6 : Below B w W5 := hb.trans (hb5.mono (by have := blk_lt HP.out; omega))
      clear HOwn HP hb hb5
      go_loopw [5, 8] (fun o sh wr => ∃ m s : Nat, m ≤ 8 ∧ s + 8 * m = 64 ∧ sh = .int .u64 (s : Int) ∧ o = .slice (some ⟨G, 0, none⟩) (8 * k + m) 64 ∧ wr.ownsRow B 5 1 (.slice (some ⟨G, 0, none⟩) (8 * k + m) 64) (8 * k + m) (Lib.byteCells ((dig64 out).take (8 * k + m))) ∧ PrmBt wr (B + 1) ∧ Below B w wr) (fun _ sh _ => (intOf sh).toNat)
      case atStart => exact ⟨0, 64, by omega, by omega, rfl, rfl, hown5, hp5, hb6⟩
      case round =>
        clear hown5 hp5 hb6 hix hd
        obtain ⟨m, s, hm, hs, rfl, rfl, hown, hp, hb⟩ := hrel
        have HP := Lib.hid hp
        clear hp
        by_cases hm4 : m < 8
        · have hd : decide ((0 : Int) < (s : Int)) = true := by simp; omega
          have hs8 : (8 : Int) ≤ (s : Int) := by omega
          have hs32 : (s : Int) ≤ 64 := by omega
          have hcap : 8 * k + m + 1 ≤ 64 := by omega
          have HSn := Lib.hid (dig64_snoc out k m hk8 hm4)
          have HS8 := Lib.hid (show s - 8 = 56 - 8 * m from by omega)
          have HW := Lib.hid (wbyte_toNat (out.at k) (s - 8))
          have HOwn := Lib.hid hown
          have HSM := Lib.hid hs
          clear hown hs
          generalize out.at k = v at *
          go_wp2_with (at_builtin; refine wpList_append_fits _ rfl (.tmp 30) (.tmp 35) 38 rfl B 5 i0 1 Tryd.underlying38 hi hz1 G (8 * k + m) 64 _ rfl (HOwn.out.alloc _) ⟨wr.heap.size, 0, none⟩ 1 1 [.int .u8 (v / 2 ^ (s - 8) % 256)] rfl rfl ?c1 ?c2 ?c3 ?_)
          case c1 =>
            intro j u hj
            match j, hj with
            | 0, hj => simp at hj; subst hj; simp [Addr.add]
          case c2 => intro u hu; simp at hu; subst hu; rfl
          case c3 => exact hcap
          · intro W6 hown6 hgrow
            have hown7 : W6.ownsRow B 5 1 (.slice (some ⟨G, 0, none⟩) (8 * k + (m + 1)) 64) (8 * k + (m + 1)) (Lib.byteCells ((dig64 out).take (8 * k + (m + 1)))) := by
              rw [← Nat.add_assoc, HSn.out, Lib.byteCells_append, ← HS8.out]
              have e : Lib.byteCells [wbyte v (s - 8)] = [.int .u8 (v / 2 ^ (s - 8) % 256)] := by simp [Lib.byteCells, HW.out]
              rw [e]
              exact hown6
            have hpl := blk_lt HP.out
            have hp7 : PrmBt W6 (B + 1) := (hgrow.block _ (by simp; omega) (by simp; omega)).trans (blk_old HP.out)
            have hb7 : Below B w W6 := (hb.alloc (by omega) _).grown hgrow (by simp; omega) (by intro k hk; simp at hk; omega)
            clear hown6 hgrow HOwn HP hb
            go_wp2_with fail
            go_roundw
            case rel => exact ⟨m + 1, s - 8, by omega, by have := HSM.out; omega, by go_num, rfl, hown7, hp7, hb7⟩
            case measure => simp [intOf]; omega
        · have hd : decide ((0 : Int) < (s : Int)) = false := by simp; omega
          obtain rfl : m = 8 := by omega
          go_wp2_with fail
          go_roundw
          case rel => exact ⟨k + 1, by omega, by go_num, by rw [Nat.mul_succ], hown, HP.out, hb⟩
          case measure => simp [intOf]; omega
    · have hd : decide ((k : Int) < 8) = false := by simp; omega
      obtain rfl : k = 8 := by omega
      have hcv := run_string_row wr G 64 (dig64 out) (fun j x hx => by
        have hj : j < 64 := by
          have := (List.getElem?_eq_some_iff.1 hx).1
          rwa [dig64_length] at this
        rw [HOwn.out.cellAt j (by omega), List.take_of_length_le (by rw [dig64_length]; omega)]
        simp [Lib.byteCells, hx])
      rw [dig64_length] at hcv
      go_wp2_with fail
      go_ret
      exact ⟨by rw [HOut.out]; rfl, by rw [HBB.out]; exact hb⟩
end

section
open Go.RowKit Go.Sort
set_option maxRecDepth 100000
set_option linter.unusedSimpArgs false
set_option linter.unusedVariables false

/-- The digest of 64 bytes. -/
def sha512L (K H : Nat → Int) (l : List UInt8) : List UInt8 := dig64 (full64 (fun t => K t) (init64 H) (l ++ padL 128 16 l.length))
theorem full64_append (K : Nat → Int) (st : W8) (l m : List UInt8) : full64 K (full64 K st l) (tail128 l ++ m) = full64 K st (l ++ m) ∧ tail128 (tail128 l ++ m) = tail128 (l ++ m) := by
  induction h : l.length / 128 generalizing st l with
  | zero =>
    have hs := full64_short K st l (by omega)
    rw [hs.1, hs.2]
    exact ⟨rfl, rfl⟩
  | succ k ih =>
    have hl : 128 ≤ l.length := by omega
    have h1 := full64_long K st l hl
    have h2 := full64_long K st (l ++ m) (by rw [List.length_append]; omega)
    have e1 : (l ++ m).take 128 = l.take 128 := by rw [List.take_append, show 128 - l.length = 0 by omega]; simp
    have e2 : (l ++ m).drop 128 = l.drop 128 ++ m := by rw [List.drop_append, show 128 - l.length = 0 by omega]; simp
    have := ih (comp64 K st (l.take 128)) (l.drop 128) (by rw [List.length_drop]; omega)
    rw [h1.1, h1.2, h2.1, h2.2, e1, e2]
    exact this

set_option maxHeartbeats 1000000 in
set_option maxRecDepth 100000 in
theorem digest64_any (K H : Nat → Int) (data : ByteArray) (w : World) (hK : TabK w K) (hH : TabH w H) (hd : data.size ≤ 1099511627776) :
    Calls Tryd.prog 89 #[prm512, .string data] w fun e w' => e = .returned (.string ⟨(sha512L K H data.data.toList).toArray⟩) ∧ Below w.heap.size w w' := by
  have hP0 : PrmBt (w.alloc (.cells #[.int .i64 128, .int .i64 80, .int .u64 1, .int .u64 8, .int .u64 7, .int .u64 19, .int .u64 61, .int .u64 6, .int .u64 14, .int .u64 18, .int .u64 41, .int .u64 28, .int .u64 34, .int .u64 39] 49)) w.heap.size := blk_new w _
  have hB0 := below_new w (.cells #[.int .i64 128, .int .i64 80, .int .u64 1, .int .u64 8, .int .u64 7, .int .u64 19, .int .u64 61, .int .u64 6, .int .u64 14, .int .u64 18, .int .u64 41, .int .u64 28, .int .u64 34, .int .u64 39] 49)
  have hT0 := hK.below hB0 hK.lt
  have hU0 := hH.below hB0 hH.lt
  have HZ := Lib.hid (zero_of_info info10_64)
  have hlow := hK.lt
  go_enter Tryd.func89, Tryd.ntmps89
  go_wp2_with fail
  generalize (w.alloc _) = W at *
  generalize hBB : w.heap.size = B at *
  have HBB := Lib.hid hBB
  have HP := Lib.hid hP0
  clear hBB hP0 hK hH
  refine (start64_any H _ hU0).mono ?_
  rintro e W1 ⟨rfl, hb1⟩
  have hP1 := HP.out.below hb1 (blk_lt HP.out)
  have hT1 := hT0.below hb1 hT0.lt
  have hB1 : Below B w W1 := hB0.trans (hb1.mono (Nat.le_of_lt (blk_lt HP.out)))
  have hl1 : B < W1.heap.size := blk_lt hP1
  have hz := HZ.out.1
  have HI := Lib.hid (show (Tryd.prog.info? 104).map (·.size) = some (rc64 [] [] (init64 H) ⟨#[]⟩ 0).size from HZ.out.2)
  have HO := Lib.hid (show (rc64 [] [] (ofFn fun _ => 0) ⟨#[]⟩ 0).size = (rc64 [] [] (init64 H) ⟨#[]⟩ 0).size from rfl)
  have H1 := Lib.hid (show (rc64 [] [] (init64 H) ⟨#[]⟩ 0).all (·.oneCell') = true from by simp [rc64, Value.oneCell'])
  have HG := Lib.hid (blk_new W1 (.cells (rc64 [] [] (ofFn fun _ => 0) ⟨#[]⟩ 0) 104))
  have hR2 := setRow_heap (W1.alloc (.cells (rc64 [] [] (ofFn fun _ => 0) ⟨#[]⟩ 0) 104)) W1.heap.size _ (rc64 [] [] (init64 H) ⟨#[]⟩ 0) _ _ HG.out
  have hP2 : PrmBt ((W1.alloc (.cells (rc64 [] [] (ofFn fun _ => 0) ⟨#[]⟩ 0) 104)).setRow W1.heap.size (rc64 [] [] (init64 H) ⟨#[]⟩ 0)) B := (setRow_other _ _ _ _ (by omega)).trans (blk_old hP1)
  have hB2 : Below W1.heap.size W1 ((W1.alloc (.cells (rc64 [] [] (ofFn fun _ => 0) ⟨#[]⟩ 0) 104)).setRow W1.heap.size (rc64 [] [] (init64 H) ⟨#[]⟩ 0)) := below_setRow (below_new W1 _) (Nat.le_refl _) _
  have hT2 := hT1.below hB2 hT1.lt
  have hB3 : Below B w ((W1.alloc (.cells (rc64 [] [] (ofFn fun _ => 0) ⟨#[]⟩ 0) 104)).setRow W1.heap.size (rc64 [] [] (init64 H) ⟨#[]⟩ 0)) := hB1.trans (hB2.mono (by omega))
  obtain ⟨c0, c1, c2, c3, c4, c5, c6, c7, c8, c9, c10, c11, c12, c13⟩ := hP2.cells
  have HP2 := Lib.hid hP2; have HR2 := Lib.hid hR2
  clear HP hP1 hT1 hB1 hB0 hT0 hU0 hb1 hP2 hR2 hB2
  go_wp2_with (with_reducible refine wpList_store_row rfl 104 _ _ rfl W1.heap.size (rc64 [] [] (init64 H) ⟨#[]⟩ 0) rfl rfl 104 _ HG.out HI.out HO.out H1.out ?_)
  clear HI HO H1 HG hz c0 c1 c2 c3 c4 c5 c6 c7 c8 c9 c10 c11 c12 c13
  generalize (W1.alloc _).setRow _ _ = W2 at *
  have hl2 := blk_lt HR2.out
  generalize W1.heap.size = G at *
  refine (write64_any K G 104 [] [] (init64 H) ⟨#[]⟩ data 0 W2 HR2.out hT2 (by omega) (by decide) hd (by omega) (by omega)).mono ?_
  rintro e W3 ⟨rfl, rest, hrest, hrun3, hbut3⟩
  have hP3 : PrmBt W3 B := (hbut3.block _ (blk_lt HP2.out) (by omega)).trans HP2.out
  have hB4 : Below B w W3 := hB3.trans (hbut3.below (by omega) (by omega))
  have hT3 : TabK W3 K := fun t ht => by
    have e : W3.heap[1]? = W2.heap[1]? := hbut3.block _ hT2.lt (by omega)
    rw [← hT2 t ht]
    exact World.cell?_of_block (a := ⟨1, t, none⟩) e
  simp only [List.nil_append, Int.zero_add] at hrest hrun3
  have hrs : rest.size < 128 := by rw [Lib.size_eq, hrest]; exact tail128_length _
  have HE : Hid (sha512L K H data.data.toList = dig64 (full64 (fun t => K t) (full64 (fun t => K t) (init64 H) data.data.toList) (rest.data.toList ++ padL 128 16 data.size))) := Lib.hid (by
    rw [hrest, (full64_append _ _ _ _).1, sha512L, ← Lib.size_eq])
  generalize hst : full64 (fun t => K t) (init64 H) data.data.toList = st at *
  have HI := Lib.hid (show (Tryd.prog.info? 104).map (·.size) = some (rc64 [] [] st rest data.size).size from HZ.out.2)
  have HR3 := Lib.hid hrun3; have HP3 := Lib.hid hP3
  obtain ⟨c0, c1, c2, c3, c4, c5, c6, c7, c8, c9, c10, c11, c12, c13⟩ := hP3.cells
  clear hrest hrun3 hst hbut3 HP2 HR2 hP3 hT2 hB3
  go_wp2_with (with_reducible refine wpList_load_row rfl 104 _ rfl G rfl 104 _ (0, 0) _ HR3.out Tryd.underlying104 rfl HI.out ?_)
  refine (sum64_any K st rest data.size W3 hT3 hrs hd).mono ?_
  rintro e W4 ⟨rfl, hb4⟩
  clear c0 c1 c2 c3 c4 c5 c6 c7 c8 c9 c10 c11 c12 c13
  go_wp2_with fail
  go_ret
  exact ⟨by rw [HE.out]; rfl, by rw [HBB.out]; exact hB4.trans (hb4.mono (Nat.le_of_lt (blk_lt HP3.out)))⟩

theorem sum512_any (K H : Nat → Int) (data : ByteArray) (w : World) (hK : TabK w K) (hH : TabH w H) (hd : data.size ≤ 1099511627776) :
    Calls Tryd.prog 82 #[.string data] w fun e w' => e = .returned (.string ⟨(sha512L K H data.data.toList).toArray⟩) ∧ Below w.heap.size w w' := by
  go_enter Tryd.func82, Tryd.ntmps82
  go_wp2_with fail
  refine (parameters512_any _).mono ?_
  rintro e W1 ⟨rfl, hb1⟩
  go_wp2_with fail
  refine (digest64_any K H data W1 (hK.below hb1 hK.lt) (hH.below hb1 hH.lt) hd).mono ?_
  rintro e W2 ⟨rfl, hb2⟩
  go_wp2_with fail
  go_ret
  exact ⟨rfl, hb1.trans (hb2.mono hb1.size)⟩
end

section
open Go.RowKit
set_option maxRecDepth 100000
set_option linter.unusedSimpArgs false
set_option linter.unusedVariables false

def kList : List Int := [4794697086780616226, 8158064640168781261, 13096744586834688815, 16840607885511220156, 4131703408338449720, 6480981068601479193, 10538285296894168987, 12329834152419229976, 15566598209576043074, 1334009975649890238, 2608012711638119052, 6128411473006802146, 8268148722764581231, 9286055187155687089, 11230858885718282805, 13951009754708518548, 16472876342353939154, 17275323862435702243, 1135362057144423861, 2597628984639134821, 3308224258029322869, 5365058923640841347, 6679025012923562964, 8573033837759648693, 10970295158949994411, 12119686244451234320, 12683024718118986047, 13788192230050041572, 14330467153632333762, 15395433587784984357, 489312712824947311, 1452737877330783856, 2861767655752347644, 3322285676063803686, 5560940570517711597, 5996557281743188959, 7280758554555802590, 8532644243296465576, 9350256976987008742, 10552545826968843579, 11727347734174303076, 12113106623233404929, 14000437183269869457, 14369950271660146224, 15101387698204529176, 15463397548674623760, 17586052441742319658, 1182934255886127544, 1847814050463011016, 2177327727835720531, 2830643537854262169, 3796741975233480872, 4115178125766777443, 5681478168544905931, 6601373596472566643, 7507060721942968483, 8399075790359081724, 8693463985226723168, 9568029438360202098, 10144078919501101548, 10430055236837252648, 11840083180663258601, 13761210420658862357, 14299343276471374635, 14566680578165727644, 15097957966210449927, 16922976911328602910, 17689382322260857208, 500013540394364858, 748580250866718886, 1242879168328830382, 1977374033974150939, 2944078676154940804, 3659926193048069267, 4368137639120453308, 4836135668995329356, 5532061633213252278, 6448918945643986474, 6902733635092675308, 7801388544844847127]
def hList : List Int := [7640891576956012808, 13503953896175478587, 4354685564936845355, 11912009170470909681, 5840696475078001361, 11170449401992604703, 2270897969802886507, 6620516959819538809]
def kf (t : Nat) : Int := kList.getD t 0
def hf (t : Nat) : Int := hList.getD t 0

theorem abc256 : ((sha256L kf hf [97, 98, 99]).take 4 == [186, 120, 22, 191]) = true := by decide +kernel
theorem abc512 : ((sha512L kf hf [97, 98, 99]).take 4 == [221, 175, 53, 161]) = true := by decide +kernel
theorem sha256L_length (K H : Nat → Int) (l : List UInt8) : (sha256L K H l).length = 32 := dig32_length _
theorem sha512L_length (K H : Nat → Int) (l : List UInt8) : (sha512L K H l).length = 64 := dig64_length _

/-- What is asked of a digest's beginning. -/
theorem begins (l m : List UInt8) (n : Nat) (hl : l.length = n) (h : (l.take 4 == m) = true) (hn : 4 ≤ n) :
    (((⟨l.toArray⟩ : ByteArray).size : Int) == (n : Int)) = true ∧ (4 : Int) ≤ ((⟨l.toArray⟩ : ByteArray).size : Int) ∧ (((⟨l.toArray⟩ : ByteArray).extract 0 4).toList == m) = true := by
  have e : (⟨l.toArray⟩ : ByteArray).size = n := by rw [← hl]; rfl
  refine ⟨by rw [e]; simp, by rw [e]; omega, ?_⟩
  rw [Lib.toList_data, Lib.extract_data]
  simpa using h

end
end Go.Proofs.YtjjgakkijhjaiaaDoor
