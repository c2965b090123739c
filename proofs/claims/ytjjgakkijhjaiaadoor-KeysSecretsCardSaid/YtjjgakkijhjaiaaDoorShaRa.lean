/- The reference's small functions: right32, right64, constants, beginnings, and full (data with what stands behind it). The data has at most 2^20 bytes; The reference's full: data with what stands behind it. The data has at most 2^20 bytes; Words of the reference's Sum256, and its loop of rounds; Helpers of the reference's Sum512. -/
import Derived.Test.YtjjgakkijhjaiaaDoorBase
import Derived.Test.YtjjgakkijhjaiaaDoorShaP
import Derived.Great.BuildSlice
import Derived.Test.YtjjgakkijhjaiaaDoorShaB
namespace Go.Proofs.YtjjgakkijhjaiaaDoor
section
open Go.RowKit Go.Sort
set_option maxRecDepth 100000
set_option linter.unusedSimpArgs false
set_option linter.unusedVariables false

theorem right32_any (v n : Int) (w : World) (h0 : 0 ≤ n) (h1 : n ≤ 32) :
    Calls Tryd.prog 52 #[.int .u32 v, .int .i64 n] w fun e w' => e = .returned (.int .u32 (rotr32 v n)) ∧ Below w.heap.size w w' := by
  go_enter Tryd.func52, Tryd.ntmps52
  go_wp2_with fail
  have e1 : IntKind.i64.wrap (32 - n) = 32 - n := IntWalk.i64_in _ (by omega)
  have e2 : (0 : Int) ≤ 32 - n := by omega
  go_quiet (fail)
  go_wp2
  go_ret
  refine ⟨?_, below_drewN (Below.refl _ _) _⟩
  simp [rotr32]
theorem right64_any (v n : Int) (w : World) (h0 : 0 ≤ n) (h1 : n ≤ 64) :
    Calls Tryd.prog 70 #[.int .u64 v, .int .i64 n] w fun e w' => e = .returned (.int .u64 (rotr64 v n)) ∧ Below w.heap.size w w' := by
  go_enter Tryd.func70, Tryd.ntmps70
  go_wp2_with fail
  have e1 : IntKind.i64.wrap (64 - n) = 64 - n := IntWalk.i64_in _ (by omega)
  have e2 : (0 : Int) ≤ 64 - n := by omega
  go_quiet (fail)
  go_wp2
  go_ret
  refine ⟨?_, below_drewN (Below.refl _ _) _⟩
  simp [rotr64]

theorem constants_any (w : World) : Calls Tryd.prog 49 #[] w fun e w' => e = .returned (.slice (some ⟨w.heap.size, 0, none⟩) 80 80) ∧ w.alloc (.cells (kList.map (Value.int .u64)).toArray 54) = w' := by
  go_enter Tryd.func49, Tryd.ntmps49
  go_wp2_with (refine wpList_buildFlat rfl 51 54 80 _ rfl .u64 kList Tryd.underlying51 (by kernel_rfl) (by kernel_rfl) (by kernel_rfl) (by omega) (by omega) (by kernel_rfl) ?_)
  go_ret
  exact ⟨rfl, rfl⟩
theorem beginnings_any (w : World) : Calls Tryd.prog 50 #[] w fun e w' => e = .returned (.slice (some ⟨w.heap.size, 0, none⟩) 8 8) ∧ w.alloc (.cells (hList.map (Value.int .u64)).toArray 54) = w' := by
  go_enter Tryd.func50, Tryd.ntmps50
  go_wp2_with (refine wpList_buildFlat rfl 51 54 8 _ rfl .u64 hList Tryd.underlying51 (by kernel_rfl) (by kernel_rfl) (by kernel_rfl) (by omega) (by omega) (by kernel_rfl) ?_)
  go_ret
  exact ⟨rfl, rfl⟩
end

section
open Go.RowKit Go.Sort
set_option maxRecDepth 100000
set_option linter.unusedSimpArgs false
set_option linter.unusedVariables false

theorem be_take (k x j : Nat) (h : j < k) : (be k x).take (j + 1) = (be k x).take j ++ [UInt8.ofNat (x / 256 ^ (k - 1 - j))] := by
  induction k generalizing j with
  | zero => omega
  | succ k ih =>
    cases j with
    | zero => simp [be]
    | succ j =>
      have := ih j (by omega)
      simp only [be, List.take_succ_cons, List.cons_append, List.cons.injEq, true_and]
      rw [this, show k + 1 - 1 - (j + 1) = k - 1 - j by omega]
theorem byte_shift (n r : Nat) : Lib.byteCells [UInt8.ofNat (n * 8 / 256 ^ r)] = [.int .u8 ((n : Int) * 8 / 2 ^ (8 * r) % 256)] := by
  have e : (2 : Int) ^ (8 * r) = ((256 ^ r : Nat) : Int) := by rw [Int.pow_mul]; simp
  simp only [Lib.byteCells, List.map_cons, List.map_nil, UInt8.toNat_ofNat', e]
  congr 2
theorem byte_none (n r : Nat) (hn : n ≤ 1048576) (h : 8 ≤ r) : UInt8.ofNat (n * 8 / 256 ^ r) = 0 := by
  have h1 : 256 ^ 8 ≤ 256 ^ r := Nat.pow_le_pow_right (by omega) h
  have h2 : n * 8 / 256 ^ r = 0 := Nat.div_eq_of_lt (Nat.lt_of_lt_of_le (by omega : n * 8 < 256 ^ 8) h1)
  rw [h2]; rfl
theorem snoc3 (a b l : List UInt8) (x : UInt8) : Lib.byteCells (a ++ 128 :: (b ++ l)) ++ Lib.byteCells [x] = Lib.byteCells (a ++ 128 :: (b ++ (l ++ [x]))) := by
  simp [Lib.byteCells]
def sliceLen (v : Value) : Nat := match v with | .slice _ n _ => n | _ => 0

set_option maxHeartbeats 1000000 in
theorem full64_any (s : ByteArray) (w : World) (hs : s.size ≤ 1048576) :
    Calls Tryd.prog 51 #[.string s, .int .i64 64, .int .i64 8] w fun e w' => ∃ ao cap, e = .returned (.slice ao (s.size + (padL 64 8 s.size).length) cap) ∧ Own w' w.heap.size (.slice ao (s.size + (padL 64 8 s.size).length) cap) (Lib.byteCells (s.data.toList ++ padL 64 8 s.size)) ∧ Below w.heap.size w w' := by
  obtain ⟨i0, hi, hz0, hz1, hz2⟩ := info_parts info_u8
  obtain ⟨ao0, cap0, hcv, hown0, hb0⟩ := run_convert_string_bytes_own s w
  obtain ⟨z, hz⟩ : ∃ z, (2 * 64 - (s.size % 64 + 1 + 8)) % 64 = z := ⟨_, rfl⟩
  have hz64 : z < 64 := by omega
  have HPL := Lib.hid (show padL 64 8 s.size = 128 :: (List.replicate z 0 ++ be 8 (s.size * 8)) from by rw [padL, hz])
  have HZ := Lib.hid hz
  generalize hBB : w.heap.size = B at *
  have HBB := Lib.hid hBB
  have hsz0 : B ≤ (Lib.bytesWorld w 5 s).heap.size := by rw [← hBB]; exact hb0.size
  generalize Lib.bytesWorld w 5 s = W0 at *
  have HO0 := Lib.hid hown0
  have hl0 : (Lib.byteCells s.data.toList).length = s.size := by rw [Lib.byteCells_length, ← Lib.size_eq]
  have HL0 := Lib.hid hl0
  clear hBB hz hown0 hl0
  go_enter Tryd.func51, Tryd.ntmps51
  go_wp2_with (at_builtin; refine wpList_append_sl rfl (.tmp 12) (.tmp 13) 38 rfl B 5 i0 (.int .u8 0) 1 Tryd.underlying38 hi hz0 hz1 hz2 rfl ao0 s.size cap0 _ rfl (HO0.out.alloc _) HL0.out ⟨W0.heap.size, 0, none⟩ 1 1 [.int .u8 128] rfl rfl (cell_one_new _ _ _) ?c2 ?c3 ?c4 ?c5 ?_)
  case c2 => intro u hu; simp at hu; subst hu; rfl
  case c3 => omega
  case c4 => omega
  case c5 => simp; omega
  intro ao1 cap1 W1 hown1 hgrow1
  have hb1 : Below B w W1 := below_append (hb0.alloc hsz0 _) (by simp; omega) (HO0.out.alloc _) hgrow1
  have hsz1 : B ≤ W1.heap.size := by have := hgrow1.size; simp at this; omega
  have e1 : Lib.byteCells s.data.toList ++ [.int .u8 128] = Lib.byteCells (s.data.toList ++ 128 :: List.replicate 0 0) := by rw [Lib.byteCells_append]; rfl
  rw [e1] at hown1
  have HO1 := Lib.hid hown1
  clear e1 hown1 hgrow1 HO0 hb0 hcv hsz0
  go_wp2_with fail
  go_loopw [7] (fun v wr => ∃ (q : Nat) (ao : Option Addr) (cap : Nat), q ≤ z ∧ v = .slice ao (s.size + 1 + q) cap ∧ Own wr B (.slice ao (s.size + 1 + q) cap) (Lib.byteCells (s.data.toList ++ 128 :: List.replicate q 0)) ∧ Below B w wr ∧ B ≤ wr.heap.size) (fun v _ => z + s.size + 1 - sliceLen v)
  case atStart => exact ⟨0, ao1, cap1, by omega, rfl, HO1.out, hb1, hsz1⟩
  case round =>
    clear HO1 hb1 hsz1
    obtain ⟨q, ao, cap, hq, rfl, hown, hb, hsz⟩ := hrel
    have HO := Lib.hid hown
    clear hown
    have hl : (Lib.byteCells (s.data.toList ++ 128 :: List.replicate q 0)).length = s.size + 1 + q := by rw [Lib.byteCells_length, List.length_append, ← Lib.size_eq]; simp; omega
    have HL := Lib.hid hl
    clear hl
    have hzz := HZ.out
    by_cases hqz : q < z
    · have hd : (((s.size : Int) + 1 + (q : Int) + 8) % 64 != 0) = true := by rw [bne_iff_ne]; omega
      clear hzz
      go_wp2_with (at_builtin; refine wpList_append_sl rfl (.tmp 22) (.tmp 23) 38 rfl B 5 i0 (.int .u8 0) 1 Tryd.underlying38 hi hz0 hz1 hz2 rfl ao (s.size + 1 + q) cap _ rfl (HO.out.alloc _) HL.out ⟨wr.heap.size, 0, none⟩ 1 1 [.int .u8 0] rfl rfl (cell_one_new _ _ _) ?d2 ?d3 ?d4 ?d5 ?_)
      case d2 => intro u hu; simp at hu; subst hu; rfl
      case d3 => omega
      case d4 => omega
      case d5 => simp; omega
      intro ao2 cap2 W2 hown2 hgrow2
      have hb2 : Below B w W2 := below_append (hb.alloc hsz _) (by simp; omega) (HO.out.alloc _) hgrow2
      have hsz2 : B ≤ W2.heap.size := by have := hgrow2.size; simp at this; omega
      have e2 : Lib.byteCells (s.data.toList ++ 128 :: List.replicate q 0) ++ [.int .u8 0] = Lib.byteCells (s.data.toList ++ 128 :: List.replicate (q + 1) 0) := by
        rw [List.replicate_succ', ← List.cons_append, ← List.append_assoc, Lib.byteCells_append (s.data.toList ++ 128 :: List.replicate q 0)]; rfl
      rw [e2] at hown2
      clear e2 hgrow2 HO hb hsz HL
      go_wp2_with fail
      go_roundw
      case rel => exact ⟨q + 1, ao2, cap2, by omega, rfl, hown2, hb2, hsz2⟩
      case measure => simp [sliceLen]; omega
    · have hd : (((s.size : Int) + 1 + (q : Int) + 8) % 64 != 0) = false := by
        have : ((s.size : Int) + 1 + (q : Int) + 8) % 64 = 0 := by omega
        simp [this]
      obtain rfl : q = z := by omega
      clear hzz
      go_wp2_with fail
      go_loopw [7, 9] (fun v i wr => ∃ (j r : Nat) (ao : Option Addr) (cap : Nat), j + r = 8 ∧ i = .int .i64 ((r : Int) - 1) ∧ v = .slice ao (s.size + 1 + q + j) cap ∧ Own wr B (.slice ao (s.size + 1 + q + j) cap) (Lib.byteCells (s.data.toList ++ 128 :: (List.replicate q 0 ++ (be 8 (s.size * 8)).take j))) ∧ Below B w wr ∧ B ≤ wr.heap.size) (fun _ i _ => (intOf i + 1).toNat)
      case atStart => exact ⟨0, 8, ao, cap, by omega, rfl, rfl, by simpa using HO.out, hb, hsz⟩
      case round =>
        clear HO hb hsz HL hd
        obtain ⟨j, r, ao3, cap3, hjr, rfl, rfl, hown, hb, hsz⟩ := hrel
        have HO := Lib.hid hown
        clear hown
        have hl : (Lib.byteCells (s.data.toList ++ 128 :: (List.replicate q 0 ++ (be 8 (s.size * 8)).take j))).length = s.size + 1 + q + j := by
          rw [Lib.byteCells_length, List.length_append, ← Lib.size_eq]; simp [be_length]; omega
        have HL := Lib.hid hl
        have HJR := Lib.hid hjr
        by_cases hr : 0 < r
        · obtain ⟨r, rfl⟩ : ∃ r', r = r' + 1 := ⟨r - 1, by omega⟩
          have hd : decide ((0 : Int) ≤ (r : Int) + 1 - 1) = true := by simp
          have HB := Lib.hid (be_take 8 (s.size * 8) j (by omega))
          have HR := Lib.hid (show 8 - 1 - j = r from by omega)
          have hr15 : (r : Int) < 8 := by omega
          have hj8 : j ≤ 8 := by omega
          clear hl hjr
          by_cases hr7 : r ≤ 7
          · have hd7 : decide ((7 : Int) < (r : Int)) = false := by simp; omega
            have hr7' : (r : Int) ≤ 7 := by omega
            go_wp2_with (at_builtin; refine wpList_append_sl rfl (.tmp 39) (.tmp 45) 38 rfl B 5 i0 (.int .u8 0) 1 Tryd.underlying38 hi hz0 hz1 hz2 rfl ao3 (s.size + 1 + q + j) cap3 _ rfl (HO.out.alloc _) HL.out ⟨wr.heap.size, 0, none⟩ 1 1 [.int .u8 ((s.size : Int) * 8 / 2 ^ (8 * r) % 256)] rfl rfl (cell_one_new _ _ _) ?f2 ?f3 ?f4 ?f5 ?_)
            case f2 => intro u hu; simp at hu; subst hu; rfl
            case f3 => omega
            case f4 => omega
            case f5 => simp; omega
            intro ao4 cap4 W4 hown4 hgrow4
            have hb4 : Below B w W4 := below_append (hb.alloc hsz _) (by simp; omega) (HO.out.alloc _) hgrow4
            have hsz4 : B ≤ W4.heap.size := by have := hgrow4.size; simp at this; omega
            have e4 : Lib.byteCells (s.data.toList ++ 128 :: (List.replicate q 0 ++ (be 8 (s.size * 8)).take j)) ++ [.int .u8 ((s.size : Int) * 8 / 2 ^ (8 * r) % 256)] = Lib.byteCells (s.data.toList ++ 128 :: (List.replicate q 0 ++ (be 8 (s.size * 8)).take (j + 1))) := by
              rw [HB.out, HR.out, ← snoc3, byte_shift]
            rw [e4] at hown4
            clear e4 hgrow4 HO hb hsz HL
            go_wp2_with fail
            go_roundw
            case rel => exact ⟨j + 1, r, ao4, cap4, by have := HJR.out; omega, by go_num, rfl, hown4, hb4, hsz4⟩
            case measure => simp [intOf]
          · omega
        · obtain rfl : r = 0 := by omega
          obtain rfl : j = 8 := by omega
          have hd : decide ((0 : Int) ≤ ((0 : Nat) : Int) - 1) = false := by simp
          have HE := Lib.hid (show s.data.toList ++ 128 :: (List.replicate q 0 ++ (be 8 (s.size * 8)).take 8) = s.data.toList ++ padL 64 8 s.size from by
            rw [HPL.out, List.take_of_length_le (by rw [be_length]; omega)])
          have HLn := Lib.hid (show (padL 64 8 s.size).length = 1 + q + 8 from by rw [HPL.out]; simp [be_length]; omega)
          clear hl hjr
          go_wp2_with fail
          go_ret
          refine ⟨ao3, cap3, ?_, ?_, hb⟩
          · rw [HLn.out, ← Nat.add_assoc, ← Nat.add_assoc]; rfl
          · rw [HLn.out, ← HE.out, ← Nat.add_assoc, ← Nat.add_assoc]; exact HO.out

set_option maxHeartbeats 1000000 in
theorem full128_any (s : ByteArray) (w : World) (hs : s.size ≤ 1048576) :
    Calls Tryd.prog 51 #[.string s, .int .i64 128, .int .i64 16] w fun e w' => ∃ ao cap, e = .returned (.slice ao (s.size + (padL 128 16 s.size).length) cap) ∧ Own w' w.heap.size (.slice ao (s.size + (padL 128 16 s.size).length) cap) (Lib.byteCells (s.data.toList ++ padL 128 16 s.size)) ∧ Below w.heap.size w w' := by
  obtain ⟨i0, hi, hz0, hz1, hz2⟩ := info_parts info_u8
  obtain ⟨ao0, cap0, hcv, hown0, hb0⟩ := run_convert_string_bytes_own s w
  obtain ⟨z, hz⟩ : ∃ z, (2 * 128 - (s.size % 128 + 1 + 16)) % 128 = z := ⟨_, rfl⟩
  have hz64 : z < 128 := by omega
  have HPL := Lib.hid (show padL 128 16 s.size = 128 :: (List.replicate z 0 ++ be 16 (s.size * 8)) from by rw [padL, hz])
  have HZ := Lib.hid hz
  generalize hBB : w.heap.size = B at *
  have HBB := Lib.hid hBB
  have hsz0 : B ≤ (Lib.bytesWorld w 5 s).heap.size := by rw [← hBB]; exact hb0.size
  generalize Lib.bytesWorld w 5 s = W0 at *
  have HO0 := Lib.hid hown0
  have hl0 : (Lib.byteCells s.data.toList).length = s.size := by rw [Lib.byteCells_length, ← Lib.size_eq]
  have HL0 := Lib.hid hl0
  clear hBB hz hown0 hl0
  go_enter Tryd.func51, Tryd.ntmps51
  go_wp2_with (at_builtin; refine wpList_append_sl rfl (.tmp 12) (.tmp 13) 38 rfl B 5 i0 (.int .u8 0) 1 Tryd.underlying38 hi hz0 hz1 hz2 rfl ao0 s.size cap0 _ rfl (HO0.out.alloc _) HL0.out ⟨W0.heap.size, 0, none⟩ 1 1 [.int .u8 128] rfl rfl (cell_one_new _ _ _) ?c2 ?c3 ?c4 ?c5 ?_)
  case c2 => intro u hu; simp at hu; subst hu; rfl
  case c3 => omega
  case c4 => omega
  case c5 => simp; omega
  intro ao1 cap1 W1 hown1 hgrow1
  have hb1 : Below B w W1 := below_append (hb0.alloc hsz0 _) (by simp; omega) (HO0.out.alloc _) hgrow1
  have hsz1 : B ≤ W1.heap.size := by have := hgrow1.size; simp at this; omega
  have e1 : Lib.byteCells s.data.toList ++ [.int .u8 128] = Lib.byteCells (s.data.toList ++ 128 :: List.replicate 0 0) := by rw [Lib.byteCells_append]; rfl
  rw [e1] at hown1
  have HO1 := Lib.hid hown1
  clear e1 hown1 hgrow1 HO0 hb0 hcv hsz0
  go_wp2_with fail
  go_loopw [7] (fun v wr => ∃ (q : Nat) (ao : Option Addr) (cap : Nat), q ≤ z ∧ v = .slice ao (s.size + 1 + q) cap ∧ Own wr B (.slice ao (s.size + 1 + q) cap) (Lib.byteCells (s.data.toList ++ 128 :: List.replicate q 0)) ∧ Below B w wr ∧ B ≤ wr.heap.size) (fun v _ => z + s.size + 1 - sliceLen v)
  case atStart => exact ⟨0, ao1, cap1, by omega, rfl, HO1.out, hb1, hsz1⟩
  case round =>
    clear HO1 hb1 hsz1
    obtain ⟨q, ao, cap, hq, rfl, hown, hb, hsz⟩ := hrel
    have HO := Lib.hid hown
    clear hown
    have hl : (Lib.byteCells (s.data.toList ++ 128 :: List.replicate q 0)).length = s.size + 1 + q := by rw [Lib.byteCells_length, List.length_append, ← Lib.size_eq]; simp; omega
    have HL := Lib.hid hl
    clear hl
    have hzz := HZ.out
    by_cases hqz : q < z
    · have hd : (((s.size : Int) + 1 + (q : Int) + 16) % 128 != 0) = true := by rw [bne_iff_ne]; omega
      clear hzz
      go_wp2_with (at_builtin; refine wpList_append_sl rfl (.tmp 22) (.tmp 23) 38 rfl B 5 i0 (.int .u8 0) 1 Tryd.underlying38 hi hz0 hz1 hz2 rfl ao (s.size + 1 + q) cap _ rfl (HO.out.alloc _) HL.out ⟨wr.heap.size, 0, none⟩ 1 1 [.int .u8 0] rfl rfl (cell_one_new _ _ _) ?d2 ?d3 ?d4 ?d5 ?_)
      case d2 => intro u hu; simp at hu; subst hu; rfl
      case d3 => omega
      case d4 => omega
      case d5 => simp; omega
      intro ao2 cap2 W2 hown2 hgrow2
      have hb2 : Below B w W2 := below_append (hb.alloc hsz _) (by simp; omega) (HO.out.alloc _) hgrow2
      have hsz2 : B ≤ W2.heap.size := by have := hgrow2.size; simp at this; omega
      have e2 : Lib.byteCells (s.data.toList ++ 128 :: List.replicate q 0) ++ [.int .u8 0] = Lib.byteCells (s.data.toList ++ 128 :: List.replicate (q + 1) 0) := by
        rw [List.replicate_succ', ← List.cons_append, ← List.append_assoc, Lib.byteCells_append (s.data.toList ++ 128 :: List.replicate q 0)]; rfl
      rw [e2] at hown2
      clear e2 hgrow2 HO hb hsz HL
      go_wp2_with fail
      go_roundw
      case rel => exact ⟨q + 1, ao2, cap2, by omega, rfl, hown2, hb2, hsz2⟩
      case measure => simp [sliceLen]; omega
    · have hd : (((s.size : Int) + 1 + (q : Int) + 16) % 128 != 0) = false := by
        have : ((s.size : Int) + 1 + (q : Int) + 16) % 128 = 0 := by omega
        simp [this]
      obtain rfl : q = z := by omega
      clear hzz
      go_wp2_with fail
      go_loopw [7, 9] (fun v i wr => ∃ (j r : Nat) (ao : Option Addr) (cap : Nat), j + r = 16 ∧ i = .int .i64 ((r : Int) - 1) ∧ v = .slice ao (s.size + 1 + q + j) cap ∧ Own wr B (.slice ao (s.size + 1 + q + j) cap) (Lib.byteCells (s.data.toList ++ 128 :: (List.replicate q 0 ++ (be 16 (s.size * 8)).take j))) ∧ Below B w wr ∧ B ≤ wr.heap.size) (fun _ i _ => (intOf i + 1).toNat)
      case atStart => exact ⟨0, 16, ao, cap, by omega, rfl, rfl, by simpa using HO.out, hb, hsz⟩
      case round =>
        clear HO hb hsz HL hd
        obtain ⟨j, r, ao3, cap3, hjr, rfl, rfl, hown, hb, hsz⟩ := hrel
        have HO := Lib.hid hown
        clear hown
        have hl : (Lib.byteCells (s.data.toList ++ 128 :: (List.replicate q 0 ++ (be 16 (s.size * 8)).take j))).length = s.size + 1 + q + j := by
          rw [Lib.byteCells_length, List.length_append, ← Lib.size_eq]; simp [be_length]; omega
        have HL := Lib.hid hl
        have HJR := Lib.hid hjr
        by_cases hr : 0 < r
        · obtain ⟨r, rfl⟩ : ∃ r', r = r' + 1 := ⟨r - 1, by omega⟩
          have hd : decide ((0 : Int) ≤ (r : Int) + 1 - 1) = true := by simp
          have HB := Lib.hid (be_take 16 (s.size * 8) j (by omega))
          have HR := Lib.hid (show 16 - 1 - j = r from by omega)
          have hr15 : (r : Int) < 16 := by omega
          have hj8 : j ≤ 16 := by omega
          clear hl hjr
          by_cases hr7 : r ≤ 7
          · have hd7 : decide ((7 : Int) < (r : Int)) = false := by simp; omega
            have hr7' : (r : Int) ≤ 7 := by omega
            go_wp2_with (at_builtin; refine wpList_append_sl rfl (.tmp 39) (.tmp 45) 38 rfl B 5 i0 (.int .u8 0) 1 Tryd.underlying38 hi hz0 hz1 hz2 rfl ao3 (s.size + 1 + q + j) cap3 _ rfl (HO.out.alloc _) HL.out ⟨wr.heap.size, 0, none⟩ 1 1 [.int .u8 ((s.size : Int) * 8 / 2 ^ (8 * r) % 256)] rfl rfl (cell_one_new _ _ _) ?f2 ?f3 ?f4 ?f5 ?_)
            case f2 => intro u hu; simp at hu; subst hu; rfl
            case f3 => omega
            case f4 => omega
            case f5 => simp; omega
            intro ao4 cap4 W4 hown4 hgrow4
            have hb4 : Below B w W4 := below_append (hb.alloc hsz _) (by simp; omega) (HO.out.alloc _) hgrow4
            have hsz4 : B ≤ W4.heap.size := by have := hgrow4.size; simp at this; omega
            have e4 : Lib.byteCells (s.data.toList ++ 128 :: (List.replicate q 0 ++ (be 16 (s.size * 8)).take j)) ++ [.int .u8 ((s.size : Int) * 8 / 2 ^ (8 * r) % 256)] = Lib.byteCells (s.data.toList ++ 128 :: (List.replicate q 0 ++ (be 16 (s.size * 8)).take (j + 1))) := by
              rw [HB.out, HR.out, ← snoc3, byte_shift]
            rw [e4] at hown4
            clear e4 hgrow4 HO hb hsz HL
            go_wp2_with fail
            go_roundw
            case rel => exact ⟨j + 1, r, ao4, cap4, by have := HJR.out; omega, by go_num, rfl, hown4, hb4, hsz4⟩
            case measure => simp [intOf]
          · have hd7 : decide ((7 : Int) < (r : Int)) = true := by simp; omega
            have HX0 := Lib.hid (byte_none s.size r hs (by omega))
            go_wp2_with (at_builtin; refine wpList_append_sl rfl (.tmp 36) (.tmp 37) 38 rfl B 5 i0 (.int .u8 0) 1 Tryd.underlying38 hi hz0 hz1 hz2 rfl ao3 (s.size + 1 + q + j) cap3 _ rfl (HO.out.alloc _) HL.out ⟨wr.heap.size, 0, none⟩ 1 1 [.int .u8 (0)] rfl rfl (cell_one_new _ _ _) ?g2 ?g3 ?g4 ?g5 ?_)
            case g2 => intro u hu; simp at hu; subst hu; rfl
            case g3 => omega
            case g4 => omega
            case g5 => simp; omega
            intro ao4 cap4 W4 hown4 hgrow4
            have hb4 : Below B w W4 := below_append (hb.alloc hsz _) (by simp; omega) (HO.out.alloc _) hgrow4
            have hsz4 : B ≤ W4.heap.size := by have := hgrow4.size; simp at this; omega
            have e4 : Lib.byteCells (s.data.toList ++ 128 :: (List.replicate q 0 ++ (be 16 (s.size * 8)).take j)) ++ [.int .u8 (0)] = Lib.byteCells (s.data.toList ++ 128 :: (List.replicate q 0 ++ (be 16 (s.size * 8)).take (j + 1))) := by
              rw [HB.out, HR.out, ← snoc3, HX0.out]; rfl
            rw [e4] at hown4
            clear e4 hgrow4 HO hb hsz HL
            go_wp2_with fail
            go_roundw
            case rel => exact ⟨j + 1, r, ao4, cap4, by have := HJR.out; omega, by go_num, rfl, hown4, hb4, hsz4⟩
            case measure => simp [intOf]
        · obtain rfl : r = 0 := by omega
          obtain rfl : j = 16 := by omega
          have hd : decide ((0 : Int) ≤ ((0 : Nat) : Int) - 1) = false := by simp
          have HE := Lib.hid (show s.data.toList ++ 128 :: (List.replicate q 0 ++ (be 16 (s.size * 8)).take 16) = s.data.toList ++ padL 128 16 s.size from by
            rw [HPL.out, List.take_of_length_le (by rw [be_length]; omega)])
          have HLn := Lib.hid (show (padL 128 16 s.size).length = 1 + q + 16 from by rw [HPL.out]; simp [be_length]; omega)
          clear hl hjr
          go_wp2_with fail
          go_ret
          refine ⟨ao3, cap3, ?_, ?_, hb⟩
          · rw [HLn.out, ← Nat.add_assoc, ← Nat.add_assoc]; rfl
          · rw [HLn.out, ← HE.out, ← Nat.add_assoc, ← Nat.add_assoc]; exact HO.out
end

section
open Go.RowKit Go.Sort
set_option maxRecDepth 100000
set_option linter.unusedSimpArgs false
set_option linter.unusedVariables false

theorem info_u32 : (Tryd.prog.info? 45).map (fun i => (i.zero, i.size, i.bytes)) = some (some (.int .u32 0), 1, 4) := by kernel_rfl
/-- Words as cells. -/
def wcells32 (l : List Int) : List Value := l.map (Value.int .u32)
theorem wcells32_length (l : List Int) : (wcells32 l).length = l.length := by simp [wcells32]
theorem wcells32_snoc (l : List Int) (x : Int) : wcells32 l ++ [.int .u32 x] = wcells32 (l ++ [x]) := by simp [wcells32]
def iniL32 (H : Nat → Int) (n : Nat) : List Int := (List.range n).map fun j => H j / 4294967296 % 4294967296
theorem iniL32_snoc (H : Nat → Int) (n : Nat) : iniL32 H (n + 1) = iniL32 H n ++ [H n / 4294967296 % 4294967296] := by simp [iniL32, List.range_succ]

/-- What lies where while the blocks are gone through: the constants, the state, the message. -/
structure RInv32 (W3 W : World) (B Hb Sb : Nat) (st : W8) (L : List UInt8) : Prop where
  k : ∀ t, t < 80 → W.cell? ⟨B, t, none⟩ = some (.int .u64 (kf t))
  h : ∀ j, j < 8 → W.cell? ⟨Hb, j, none⟩ = some (.int .u32 (st.at j))
  f : ∀ j, j < 8 → W.frozen? ⟨Hb, j, none⟩ = false
  s : ∀ j x, L[j]? = some x → W.cell? ⟨Sb, j, none⟩ = some (.int .u8 x.toNat)
  but : But Hb W3 W
  lB : B < Hb
  lH : Hb < W3.heap.size
  lS : Sb < W3.heap.size
  ne : Sb ≠ Hb
theorem RInv32.step {W3 W W' : World} {B Hb Sb : Nat} {st : W8} {L : List UInt8} (i : RInv32 W3 W B Hb Sb st L) (hb : Below W3.heap.size W W') : RInv32 W3 W' B Hb Sb st L := by
  have lH := i.lH; have lB := i.lB; have lS := i.lS
  exact ⟨fun t ht => (hb.cell (by simp; omega)).trans (i.k t ht), fun j hj => (hb.cell (by simpa using lH)).trans (i.h j hj), fun j hj => (hb.frozen (by simpa using lH)).trans (i.f j hj), fun j x hj => (hb.cell (by simpa using lS)).trans (i.s j x hj),
   ⟨hb.os.trans i.but.os, hb.tape.trans i.but.tape, hb.output.trans i.but.output, Nat.le_trans i.but.size hb.size, fun k hk hne => (hb.block k hk).trans (i.but.block k hk hne)⟩, lB, lH, lS, i.ne⟩

/-- The message is whole blocks. -/
theorem pad_blocks64 (n : Nat) : ∃ q, n + (padL 64 8 n).length = 64 * q ∧ 0 < q := by
  refine ⟨(n + (padL 64 8 n).length) / 64, ?_, ?_⟩ <;> simp only [padL, List.length_cons, List.length_append, List.length_replicate, be_length] <;> omega

theorem RInv32.set {W3 W : World} {B Hb Sb : Nat} {st st' : W8} {L : List UInt8} (i : RInv32 W3 W B Hb Sb st L) (k : Nat) (hk : k < 8) (x : Int) (h1 : st'.at k = x) (h2 : ∀ j, j < 8 → j ≠ k → st'.at j = st.at j) : RInv32 W3 (W.setCell ⟨Hb, k, none⟩ (.int .u32 x)) B Hb Sb st' L := by
  have lB := i.lB; have ne := i.ne
  refine ⟨fun t ht => (World.cell?_setCell_far _ _ _ _ (by simp; omega)).trans (i.k t ht), fun j hj => ?_, fun j hj => by rw [World.frozen?_setCell]; exact i.f j hj, fun j y hj => (World.cell?_setCell_far _ _ _ _ (by simpa using ne.symm)).trans (i.s j y hj), i.but.trans (.setCell Hb _ _ _ rfl), lB, i.lH, i.lS, ne⟩
  by_cases hjk : j = k
  · subst hjk
    rw [h1]
    exact World.cell?_setCell_same _ _ _ (i.h j hj)
  · rw [h2 j hj hjk, ← i.h j hj]
    exact World.cell?_setCell_other _ _ _ _ (by first | (simp; done) | (simp; omega) | (intro e; cases e; exact hjk rfl))
def mixS (s t : W8) (k : Nat) : W8 := ⟨if 0 < k then (s.a + t.a) % 4294967296 else s.a, if 1 < k then (s.b + t.b) % 4294967296 else s.b, if 2 < k then (s.c + t.c) % 4294967296 else s.c, if 3 < k then (s.d + t.d) % 4294967296 else s.d, if 4 < k then (s.e + t.e) % 4294967296 else s.e, if 5 < k then (s.f + t.f) % 4294967296 else s.f, if 6 < k then (s.g + t.g) % 4294967296 else s.g, if 7 < k then (s.h + t.h) % 4294967296 else s.h⟩
theorem mixS_at (s t : W8) (k : Nat) (hk : k < 8) : (mixS s t (k + 1)).at k = (s.at k + t.at k) % 4294967296 ∧ (mixS s t k).at k = s.at k ∧ ∀ j, j < 8 → j ≠ k → (mixS s t (k + 1)).at j = (mixS s t k).at j := by
  refine ⟨?_, ?_, fun j hj hne => ?_⟩
  · rcases lt8 hk with rfl | rfl | rfl | rfl | rfl | rfl | rfl | rfl <;> rfl
  · rcases lt8 hk with rfl | rfl | rfl | rfl | rfl | rfl | rfl | rfl <;> rfl
  · rcases lt8 hk with rfl | rfl | rfl | rfl | rfl | rfl | rfl | rfl <;> rcases lt8 hj with rfl | rfl | rfl | rfl | rfl | rfl | rfl | rfl <;> first | exact absurd rfl hne | rfl
/-- The eight words of a round, and the schedule's words, in memory. -/
structure VInv32 (W : World) (E V Wb : Nat) (r : W8) (ws : List Int) : Prop where
  v : ∀ j, j < 8 → W.cell? ⟨V, j, none⟩ = some (.int .u32 (r.at j))
  w : ∀ j, j < 64 → W.cell? ⟨Wb, j, none⟩ = some (.int .u32 (ws.getD j 0))
  lV : E ≤ V
  lW : E ≤ Wb
theorem VInv32.step {W W' : World} {E V Wb : Nat} {r : W8} {ws : List Int} (i : VInv32 W E V Wb r ws) (hb : Below W.heap.size W W') : VInv32 W' E V Wb r ws :=
  ⟨fun j hj => (hb.cell (block_lt_of_cell (i.v j hj))).trans (i.v j hj), fun j hj => (hb.cell (block_lt_of_cell (i.w j hj))).trans (i.w j hj), i.lV, i.lW⟩
theorem VInv32.set {W : World} {E V Wb Hb : Nat} {r : W8} {ws : List Int} (i : VInv32 W E V Wb r ws) (h : Hb < E) (k : Nat) (x : Value) : VInv32 (W.setCell ⟨Hb, k, none⟩ x) E V Wb r ws := by
  have lV := i.lV; have lW := i.lW
  exact ⟨fun j hj => (World.cell?_setCell_far _ _ _ _ (by simp; omega)).trans (i.v j hj), fun j hj => (World.cell?_setCell_far _ _ _ _ (by simp; omega)).trans (i.w j hj), lV, lW⟩

theorem four_new (w : World) (a b c d : Value) (t : TypeId) : ∀ j u, [a, b, c, d][j]? = some u → (w.alloc (.cells #[a, b, c, d] t)).cell? ((⟨w.heap.size, 0, none⟩ : Addr).add j) = some u := fun j u hj => by
  rw [Addr.add_lit, Nat.zero_add, cell_of_row _ _ _ _ _ _ (blk_new w _)]
  simpa using hj
theorem mixS_eight (s t : W8) : mixS s t 8 = add32 s t := rfl
theorem mixS_zero (s t : W8) : mixS s t 0 = s := rfl
theorem dig32_four (s : W8) (k : Nat) (hk : k < 8) : (dig32 s).take (4 * (k + 1)) = (dig32 s).take (4 * k) ++ [wbyte (s.at k) 24, wbyte (s.at k) 16, wbyte (s.at k) 8, wbyte (s.at k) 0] := by
  have h0 := dig32_snoc s k 0 hk (by omega)
  have h1 := dig32_snoc s k 1 hk (by omega)
  have h2 := dig32_snoc s k 2 hk (by omega)
  have h3 := dig32_snoc s k 3 hk (by omega)
  rw [show 4 * (k + 1) = 4 * k + 3 + 1 by omega, h3, show 4 * k + 3 = 4 * k + 2 + 1 by omega, h2, show 4 * k + 2 = 4 * k + 1 + 1 by omega, h1, show 4 * k + 1 = 4 * k + 0 + 1 by omega, h0]
  simp

theorem or_bytes32 (a b c d : UInt8) : bits .or .u32 (bits .or .u32 (bits .or .u32 ((a.toNat : Int) % 4294967296 * 16777216 % 4294967296) ((b.toNat : Int) % 4294967296 * 65536 % 4294967296)) ((c.toNat : Int) % 4294967296 * 256 % 4294967296)) ((d.toNat : Int) % 4294967296) = ld32 [a, b, c, d] := by
  have ha := UInt8.toNat_lt a; have hb := UInt8.toNat_lt b; have hc := UInt8.toNat_lt c; have hd := UInt8.toNat_lt d
  have e1 : bits .or .u32 (bits .or .u32 (bits .or .u32 ((a.toNat : Int) % 4294967296 * 16777216 % 4294967296) ((b.toNat : Int) % 4294967296 * 65536 % 4294967296)) ((c.toNat : Int) % 4294967296 * 256 % 4294967296)) ((d.toNat : Int) % 4294967296) = (a.toNat : Int) * 16777216 + (b.toNat : Int) * 65536 + (c.toNat : Int) * 256 + (d.toNat : Int) := by
    generalize a.toNat = a at *; generalize b.toNat = b at *; generalize c.toNat = c at *; generalize d.toNat = d at *
    rw [show (a : Int) % 4294967296 = a by omega, show (b : Int) % 4294967296 = b by omega, show (c : Int) % 4294967296 = c by omega, show (d : Int) % 4294967296 = d by omega]
    go_bits2
  have e2 : ld32 [a, b, c, d] = (a.toNat : Int) * 16777216 + (b.toNat : Int) * 65536 + (c.toNat : Int) * 256 + (d.toNat : Int) := by
    simp only [ld32, List.foldl_cons, List.foldl_nil]
    generalize a.toNat = a at *; generalize b.toNat = b at *; generalize c.toNat = c at *; generalize d.toNat = d at *
    have q1 : bits .or .u32 (0 * 256 % 4294967296) ((a : Int) % 4294967296) = (a : Int) := by go_bits2
    rw [q1]
    have q2 : bits .or .u32 ((a : Int) * 256 % 4294967296) ((b : Int) % 4294967296) = (a : Int) * 256 + b := by go_bits2
    rw [q2]
    have q3 : bits .or .u32 (((a : Int) * 256 + b) * 256 % 4294967296) ((c : Int) % 4294967296) = ((a : Int) * 256 + b) * 256 + c := by go_bits2
    rw [q3]
    have q4 : bits .or .u32 ((((a : Int) * 256 + b) * 256 + c) * 256 % 4294967296) ((d : Int) % 4294967296) = (((a : Int) * 256 + b) * 256 + c) * 256 + d := by go_bits2
    rw [q4]
    omega
  rw [e1, e2]
/-- Four bytes of a block's. -/
theorem four_bytes (L : List UInt8) (a k : Nat) (x0 x1 x2 x3 : UInt8) (hk : k < 16) (h0 : L[a + 4 * k]? = some x0) (h1 : L[a + 4 * k + 1]? = some x1) (h2 : L[a + 4 * k + 2]? = some x2) (h3 : L[a + 4 * k + 3]? = some x3) :
    ((((L.drop a).take 64).drop (k * 4)).take 4) = [x0, x1, x2, x3] := by
  apply List.ext_getElem?
  intro j
  rw [List.getElem?_take, List.getElem?_drop, List.getElem?_take, List.getElem?_drop]
  rcases (by omega : j = 0 ∨ j = 1 ∨ j = 2 ∨ j = 3 ∨ 4 ≤ j) with rfl | rfl | rfl | rfl | hj
  · rw [if_pos (by omega), if_pos (by omega), show a + (k * 4 + 0) = a + 4 * k by omega, h0]; rfl
  · rw [if_pos (by omega), if_pos (by omega), show a + (k * 4 + 1) = a + 4 * k + 1 by omega, h1]; rfl
  · rw [if_pos (by omega), if_pos (by omega), show a + (k * 4 + 2) = a + 4 * k + 2 by omega, h2]; rfl
  · rw [if_pos (by omega), if_pos (by omega), show a + (k * 4 + 3) = a + 4 * k + 3 by omega, h3]; rfl
  · rw [if_neg (by omega), List.getElem?_eq_none (by simpa using hj)]
/-- The schedule's first words are the block's, and each later one follows. -/
theorem sch32_take (ws : List Int) (h : ws.length = 16) (n : Nat) : ∀ k, k < 16 → (sch32 ws n).take (k + 1) = (sch32 ws n).take k ++ [ws.getD k 0] := fun k hk => by
  have hpre : ∀ n, (sch32 ws n).take 16 = ws := by
    intro n
    induction n with
    | zero => simp [sch32, ← h]
    | succ n ih =>
      rw [sch32, List.take_append, ih, sch32_length _ h, show 16 - (16 + n) = 0 by omega]; simp
  have e : ∀ m, m ≤ 16 → (sch32 ws n).take m = ws.take m := fun m hm => by rw [← hpre n, List.take_take, Nat.min_eq_left hm, hpre n]
  rw [e _ (by omega), e _ (by omega), List.take_succ_eq_append_getElem (by omega)]
  simp [h, hk]
theorem sch32_take2 (ws : List Int) (h : ws.length = 16) (n k : Nat) (h1 : 16 ≤ k) (h2 : k < 16 + n) : (sch32 ws n).take (k + 1) = (sch32 ws n).take k ++ [ext32 ((sch32 ws n).take k) k] := by
  have hpre : ∀ d m, (sch32 ws (m + d)).take (16 + m) = sch32 ws m := by
    intro d
    induction d with
    | zero => intro m; simp [List.take_of_length_le, sch32_length _ h]
    | succ d ih =>
      intro m
      rw [← Nat.add_assoc, sch32, List.take_append, ih, sch32_length _ h, show 16 + m - (16 + (m + d)) = 0 by omega]; simp
  obtain ⟨m, rfl⟩ : ∃ m, k = 16 + m := ⟨k - 16, by omega⟩
  have e1 := hpre (n - m) m
  have e2 := hpre (n - (m + 1)) (m + 1)
  rw [show m + (n - m) = n by omega] at e1
  rw [show m + 1 + (n - (m + 1)) = n by omega] at e2
  rw [e1, show 16 + m + 1 = 16 + (m + 1) by omega, e2, sch32]


def loopsOf : Code → List Code
  | .loop c => c :: loopsOf c
  | .seq a b => loopsOf a ++ loopsOf b
  | .block _ c => loopsOf c
  | .scope c => loopsOf c
  | .cond _ a b => loopsOf a ++ loopsOf b
  | _ => []
noncomputable def body4 : Code := (loopsOf (Tryd.f31.body.getD .skip)).getD 3 .skip

set_option maxHeartbeats 1500000 in
set_option maxRecDepth 1000000 in
theorem loop4_32 {Q : Exit → Act → World → Prop} {W3 W : World} {B E Hb Sb Wb V0 cpw cv0 : Nat} {st : W8} {ws : List Int} {L : List UInt8} (HEq : Hid (W3.heap.size = E)) {c0 c1 c2 c4 c5 c6 c7 c8 c10 c11 c12 c13 c16 c17 c18 c19 c20 c21 c22 c23 c24 c25 c26 c27 c28 c29 c30 c31 c32 c33 c34 c35 c36 c37 c38 c39 c40 c41 c42 c43 c44 c45 c46 c47 c48 c49 c50 c51 c52 c53 c54 c55 c56 c57 c58 c59 c60 c61 c62 c63 c64 c65 c66 c67 c68 c69 c70 c71 c72 c73 c74 c75 c76 c77 c78 c79 c80 c81 c82 c83 c84 c85 c86 c87 c88 c89 c90 c91 c92 c93 c94 c95 c96 c97 c98 c99 c100 c101 c102 c103 c104 c105 c106 c107 c108 c109 c110 c111 c112 c113 c114 c115 c116 c117 c118 c119 c120 c121 c122 c123 c124 c125 c126 c127 c128 c129 c130 c131 c132 c133 c134 c135 c136 c137 c138 c139 c140 c141 c142 c143 c144 c145 c146 c147 c148 c149 c150 c151 c152 c153 c154 c155 c156 c157 c158 c159 c160 c161 c162 c163 c164 c165 c166 c167 c168 c169 c170 c171 c172 c173 c174 c175 c176 c177 c178 c179 c180 c181 c182 c183 c184 c185 c186 c187 c188 c189 c190 c191 c192 c193 c194 c195 c196 c197 c198 c199 c200 c201 c202 c203 c204 c205 c206 c207 c208 c209 c210 c211 c212 c213 c214 c215 c216 c217 c218 c219 c220 c221 c222 c223 c224 c225 c226 c227 c228 c229 c230 c231 c232 c233 c234 c235 c236 c237 c238 c239 c240 c241 c242 c243 c244 c245 c246 c247 c248 c249 c250 c251 c252 c253 c254 c255 c256 c257 c258 c259 c260 c261 c262 c263 c264 c265 c266 c267 c268 c269 c270 c271 c272 c273 c274 c275 c276 c277 c278 c279 c280 c281 c282 c283 c284 c285 c286 c287 c288 c289 c290 c291 c292 c293 c294 c295 c296 c297 c298 c299 c300 c301 c302 c303 c304 c305 c306 c307 c308 c309 c310 : Value} {c : Code} (hc : c = Code.loop body4)
    (hvi0 : VInv32 W E V0 Wb st ws) (hv0 : RInv32 W3 W B Hb Sb st L) (hsz0 : E ≤ W.heap.size)
    (hQ : ∀ (wr : World) (V cv : Nat) (r : W8) (u16 u17 u147 u148 u149 u150 u151 u152 u153 u154 u155 u156 u157 u158 u159 u160 u161 u162 u163 u164 u165 u166 u167 u168 u169 u170 u171 u172 u173 u174 u175 u176 u177 u178 u179 u180 u181 u182 u183 u184 u185 u186 u187 u188 u189 u190 u191 u192 u193 u194 u195 u196 u197 u198 u199 u200 u201 u202 u203 u204 u205 u206 u207 u208 u209 u210 u211 u212 u213 u214 u215 u216 u217 u218 u219 u220 u221 u222 u223 u224 u225 u226 u227 u228 u229 u230 u231 u232 u233 u234 u235 u236 u237 u238 u239 u240 u241 u242 u243 u244 u245 u246 u247 u248 u249 u250 u251 u252 u253 u254 u255 u256 u257 u258 u259 u260 u261 u262 : Value), Hid (rnds32 (fun t => kf t / 4294967296) (fun t => ws.getD t 0) st 64 = r) → VInv32 wr E V Wb r ws → RInv32 W3 wr B Hb Sb st L → E ≤ wr.heap.size → Q (Exit.exit 6) ⟨List.toArray (c0 :: c1 :: c2 :: (.slice (some ⟨B, 0, none⟩) 80 80) :: c4 :: c5 :: c6 :: c7 :: c8 :: (.slice (some ⟨Wb, 0, none⟩) 64 cpw) :: c10 :: c11 :: c12 :: c13 :: (.slice (some ⟨V, 0, none⟩) 8 cv) :: (.int .i64 64) :: u16 :: u17 :: c18 :: c19 :: c20 :: c21 :: c22 :: c23 :: c24 :: c25 :: c26 :: c27 :: c28 :: c29 :: c30 :: c31 :: c32 :: c33 :: c34 :: c35 :: c36 :: c37 :: c38 :: c39 :: c40 :: c41 :: c42 :: c43 :: c44 :: c45 :: c46 :: c47 :: c48 :: c49 :: c50 :: c51 :: c52 :: c53 :: c54 :: c55 :: c56 :: c57 :: c58 :: c59 :: c60 :: c61 :: c62 :: c63 :: c64 :: c65 :: c66 :: c67 :: c68 :: c69 :: c70 :: c71 :: c72 :: c73 :: c74 :: c75 :: c76 :: c77 :: c78 :: c79 :: c80 :: c81 :: c82 :: c83 :: c84 :: c85 :: c86 :: c87 :: c88 :: c89 :: c90 :: c91 :: c92 :: c93 :: c94 :: c95 :: c96 :: c97 :: c98 :: c99 :: c100 :: c101 :: c102 :: c103 :: c104 :: c105 :: c106 :: c107 :: c108 :: c109 :: c110 :: c111 :: c112 :: c113 :: c114 :: c115 :: c116 :: c117 :: c118 :: c119 :: c120 :: c121 :: c122 :: c123 :: c124 :: c125 :: c126 :: c127 :: c128 :: c129 :: c130 :: c131 :: c132 :: c133 :: c134 :: c135 :: c136 :: c137 :: c138 :: c139 :: c140 :: c141 :: c142 :: c143 :: c144 :: c145 :: c146 :: u147 :: u148 :: u149 :: u150 :: u151 :: u152 :: u153 :: u154 :: u155 :: u156 :: u157 :: u158 :: u159 :: u160 :: u161 :: u162 :: u163 :: u164 :: u165 :: u166 :: u167 :: u168 :: u169 :: u170 :: u171 :: u172 :: u173 :: u174 :: u175 :: u176 :: u177 :: u178 :: u179 :: u180 :: u181 :: u182 :: u183 :: u184 :: u185 :: u186 :: u187 :: u188 :: u189 :: u190 :: u191 :: u192 :: u193 :: u194 :: u195 :: u196 :: u197 :: u198 :: u199 :: u200 :: u201 :: u202 :: u203 :: u204 :: u205 :: u206 :: u207 :: u208 :: u209 :: u210 :: u211 :: u212 :: u213 :: u214 :: u215 :: u216 :: u217 :: u218 :: u219 :: u220 :: u221 :: u222 :: u223 :: u224 :: u225 :: u226 :: u227 :: u228 :: u229 :: u230 :: u231 :: u232 :: u233 :: u234 :: u235 :: u236 :: u237 :: u238 :: u239 :: u240 :: u241 :: u242 :: u243 :: u244 :: u245 :: u246 :: u247 :: u248 :: u249 :: u250 :: u251 :: u252 :: u253 :: u254 :: u255 :: u256 :: u257 :: u258 :: u259 :: u260 :: u261 :: u262 :: c263 :: c264 :: c265 :: c266 :: c267 :: c268 :: c269 :: c270 :: c271 :: c272 :: c273 :: c274 :: c275 :: c276 :: c277 :: c278 :: c279 :: c280 :: c281 :: c282 :: c283 :: c284 :: c285 :: c286 :: c287 :: c288 :: c289 :: c290 :: c291 :: c292 :: c293 :: c294 :: c295 :: c296 :: c297 :: c298 :: c299 :: c300 :: c301 :: c302 :: c303 :: c304 :: c305 :: c306 :: c307 :: c308 :: c309 :: c310 :: []), []⟩ wr) :
    Code.wp Tryd.prog c Q ⟨List.toArray (c0 :: c1 :: c2 :: (.slice (some ⟨B, 0, none⟩) 80 80) :: c4 :: c5 :: c6 :: c7 :: c8 :: (.slice (some ⟨Wb, 0, none⟩) 64 cpw) :: c10 :: c11 :: c12 :: c13 :: (.slice (some ⟨V0, 0, none⟩) 8 cv0) :: (.int .i64 0) :: c16 :: c17 :: c18 :: c19 :: c20 :: c21 :: c22 :: c23 :: c24 :: c25 :: c26 :: c27 :: c28 :: c29 :: c30 :: c31 :: c32 :: c33 :: c34 :: c35 :: c36 :: c37 :: c38 :: c39 :: c40 :: c41 :: c42 :: c43 :: c44 :: c45 :: c46 :: c47 :: c48 :: c49 :: c50 :: c51 :: c52 :: c53 :: c54 :: c55 :: c56 :: c57 :: c58 :: c59 :: c60 :: c61 :: c62 :: c63 :: c64 :: c65 :: c66 :: c67 :: c68 :: c69 :: c70 :: c71 :: c72 :: c73 :: c74 :: c75 :: c76 :: c77 :: c78 :: c79 :: c80 :: c81 :: c82 :: c83 :: c84 :: c85 :: c86 :: c87 :: c88 :: c89 :: c90 :: c91 :: c92 :: c93 :: c94 :: c95 :: c96 :: c97 :: c98 :: c99 :: c100 :: c101 :: c102 :: c103 :: c104 :: c105 :: c106 :: c107 :: c108 :: c109 :: c110 :: c111 :: c112 :: c113 :: c114 :: c115 :: c116 :: c117 :: c118 :: c119 :: c120 :: c121 :: c122 :: c123 :: c124 :: c125 :: c126 :: c127 :: c128 :: c129 :: c130 :: c131 :: c132 :: c133 :: c134 :: c135 :: c136 :: c137 :: c138 :: c139 :: c140 :: c141 :: c142 :: c143 :: c144 :: c145 :: c146 :: c147 :: c148 :: c149 :: c150 :: c151 :: c152 :: c153 :: c154 :: c155 :: c156 :: c157 :: c158 :: c159 :: c160 :: c161 :: c162 :: c163 :: c164 :: c165 :: c166 :: c167 :: c168 :: c169 :: c170 :: c171 :: c172 :: c173 :: c174 :: c175 :: c176 :: c177 :: c178 :: c179 :: c180 :: c181 :: c182 :: c183 :: c184 :: c185 :: c186 :: c187 :: c188 :: c189 :: c190 :: c191 :: c192 :: c193 :: c194 :: c195 :: c196 :: c197 :: c198 :: c199 :: c200 :: c201 :: c202 :: c203 :: c204 :: c205 :: c206 :: c207 :: c208 :: c209 :: c210 :: c211 :: c212 :: c213 :: c214 :: c215 :: c216 :: c217 :: c218 :: c219 :: c220 :: c221 :: c222 :: c223 :: c224 :: c225 :: c226 :: c227 :: c228 :: c229 :: c230 :: c231 :: c232 :: c233 :: c234 :: c235 :: c236 :: c237 :: c238 :: c239 :: c240 :: c241 :: c242 :: c243 :: c244 :: c245 :: c246 :: c247 :: c248 :: c249 :: c250 :: c251 :: c252 :: c253 :: c254 :: c255 :: c256 :: c257 :: c258 :: c259 :: c260 :: c261 :: c262 :: c263 :: c264 :: c265 :: c266 :: c267 :: c268 :: c269 :: c270 :: c271 :: c272 :: c273 :: c274 :: c275 :: c276 :: c277 :: c278 :: c279 :: c280 :: c281 :: c282 :: c283 :: c284 :: c285 :: c286 :: c287 :: c288 :: c289 :: c290 :: c291 :: c292 :: c293 :: c294 :: c295 :: c296 :: c297 :: c298 :: c299 :: c300 :: c301 :: c302 :: c303 :: c304 :: c305 :: c306 :: c307 :: c308 :: c309 :: c310 :: []), []⟩ W := by
  subst hc
  conv => arg 2; arg 1; whnf
  go_loopw [14, 15] (fun v t wr => ∃ (k V cv : Nat) (r : W8), k ≤ 64 ∧ t = .int .i64 k ∧ v = .slice (some ⟨V, 0, none⟩) 8 cv ∧ Hid (rnds32 (fun t => kf t / 4294967296) (fun t => ws.getD t 0) st k = r) ∧ VInv32 wr E V Wb r ws ∧ RInv32 W3 wr B Hb Sb st L ∧ E ≤ wr.heap.size) (fun _ t _ => 64 - (intOf t).toNat)
  case atStart => exact ⟨0, V0, cv0, st, by omega, rfl, rfl, Lib.hid rfl, hvi0, hv0, hsz0⟩
  case round =>
    clear hvi0 hv0 hsz0
    obtain ⟨k, V, cv, ⟨xa, xb, xc, xd, xe, xf, xg, xh⟩, hk, rfl, rfl, HR, hvi, hv, hsz⟩ := hrel
    have HVI := Lib.hid hvi; have HV := Lib.hid hv
    clear hvi hv
    by_cases hk64 : k < 64
    · have hd : decide ((k : Int) < 64) = true := by simp; omega
      have HSt := Lib.hid (show rnds32 (fun t => kf t / 4294967296) (fun t => ws.getD t 0) st (k + 1) = rnd32 ⟨xa, xb, xc, xd, xe, xf, xg, xh⟩ (kf k / 4294967296) (ws.getD k 0) from by rw [rnds32, HR.out])
      have ck := HV.out.k k (by omega)
      have cw := HVI.out.w k hk64
      have c4 := HVI.out.v 4 (by omega); have c5 := HVI.out.v 5 (by omega); have c6 := HVI.out.v 6 (by omega); have c7 := HVI.out.v 7 (by omega)
      simp only [W8.at] at c4 c5 c6 c7
      generalize kf k = xk at *
      generalize ws.getD k 0 = xw at *
      go_wp2_with fail
      have q4 := cell_regrown c4; have q5 := cell_regrown c5; have q6 := cell_regrown c6; have q7 := cell_regrown c7; have qk := cell_regrown ck; have qw := cell_regrown cw
      refine wp_region_reads (by kernel_rfl) (by kernel_rfl) ?_
      repeat (first | go_big_quiet_step ((go_at_call 52; exact Calls.regrown_of (right32_any _ _ _ (by omega) (by omega)))) | quiet_step ((go_at_call 52; exact Calls.regrown_of (right32_any _ _ _ (by omega) (by omega)))))
      refine wpQuiet_nil ?_
      intro W6 hb6
      replace HVI := Lib.hid (HVI.out.step hb6)
      have hbE6 : Below E wr W6 := hb6.mono hsz
      have hsz6 : E ≤ W6.heap.size := Nat.le_trans hsz hb6.size
      clear q4 q5 q6 q7 qk qw c4 c5 c6 c7 ck cw hb6
      have c0 := HVI.out.v 0 (by omega); have c1 := HVI.out.v 1 (by omega); have c2 := HVI.out.v 2 (by omega)
      simp only [W8.at] at c0 c1 c2
      go_wp2_with fail
      have q0 := cell_regrown c0; have q1 := cell_regrown c1; have q2 := cell_regrown c2
      refine wp_region_reads (by kernel_rfl) (by kernel_rfl) ?_
      repeat (first | go_big_quiet_step ((go_at_call 52; exact Calls.regrown_of (right32_any _ _ _ (by omega) (by omega)))) | quiet_step ((go_at_call 52; exact Calls.regrown_of (right32_any _ _ _ (by omega) (by omega)))))
      refine wpQuiet_nil ?_
      intro W7 hb7
      replace HVI := Lib.hid (HVI.out.step hb7)
      have hbE7 : Below E wr W7 := hbE6.trans (hb7.mono hsz6)
      have hsz7 : E ≤ W7.heap.size := Nat.le_trans hsz6 hb7.size
      clear q0 q1 q2 c0 c1 c2 hb7 hbE6 hsz6
      have c0 := HVI.out.v 0 (by omega); have c1 := HVI.out.v 1 (by omega); have c2 := HVI.out.v 2 (by omega); have c3 := HVI.out.v 3 (by omega); have c4 := HVI.out.v 4 (by omega); have c5 := HVI.out.v 5 (by omega); have c6 := HVI.out.v 6 (by omega)
      simp only [W8.at] at c0 c1 c2 c3 c4 c5 c6
      go_wp2_with fail
      have q0 := cell_regrown c0; have q1 := cell_regrown c1; have q2 := cell_regrown c2; have q3 := cell_regrown c3; have q4 := cell_regrown c4; have q5 := cell_regrown c5; have q6 := cell_regrown c6
      refine wp_region_reads_tail 26 (by kernel_rfl) (by kernel_rfl) ?_
      simp only [List.take_succ_cons, List.take_zero, List.drop_succ_cons, List.drop_zero]
      repeat (first | go_big_quiet_step (fail) | quiet_step (fail))
      refine wpQuiet_nil ?_
      intro W8' hb8
      replace HVI := Lib.hid (HVI.out.step hb8)
      have hbE8 : Below E wr W8' := hbE7.trans (hb8.mono hsz7)
      have hsz8 : E ≤ W8'.heap.size := Nat.le_trans hsz7 hb8.size
      clear q0 q1 q2 q3 q4 q5 q6 c0 c1 c2 c3 c4 c5 c6 hb8 hbE7 hsz7
      go_wp2_with fail
      go_roundw
      case rel =>
        refine ⟨k + 1, W8'.heap.size, 8, rnd32 ⟨xa, xb, xc, xd, xe, xf, xg, xh⟩ (xk / 4294967296) xw, by omega, by go_num, rfl, HSt, ?_, HV.out.step (by rw [HEq.out]; exact hbE8.alloc hsz8 _), by simp; omega⟩
        refine ⟨fun j hj => ?_, (HVI.out.step (below_new W8' _)).w, hsz8, HVI.out.lW⟩
        rw [cell_of_row _ _ _ _ _ _ (blk_new W8' _)]
        rcases lt8 hj with rfl | rfl | rfl | rfl | rfl | rfl | rfl | rfl
        · refine congrArg some (congrArg (Value.int .u32) ?_); simp only [rnd32, rot3_32, W8.at]
        · rfl
        · rfl
        · rfl
        · refine congrArg some (congrArg (Value.int .u32) ?_); simp only [rnd32, rot3_32, W8.at]
        · rfl
        · rfl
        · rfl
      case measure => simp [intOf]; omega
    · have hd : decide ((k : Int) < 64) = false := by simp; omega
      obtain rfl : k = 64 := by omega
      go_wp2_with fail
      exact hQ _ _ _ _ _ _ _ _ _ _ _ _ _ _ _ _ _ _ _ _ _ _ _ _ _ _ _ _ _ _ _ _ _ _ _ _ _ _ _ _ _ _ _ _ _ _ _ _ _ _ _ _ _ _ _ _ _ _ _ _ _ _ _ _ _ _ _ _ _ _ _ _ _ _ _ _ _ _ _ _ _ _ _ _ _ _ _ _ _ _ _ _ _ _ _ _ _ _ _ _ _ _ _ _ _ _ _ _ _ _ _ _ _ _ _ _ _ _ _ _ _ _ HR HVI.out HV.out hsz
end

section
open Go.RowKit Go.Sort
set_option maxRecDepth 100000
set_option linter.unusedSimpArgs false
set_option linter.unusedVariables false

theorem info_u64 : (Tryd.prog.info? 54).map (fun i => (i.zero, i.size, i.bytes)) = some (some (.int .u64 0), 1, 8) := by kernel_rfl
/-- Words as cells. -/
def wcells64 (l : List Int) : List Value := l.map (Value.int .u64)
theorem wcells64_length (l : List Int) : (wcells64 l).length = l.length := by simp [wcells64]
theorem wcells64_snoc (l : List Int) (x : Int) : wcells64 l ++ [.int .u64 x] = wcells64 (l ++ [x]) := by simp [wcells64]

/-- What lies where while the blocks are gone through: the constants, the state, the message. -/
structure RInv64 (W3 W : World) (B Hb Sb : Nat) (st : W8) (L : List UInt8) : Prop where
  k : ∀ t, t < 80 → W.cell? ⟨B, t, none⟩ = some (.int .u64 (kf t))
  h : ∀ j, j < 8 → W.cell? ⟨Hb, j, none⟩ = some (.int .u64 (st.at j))
  f : ∀ j, j < 8 → W.frozen? ⟨Hb, j, none⟩ = false
  s : ∀ j x, L[j]? = some x → W.cell? ⟨Sb, j, none⟩ = some (.int .u8 x.toNat)
  but : But Hb W3 W
  lB : B < Hb
  lH : Hb < W3.heap.size
  lS : Sb < W3.heap.size
  ne : Sb ≠ Hb
theorem RInv64.step {W3 W W' : World} {B Hb Sb : Nat} {st : W8} {L : List UInt8} (i : RInv64 W3 W B Hb Sb st L) (hb : Below W3.heap.size W W') : RInv64 W3 W' B Hb Sb st L := by
  have lH := i.lH; have lB := i.lB; have lS := i.lS
  exact ⟨fun t ht => (hb.cell (by simp; omega)).trans (i.k t ht), fun j hj => (hb.cell (by simpa using lH)).trans (i.h j hj), fun j hj => (hb.frozen (by simpa using lH)).trans (i.f j hj), fun j x hj => (hb.cell (by simpa using lS)).trans (i.s j x hj),
   ⟨hb.os.trans i.but.os, hb.tape.trans i.but.tape, hb.output.trans i.but.output, Nat.le_trans i.but.size hb.size, fun k hk hne => (hb.block k hk).trans (i.but.block k hk hne)⟩, lB, lH, lS, i.ne⟩

theorem RInv64.set {W3 W : World} {B Hb Sb : Nat} {st st' : W8} {L : List UInt8} (i : RInv64 W3 W B Hb Sb st L) (k : Nat) (hk : k < 8) (x : Int) (h1 : st'.at k = x) (h2 : ∀ j, j < 8 → j ≠ k → st'.at j = st.at j) : RInv64 W3 (W.setCell ⟨Hb, k, none⟩ (.int .u64 x)) B Hb Sb st' L := by
  have lB := i.lB; have ne := i.ne
  refine ⟨fun t ht => (World.cell?_setCell_far _ _ _ _ (by simp; omega)).trans (i.k t ht), fun j hj => ?_, fun j hj => by rw [World.frozen?_setCell]; exact i.f j hj, fun j y hj => (World.cell?_setCell_far _ _ _ _ (by simpa using ne.symm)).trans (i.s j y hj), i.but.trans (.setCell Hb _ _ _ rfl), lB, i.lH, i.lS, ne⟩
  by_cases hjk : j = k
  · subst hjk
    rw [h1]
    exact World.cell?_setCell_same _ _ _ (i.h j hj)
  · rw [h2 j hj hjk, ← i.h j hj]
    exact World.cell?_setCell_other _ _ _ _ (by first | (simp; done) | (simp; omega) | (intro e; cases e; exact hjk rfl))
def mixT (s t : W8) (k : Nat) : W8 := ⟨if 0 < k then IntKind.u64.wrap (s.a + t.a) else s.a, if 1 < k then IntKind.u64.wrap (s.b + t.b) else s.b, if 2 < k then IntKind.u64.wrap (s.c + t.c) else s.c, if 3 < k then IntKind.u64.wrap (s.d + t.d) else s.d, if 4 < k then IntKind.u64.wrap (s.e + t.e) else s.e, if 5 < k then IntKind.u64.wrap (s.f + t.f) else s.f, if 6 < k then IntKind.u64.wrap (s.g + t.g) else s.g, if 7 < k then IntKind.u64.wrap (s.h + t.h) else s.h⟩
theorem mixT_at (s t : W8) (k : Nat) (hk : k < 8) : (mixT s t (k + 1)).at k = IntKind.u64.wrap (s.at k + t.at k) ∧ (mixT s t k).at k = s.at k ∧ ∀ j, j < 8 → j ≠ k → (mixT s t (k + 1)).at j = (mixT s t k).at j := by
  refine ⟨?_, ?_, fun j hj hne => ?_⟩
  · rcases lt8 hk with rfl | rfl | rfl | rfl | rfl | rfl | rfl | rfl <;> rfl
  · rcases lt8 hk with rfl | rfl | rfl | rfl | rfl | rfl | rfl | rfl <;> rfl
  · rcases lt8 hk with rfl | rfl | rfl | rfl | rfl | rfl | rfl | rfl <;> rcases lt8 hj with rfl | rfl | rfl | rfl | rfl | rfl | rfl | rfl <;> first | exact absurd rfl hne | rfl
/-- The eight words of a round, and the schedule's words, in memory. -/
structure VInv64 (W : World) (E V Wb : Nat) (r : W8) (ws : List Int) : Prop where
  v : ∀ j, j < 8 → W.cell? ⟨V, j, none⟩ = some (.int .u64 (r.at j))
  w : ∀ j, j < 80 → W.cell? ⟨Wb, j, none⟩ = some (.int .u64 (ws.getD j 0))
  lV : E ≤ V
  lW : E ≤ Wb
theorem VInv64.step {W W' : World} {E V Wb : Nat} {r : W8} {ws : List Int} (i : VInv64 W E V Wb r ws) (hb : Below W.heap.size W W') : VInv64 W' E V Wb r ws :=
  ⟨fun j hj => (hb.cell (block_lt_of_cell (i.v j hj))).trans (i.v j hj), fun j hj => (hb.cell (block_lt_of_cell (i.w j hj))).trans (i.w j hj), i.lV, i.lW⟩
theorem VInv64.set {W : World} {E V Wb Hb : Nat} {r : W8} {ws : List Int} (i : VInv64 W E V Wb r ws) (h : Hb < E) (k : Nat) (x : Value) : VInv64 (W.setCell ⟨Hb, k, none⟩ x) E V Wb r ws := by
  have lV := i.lV; have lW := i.lW
  exact ⟨fun j hj => (World.cell?_setCell_far _ _ _ _ (by simp; omega)).trans (i.v j hj), fun j hj => (World.cell?_setCell_far _ _ _ _ (by simp; omega)).trans (i.w j hj), lV, lW⟩

theorem mixT_eight (s t : W8) : mixT s t 8 = add64 s t := rfl
theorem mixT_zero (s t : W8) : mixT s t 0 = s := rfl
/-- The schedule's first words are the block's, and each later one follows. -/
theorem sch64_take (ws : List Int) (h : ws.length = 16) (n : Nat) : ∀ k, k < 16 → (sch64 ws n).take (k + 1) = (sch64 ws n).take k ++ [ws.getD k 0] := fun k hk => by
  have hpre : ∀ n, (sch64 ws n).take 16 = ws := by
    intro n
    induction n with
    | zero => simp [sch64, ← h]
    | succ n ih =>
      rw [sch64, List.take_append, ih, sch64_length _ h, show 16 - (16 + n) = 0 by omega]; simp
  have e : ∀ m, m ≤ 16 → (sch64 ws n).take m = ws.take m := fun m hm => by rw [← hpre n, List.take_take, Nat.min_eq_left hm, hpre n]
  rw [e _ (by omega), e _ (by omega), List.take_succ_eq_append_getElem (by omega)]
  simp [h, hk]
theorem sch64_take2 (ws : List Int) (h : ws.length = 16) (n k : Nat) (h1 : 16 ≤ k) (h2 : k < 16 + n) : (sch64 ws n).take (k + 1) = (sch64 ws n).take k ++ [ext64 ((sch64 ws n).take k) k] := by
  have hpre : ∀ d m, (sch64 ws (m + d)).take (16 + m) = sch64 ws m := by
    intro d
    induction d with
    | zero => intro m; simp [List.take_of_length_le, sch64_length _ h]
    | succ d ih =>
      intro m
      rw [← Nat.add_assoc, sch64, List.take_append, ih, sch64_length _ h, show 16 + m - (16 + (m + d)) = 0 by omega]; simp
  obtain ⟨m, rfl⟩ : ∃ m, k = 16 + m := ⟨k - 16, by omega⟩
  have e1 := hpre (n - m) m
  have e2 := hpre (n - (m + 1)) (m + 1)
  rw [show m + (n - m) = n by omega] at e1
  rw [show m + 1 + (n - (m + 1)) = n by omega] at e2
  rw [e1, show 16 + m + 1 = 16 + (m + 1) by omega, e2, sch64]



/-- The message is whole blocks. -/
theorem pad_blocks128 (n : Nat) : ∃ q, n + (padL 128 16 n).length = 128 * q ∧ 0 < q := by
  refine ⟨(n + (padL 128 16 n).length) / 128, ?_, ?_⟩ <;> simp only [padL, List.length_cons, List.length_append, List.length_replicate, be_length] <;> omega

/-- The number that bytes are, the greatest first. -/
def ldn (l : List UInt8) : Nat := l.foldl (fun v c => v * 256 + c.toNat) 0
theorem ldn_snoc (l : List UInt8) (x : UInt8) : ldn (l ++ [x]) = ldn l * 256 + x.toNat := by simp [ldn]
theorem ldn_lt (l : List UInt8) : ∀ n, n ≤ l.length → ldn (l.take n) < 256 ^ n := by
  intro n
  induction n with
  | zero => intro _; simp [ldn]
  | succ n ih =>
    intro hn
    have h1 := ih (by omega)
    have h2 := UInt8.toNat_lt (l[n]'(by omega))
    rw [List.take_succ_eq_append_getElem (by omega), ldn_snoc, Nat.pow_succ]
    omega
theorem or_shift64 (v c : Nat) (hv : v < 72057594037927936) (hc : c < 256) : bits .or .u64 (IntKind.u64.wrap ((v : Int) * 256)) (IntKind.u64.wrap (c : Int)) = (v : Int) * 256 + c := by
  have e1 : IntKind.u64.wrap ((v : Int) * 256) = (v : Int) * 256 := by simp only [IntKind.wrap]; exact Int.emod_eq_of_lt (by omega) (by show _ < (18446744073709551616 : Int); omega)
  have e2 : IntKind.u64.wrap (c : Int) = (c : Int) := by simp only [IntKind.wrap]; exact Int.emod_eq_of_lt (by omega) (by show _ < (18446744073709551616 : Int); omega)
  rw [e1, e2]
  go_bits2
theorem ld64_take (l : List UInt8) : ∀ n, n ≤ l.length → n ≤ 8 → ld64 (l.take n) = (ldn (l.take n) : Int) := by
  intro n
  induction n with
  | zero => intro _ _; simp [ldn, ld64]
  | succ n ih =>
    intro hn h8
    have h1 := ih (by omega) (by omega)
    have h2 := UInt8.toNat_lt (l[n]'(by omega))
    have h3 := ldn_lt l n (by omega)
    have h4 : 256 ^ n ≤ 256 ^ 7 := Nat.pow_le_pow_right (by omega) (by omega)
    rw [List.take_succ_eq_append_getElem (by omega), ldn_snoc]
    have e : ld64 (l.take n ++ [l[n]'(by omega)]) = bits .or .u64 (IntKind.u64.wrap (ld64 (l.take n) * 256)) (IntKind.u64.wrap ((l[n]'(by omega)).toNat : Int)) := by rw [ld64, List.foldl_append]; rfl
    rw [e, h1, or_shift64 _ _ (by omega) h2]
    simp
/-- Eight bytes of a block. -/
def eight (L : List UInt8) (a k : Nat) : List UInt8 := (((L.drop a).take 128).drop (k * 8)).take 8
theorem eight_length (L : List UInt8) (a k : Nat) (hk : k < 16) (h : a + 128 ≤ L.length) : (eight L a k).length = 8 := by
  simp only [eight, List.length_take, List.length_drop]; omega
theorem eight_at (L : List UInt8) (a k n : Nat) (hk : k < 16) (hn : n < 8) (h : a + 128 ≤ L.length) : ∃ x, L[a + 8 * k + n]? = some x ∧ (eight L a k).take (n + 1) = (eight L a k).take n ++ [x] := by
  have hl := eight_length L a k hk h
  refine ⟨(eight L a k)[n]'(by omega), ?_, List.take_succ_eq_append_getElem (by omega)⟩
  rw [← List.getElem?_eq_getElem, eight, List.getElem?_take, if_pos hn, List.getElem?_drop, List.getElem?_take, if_pos (by omega), List.getElem?_drop]
  congr 1; omega
theorem eight_word (L : List UInt8) (a k : Nat) (hk : k < 16) (h : a + 128 ≤ L.length) : (wds64 ((L.drop a).take 128)).getD k 0 = (ldn ((eight L a k).take 8) : Int) := by
  have hl := eight_length L a k hk h
  rw [← ld64_take (eight L a k) 8 (by omega) (by omega), List.take_of_length_le (show (eight L a k).length ≤ 8 by omega), wds64, List.getD_eq_getElem?_getD, List.getElem?_map, List.getElem?_range (by omega)]
  rfl
noncomputable def bodyT (i : Nat) : Code := (loopsOf (Tryd.f56.body.getD .skip)).getD i .skip
end
end Go.Proofs.YtjjgakkijhjaiaaDoor
