/- The reference's full: data with what stands behind it. The data has at most 2^20 bytes. -/
import Derived.Test.YthcfolefdalaiaaDoorRefBase
namespace Go.Proofs.YthcfolefdalaiaaDoor
open Go.RowKit Go.Sort
set_option maxRecDepth 100000
set_option linter.unusedSimpArgs false
set_option linter.unusedVariables false

/-- The conversion of a string to bytes: a slice of its own. -/
theorem run_convert_string_bytes_own (s : ByteArray) (w : World) : ∃ ao cap, (convert 9 46 (.string s)).run Tryd.prog w = .ok (.slice ao s.size cap) (Lib.bytesWorld w 5 s) ∧ Own (Lib.bytesWorld w 5 s) w.heap.size (.slice ao s.size cap) (Lib.byteCells s.data.toList) ∧ Below w.heap.size w (Lib.bytesWorld w 5 s) := by
  have hl : (Lib.byteCells s.data.toList).length = s.size := by rw [Lib.byteCells_length, ← Lib.size_eq]
  have hge := grownCap_ge w s.size 0 5
  have hsz : (Lib.bytesCells w 5 s).size = grownCap w s.size 0 5 := by
    simp only [Lib.bytesCells, Array.size_append, Array.size_map, Array.size_replicate]
    have : s.data.size = s.size := rfl
    omega
  have hnew := Lib.bytesWorld_at_new w 5 s
  refine ⟨_, _, Lib.run_convert_string_bytes w 9 46 5 s Tryd.underlying9 Tryd.underlying46 Tryd.underlying5, .inr ⟨w.heap.size, grownCap w s.size 0 5, by rw [hl], Nat.le_refl _, by omega, ?_, ?_⟩, ?_⟩
  · intro j u hj
    have hlt : j < s.size := by rw [← hl]; exact (List.getElem?_eq_some_iff.1 hj).1
    rw [Lib.bytesWorld_cell w 5 s j hlt]
    have hlt' : j < s.data.toList.length := by rw [← Lib.size_eq]; exact hlt
    simp only [Lib.byteCells, List.getElem?_map, List.getElem?_eq_getElem hlt', Option.map_some] at hj
    rw [List.getD_eq_getElem?_getD, List.getElem?_eq_getElem hlt']
    exact hj
  · intro j hj
    constructor
    · rw [cell_of_row _ _ _ _ _ _ hnew]
      have : j < (Lib.bytesCells w 5 s).size := by omega
      simp [this]
    · have : j < (Lib.bytesCells w 5 s).size := by omega
      simp [World.frozen?, hnew]
      omega
  · exact ⟨rfl, rfl, rfl, by rw [Lib.bytesWorld_size]; omega, fun k hk => Lib.bytesWorld_at_old w 5 s k hk⟩

theorem be_take (k x j : Nat) (h : j < k) : (be k x).take (j + 1) = (be k x).take j ++ [UInt8.ofNat (x / 256 ^ (k - 1 - j))] := by
  induction k generalizing j with
  | zero => omega
  | succ k ih =>
    cases j with
    | zero => simp [be]
    | succ j =>
      have := ih j (by omega)
      simp only [be, List.take_succ_cons, List.cons_append, List.cons.injEq, true_and]
      rw [this, show k + 1 - 1 - (j + 1) = k - 1 - j by omega]
theorem byte_shift (n r : Nat) : Lib.byteCells [UInt8.ofNat (n * 8 / 256 ^ r)] = [.int .u8 ((n : Int) * 8 / 2 ^ (8 * r) % 256)] := by
  have e : (2 : Int) ^ (8 * r) = ((256 ^ r : Nat) : Int) := by rw [Int.pow_mul]; simp
  simp only [Lib.byteCells, List.map_cons, List.map_nil, UInt8.toNat_ofNat', e]
  congr 2
theorem byte_none (n r : Nat) (hn : n ≤ 1048576) (h : 8 ≤ r) : UInt8.ofNat (n * 8 / 256 ^ r) = 0 := by
  have h1 : 256 ^ 8 ≤ 256 ^ r := Nat.pow_le_pow_right (by omega) h
  have h2 : n * 8 / 256 ^ r = 0 := Nat.div_eq_of_lt (Nat.lt_of_lt_of_le (by omega : n * 8 < 256 ^ 8) h1)
  rw [h2]; rfl
theorem snoc3 (a b l : List UInt8) (x : UInt8) : Lib.byteCells (a ++ 128 :: (b ++ l)) ++ Lib.byteCells [x] = Lib.byteCells (a ++ 128 :: (b ++ (l ++ [x]))) := by
  simp [Lib.byteCells]
def sliceLen (v : Value) : Nat := match v with | .slice _ n _ => n | _ => 0

set_option maxHeartbeats 1000000 in
theorem full64_any (s : ByteArray) (w : World) (hs : s.size ≤ 1048576) :
    Calls Tryd.prog 35 #[.string s, .int .i64 64, .int .i64 8] w fun e w' => ∃ ao cap, e = .returned (.slice ao (s.size + (padL 64 8 s.size).length) cap) ∧ Own w' w.heap.size (.slice ao (s.size + (padL 64 8 s.size).length) cap) (Lib.byteCells (s.data.toList ++ padL 64 8 s.size)) ∧ Below w.heap.size w w' := by
  obtain ⟨i0, hi, hz0, hz1, hz2⟩ := info_parts info_u8
  obtain ⟨ao0, cap0, hcv, hown0, hb0⟩ := run_convert_string_bytes_own s w
  obtain ⟨z, hz⟩ : ∃ z, (2 * 64 - (s.size % 64 + 1 + 8)) % 64 = z := ⟨_, rfl⟩
  have hz64 : z < 64 := by omega
  have HPL := Lib.hid (show padL 64 8 s.size = 128 :: (List.replicate z 0 ++ be 8 (s.size * 8)) from by rw [padL, hz])
  have HZ := Lib.hid hz
  generalize hBB : w.heap.size = B at *
  have HBB := Lib.hid hBB
  have hsz0 : B ≤ (Lib.bytesWorld w 5 s).heap.size := by rw [← hBB]; exact hb0.size
  generalize Lib.bytesWorld w 5 s = W0 at *
  have HO0 := Lib.hid hown0
  have hl0 : (Lib.byteCells s.data.toList).length = s.size := by rw [Lib.byteCells_length, ← Lib.size_eq]
  have HL0 := Lib.hid hl0
  clear hBB hz hown0 hl0
  go_enter Tryd.func35, Tryd.ntmps35
  go_wp2_with (at_builtin; refine wpList_append_sl rfl (.tmp 12) (.tmp 13) 46 rfl B 5 i0 (.int .u8 0) 1 Tryd.underlying46 hi hz0 hz1 hz2 rfl ao0 s.size cap0 _ rfl (HO0.out.alloc _) HL0.out ⟨W0.heap.size, 0, none⟩ 1 1 [.int .u8 128] rfl rfl (cell_one_new _ _ _) ?c2 ?c3 ?c4 ?c5 ?_)
  case c2 => intro u hu; simp at hu; subst hu; rfl
  case c3 => omega
  case c4 => omega
  case c5 => simp; omega
  intro ao1 cap1 W1 hown1 hgrow1
  have hb1 : Below B w W1 := below_append (hb0.alloc hsz0 _) (by simp; omega) (HO0.out.alloc _) hgrow1
  have hsz1 : B ≤ W1.heap.size := by have := hgrow1.size; simp at this; omega
  have e1 : Lib.byteCells s.data.toList ++ [.int .u8 128] = Lib.byteCells (s.data.toList ++ 128 :: List.replicate 0 0) := by rw [Lib.byteCells_append]; rfl
  rw [e1] at hown1
  have HO1 := Lib.hid hown1
  clear e1 hown1 hgrow1 HO0 hb0 hcv hsz0
  go_wp2_with fail
  go_loopw [7] (fun v wr => ∃ (q : Nat) (ao : Option Addr) (cap : Nat), q ≤ z ∧ v = .slice ao (s.size + 1 + q) cap ∧ Own wr B (.slice ao (s.size + 1 + q) cap) (Lib.byteCells (s.data.toList ++ 128 :: List.replicate q 0)) ∧ Below B w wr ∧ B ≤ wr.heap.size) (fun v _ => z + s.size + 1 - sliceLen v)
  case atStart => exact ⟨0, ao1, cap1, by omega, rfl, HO1.out, hb1, hsz1⟩
  case round =>
    clear HO1 hb1 hsz1
    obtain ⟨q, ao, cap, hq, rfl, hown, hb, hsz⟩ := hrel
    have HO := Lib.hid hown
    clear hown
    have hl : (Lib.byteCells (s.data.toList ++ 128 :: List.replicate q 0)).length = s.size + 1 + q := by rw [Lib.byteCells_length, List.length_append, ← Lib.size_eq]; simp; omega
    have HL := Lib.hid hl
    clear hl
    have hzz := HZ.out
    by_cases hqz : q < z
    · have hd : (((s.size : Int) + 1 + (q : Int) + 8) % 64 != 0) = true := by rw [bne_iff_ne]; omega
      clear hzz
      go_wp2_with (at_builtin; refine wpList_append_sl rfl (.tmp 22) (.tmp 23) 46 rfl B 5 i0 (.int .u8 0) 1 Tryd.underlying46 hi hz0 hz1 hz2 rfl ao (s.size + 1 + q) cap _ rfl (HO.out.alloc _) HL.out ⟨wr.heap.size, 0, none⟩ 1 1 [.int .u8 0] rfl rfl (cell_one_new _ _ _) ?d2 ?d3 ?d4 ?d5 ?_)
      case d2 => intro u hu; simp at hu; subst hu; rfl
      case d3 => omega
      case d4 => omega
      case d5 => simp; omega
      intro ao2 cap2 W2 hown2 hgrow2
      have hb2 : Below B w W2 := below_append (hb.alloc hsz _) (by simp; omega) (HO.out.alloc _) hgrow2
      have hsz2 : B ≤ W2.heap.size := by have := hgrow2.size; simp at this; omega
      have e2 : Lib.byteCells (s.data.toList ++ 128 :: List.replicate q 0) ++ [.int .u8 0] = Lib.byteCells (s.data.toList ++ 128 :: List.replicate (q + 1) 0) := by
        rw [List.replicate_succ', ← List.cons_append, ← List.append_assoc, Lib.byteCells_append (s.data.toList ++ 128 :: List.replicate q 0)]; rfl
      rw [e2] at hown2
      clear e2 hgrow2 HO hb hsz HL
      go_wp2_with fail
      go_roundw
      case rel => exact ⟨q + 1, ao2, cap2, by omega, rfl, hown2, hb2, hsz2⟩
      case measure => simp [sliceLen]; omega
    · have hd : (((s.size : Int) + 1 + (q : Int) + 8) % 64 != 0) = false := by
        have : ((s.size : Int) + 1 + (q : Int) + 8) % 64 = 0 := by omega
        simp [this]
      obtain rfl : q = z := by omega
      clear hzz
      go_wp2_with fail
      go_loopw [7, 9] (fun v i wr => ∃ (j r : Nat) (ao : Option Addr) (cap : Nat), j + r = 8 ∧ i = .int .i64 ((r : Int) - 1) ∧ v = .slice ao (s.size + 1 + q + j) cap ∧ Own wr B (.slice ao (s.size + 1 + q + j) cap) (Lib.byteCells (s.data.toList ++ 128 :: (List.replicate q 0 ++ (be 8 (s.size * 8)).take j))) ∧ Below B w wr ∧ B ≤ wr.heap.size) (fun _ i _ => (intOf i + 1).toNat)
      case atStart => exact ⟨0, 8, ao, cap, by omega, rfl, rfl, by simpa using HO.out, hb, hsz⟩
      case round =>
        clear HO hb hsz HL hd
        obtain ⟨j, r, ao3, cap3, hjr, rfl, rfl, hown, hb, hsz⟩ := hrel
        have HO := Lib.hid hown
        clear hown
        have hl : (Lib.byteCells (s.data.toList ++ 128 :: (List.replicate q 0 ++ (be 8 (s.size * 8)).take j))).length = s.size + 1 + q + j := by
          rw [Lib.byteCells_length, List.length_append, ← Lib.size_eq]; simp [be_length]; omega
        have HL := Lib.hid hl
        have HJR := Lib.hid hjr
        by_cases hr : 0 < r
        · obtain ⟨r, rfl⟩ : ∃ r', r = r' + 1 := ⟨r - 1, by omega⟩
          have hd : decide ((0 : Int) ≤ (r : Int) + 1 - 1) = true := by simp
          have HB := Lib.hid (be_take 8 (s.size * 8) j (by omega))
          have HR := Lib.hid (show 8 - 1 - j = r from by omega)
          have hr15 : (r : Int) < 8 := by omega
          have hj8 : j ≤ 8 := by omega
          clear hl hjr
          by_cases hr7 : r ≤ 7
          · have hd7 : decide ((7 : Int) < (r : Int)) = false := by simp; omega
            have hr7' : (r : Int) ≤ 7 := by omega
            go_wp2_with (at_builtin; refine wpList_append_sl rfl (.tmp 39) (.tmp 45) 46 rfl B 5 i0 (.int .u8 0) 1 Tryd.underlying46 hi hz0 hz1 hz2 rfl ao3 (s.size + 1 + q + j) cap3 _ rfl (HO.out.alloc _) HL.out ⟨wr.heap.size, 0, none⟩ 1 1 [.int .u8 ((s.size : Int) * 8 / 2 ^ (8 * r) % 256)] rfl rfl (cell_one_new _ _ _) ?f2 ?f3 ?f4 ?f5 ?_)
            case f2 => intro u hu; simp at hu; subst hu; rfl
            case f3 => omega
            case f4 => omega
            case f5 => simp; omega
            intro ao4 cap4 W4 hown4 hgrow4
            have hb4 : Below B w W4 := below_append (hb.alloc hsz _) (by simp; omega) (HO.out.alloc _) hgrow4
            have hsz4 : B ≤ W4.heap.size := by have := hgrow4.size; simp at this; omega
            have e4 : Lib.byteCells (s.data.toList ++ 128 :: (List.replicate q 0 ++ (be 8 (s.size * 8)).take j)) ++ [.int .u8 ((s.size : Int) * 8 / 2 ^ (8 * r) % 256)] = Lib.byteCells (s.data.toList ++ 128 :: (List.replicate q 0 ++ (be 8 (s.size * 8)).take (j + 1))) := by
              rw [HB.out, HR.out, ← snoc3, byte_shift]
            rw [e4] at hown4
            clear e4 hgrow4 HO hb hsz HL
            go_wp2_with fail
            go_roundw
            case rel => exact ⟨j + 1, r, ao4, cap4, by have := HJR.out; omega, by go_num, rfl, hown4, hb4, hsz4⟩
            case measure => simp [intOf]
          · omega
        · obtain rfl : r = 0 := by omega
          obtain rfl : j = 8 := by omega
          have hd : decide ((0 : Int) ≤ ((0 : Nat) : Int) - 1) = false := by simp
          have HE := Lib.hid (show s.data.toList ++ 128 :: (List.replicate q 0 ++ (be 8 (s.size * 8)).take 8) = s.data.toList ++ padL 64 8 s.size from by
            rw [HPL.out, List.take_of_length_le (by rw [be_length]; omega)])
          have HLn := Lib.hid (show (padL 64 8 s.size).length = 1 + q + 8 from by rw [HPL.out]; simp [be_length]; omega)
          clear hl hjr
          go_wp2_with fail
          go_ret
          refine ⟨ao3, cap3, ?_, ?_, hb⟩
          · rw [HLn.out, ← Nat.add_assoc, ← Nat.add_assoc]; rfl
          · rw [HLn.out, ← HE.out, ← Nat.add_assoc, ← Nat.add_assoc]; exact HO.out

set_option maxHeartbeats 1000000 in
theorem full128_any (s : ByteArray) (w : World) (hs : s.size ≤ 1048576) :
    Calls Tryd.prog 35 #[.string s, .int .i64 128, .int .i64 16] w fun e w' => ∃ ao cap, e = .returned (.slice ao (s.size + (padL 128 16 s.size).length) cap) ∧ Own w' w.heap.size (.slice ao (s.size + (padL 128 16 s.size).length) cap) (Lib.byteCells (s.data.toList ++ padL 128 16 s.size)) ∧ Below w.heap.size w w' := by
  obtain ⟨i0, hi, hz0, hz1, hz2⟩ := info_parts info_u8
  obtain ⟨ao0, cap0, hcv, hown0, hb0⟩ := run_convert_string_bytes_own s w
  obtain ⟨z, hz⟩ : ∃ z, (2 * 128 - (s.size % 128 + 1 + 16)) % 128 = z := ⟨_, rfl⟩
  have hz64 : z < 128 := by omega
  have HPL := Lib.hid (show padL 128 16 s.size = 128 :: (List.replicate z 0 ++ be 16 (s.size * 8)) from by rw [padL, hz])
  have HZ := Lib.hid hz
  generalize hBB : w.heap.size = B at *
  have HBB := Lib.hid hBB
  have hsz0 : B ≤ (Lib.bytesWorld w 5 s).heap.size := by rw [← hBB]; exact hb0.size
  generalize Lib.bytesWorld w 5 s = W0 at *
  have HO0 := Lib.hid hown0
  have hl0 : (Lib.byteCells s.data.toList).length = s.size := by rw [Lib.byteCells_length, ← Lib.size_eq]
  have HL0 := Lib.hid hl0
  clear hBB hz hown0 hl0
  go_enter Tryd.func35, Tryd.ntmps35
  go_wp2_with (at_builtin; refine wpList_append_sl rfl (.tmp 12) (.tmp 13) 46 rfl B 5 i0 (.int .u8 0) 1 Tryd.underlying46 hi hz0 hz1 hz2 rfl ao0 s.size cap0 _ rfl (HO0.out.alloc _) HL0.out ⟨W0.heap.size, 0, none⟩ 1 1 [.int .u8 128] rfl rfl (cell_one_new _ _ _) ?c2 ?c3 ?c4 ?c5 ?_)
  case c2 => intro u hu; simp at hu; subst hu; rfl
  case c3 => omega
  case c4 => omega
  case c5 => simp; omega
  intro ao1 cap1 W1 hown1 hgrow1
  have hb1 : Below B w W1 := below_append (hb0.alloc hsz0 _) (by simp; omega) (HO0.out.alloc _) hgrow1
  have hsz1 : B ≤ W1.heap.size := by have := hgrow1.size; simp at this; omega
  have e1 : Lib.byteCells s.data.toList ++ [.int .u8 128] = Lib.byteCells (s.data.toList ++ 128 :: List.replicate 0 0) := by rw [Lib.byteCells_append]; rfl
  rw [e1] at hown1
  have HO1 := Lib.hid hown1
  clear e1 hown1 hgrow1 HO0 hb0 hcv hsz0
  go_wp2_with fail
  go_loopw [7] (fun v wr => ∃ (q : Nat) (ao : Option Addr) (cap : Nat), q ≤ z ∧ v = .slice ao (s.size + 1 + q) cap ∧ Own wr B (.slice ao (s.size + 1 + q) cap) (Lib.byteCells (s.data.toList ++ 128 :: List.replicate q 0)) ∧ Below B w wr ∧ B ≤ wr.heap.size) (fun v _ => z + s.size + 1 - sliceLen v)
  case atStart => exact ⟨0, ao1, cap1, by omega, rfl, HO1.out, hb1, hsz1⟩
  case round =>
    clear HO1 hb1 hsz1
    obtain ⟨q, ao, cap, hq, rfl, hown, hb, hsz⟩ := hrel
    have HO := Lib.hid hown
    clear hown
    have hl : (Lib.byteCells (s.data.toList ++ 128 :: List.replicate q 0)).length = s.size + 1 + q := by rw [Lib.byteCells_length, List.length_append, ← Lib.size_eq]; simp; omega
    have HL := Lib.hid hl
    clear hl
    have hzz := HZ.out
    by_cases hqz : q < z
    · have hd : (((s.size : Int) + 1 + (q : Int) + 16) % 128 != 0) = true := by rw [bne_iff_ne]; omega
      clear hzz
      go_wp2_with (at_builtin; refine wpList_append_sl rfl (.tmp 22) (.tmp 23) 46 rfl B 5 i0 (.int .u8 0) 1 Tryd.underlying46 hi hz0 hz1 hz2 rfl ao (s.size + 1 + q) cap _ rfl (HO.out.alloc _) HL.out ⟨wr.heap.size, 0, none⟩ 1 1 [.int .u8 0] rfl rfl (cell_one_new _ _ _) ?d2 ?d3 ?d4 ?d5 ?_)
      case d2 => intro u hu; simp at hu; subst hu; rfl
      case d3 => omega
      case d4 => omega
      case d5 => simp; omega
      intro ao2 cap2 W2 hown2 hgrow2
      have hb2 : Below B w W2 := below_append (hb.alloc hsz _) (by simp; omega) (HO.out.alloc _) hgrow2
      have hsz2 : B ≤ W2.heap.size := by have := hgrow2.size; simp at this; omega
      have e2 : Lib.byteCells (s.data.toList ++ 128 :: List.replicate q 0) ++ [.int .u8 0] = Lib.byteCells (s.data.toList ++ 128 :: List.replicate (q + 1) 0) := by
        rw [List.replicate_succ', ← List.cons_append, ← List.append_assoc, Lib.byteCells_append (s.data.toList ++ 128 :: List.replicate q 0)]; rfl
      rw [e2] at hown2
      clear e2 hgrow2 HO hb hsz HL
      go_wp2_with fail
      go_roundw
      case rel => exact ⟨q + 1, ao2, cap2, by omega, rfl, hown2, hb2, hsz2⟩
      case measure => simp [sliceLen]; omega
    · have hd : (((s.size : Int) + 1 + (q : Int) + 16) % 128 != 0) = false := by
        have : ((s.size : Int) + 1 + (q : Int) + 16) % 128 = 0 := by omega
        simp [this]
      obtain rfl : q = z := by omega
      clear hzz
      go_wp2_with fail
      go_loopw [7, 9] (fun v i wr => ∃ (j r : Nat) (ao : Option Addr) (cap : Nat), j + r = 16 ∧ i = .int .i64 ((r : Int) - 1) ∧ v = .slice ao (s.size + 1 + q + j) cap ∧ Own wr B (.slice ao (s.size + 1 + q + j) cap) (Lib.byteCells (s.data.toList ++ 128 :: (List.replicate q 0 ++ (be 16 (s.size * 8)).take j))) ∧ Below B w wr ∧ B ≤ wr.heap.size) (fun _ i _ => (intOf i + 1).toNat)
      case atStart => exact ⟨0, 16, ao, cap, by omega, rfl, rfl, by simpa using HO.out, hb, hsz⟩
      case round =>
        clear HO hb hsz HL hd
        obtain ⟨j, r, ao3, cap3, hjr, rfl, rfl, hown, hb, hsz⟩ := hrel
        have HO := Lib.hid hown
        clear hown
        have hl : (Lib.byteCells (s.data.toList ++ 128 :: (List.replicate q 0 ++ (be 16 (s.size * 8)).take j))).length = s.size + 1 + q + j := by
          rw [Lib.byteCells_length, List.length_append, ← Lib.size_eq]; simp [be_length]; omega
        have HL := Lib.hid hl
        have HJR := Lib.hid hjr
        by_cases hr : 0 < r
        · obtain ⟨r, rfl⟩ : ∃ r', r = r' + 1 := ⟨r - 1, by omega⟩
          have hd : decide ((0 : Int) ≤ (r : Int) + 1 - 1) = true := by simp
          have HB := Lib.hid (be_take 16 (s.size * 8) j (by omega))
          have HR := Lib.hid (show 16 - 1 - j = r from by omega)
          have hr15 : (r : Int) < 16 := by omega
          have hj8 : j ≤ 16 := by omega
          clear hl hjr
          by_cases hr7 : r ≤ 7
          · have hd7 : decide ((7 : Int) < (r : Int)) = false := by simp; omega
            have hr7' : (r : Int) ≤ 7 := by omega
            go_wp2_with (at_builtin; refine wpList_append_sl rfl (.tmp 39) (.tmp 45) 46 rfl B 5 i0 (.int .u8 0) 1 Tryd.underlying46 hi hz0 hz1 hz2 rfl ao3 (s.size + 1 + q + j) cap3 _ rfl (HO.out.alloc _) HL.out ⟨wr.heap.size, 0, none⟩ 1 1 [.int .u8 ((s.size : Int) * 8 / 2 ^ (8 * r) % 256)] rfl rfl (cell_one_new _ _ _) ?f2 ?f3 ?f4 ?f5 ?_)
            case f2 => intro u hu; simp at hu; subst hu; rfl
            case f3 => omega
            case f4 => omega
            case f5 => simp; omega
            intro ao4 cap4 W4 hown4 hgrow4
            have hb4 : Below B w W4 := below_append (hb.alloc hsz _) (by simp; omega) (HO.out.alloc _) hgrow4
            have hsz4 : B ≤ W4.heap.size := by have := hgrow4.size; simp at this; omega
            have e4 : Lib.byteCells (s.data.toList ++ 128 :: (List.replicate q 0 ++ (be 16 (s.size * 8)).take j)) ++ [.int .u8 ((s.size : Int) * 8 / 2 ^ (8 * r) % 256)] = Lib.byteCells (s.data.toList ++ 128 :: (List.replicate q 0 ++ (be 16 (s.size * 8)).take (j + 1))) := by
              rw [HB.out, HR.out, ← snoc3, byte_shift]
            rw [e4] at hown4
            clear e4 hgrow4 HO hb hsz HL
            go_wp2_with fail
            go_roundw
            case rel => exact ⟨j + 1, r, ao4, cap4, by have := HJR.out; omega, by go_num, rfl, hown4, hb4, hsz4⟩
            case measure => simp [intOf]
          · have hd7 : decide ((7 : Int) < (r : Int)) = true := by simp; omega
            have HX0 := Lib.hid (byte_none s.size r hs (by omega))
            go_wp2_with (at_builtin; refine wpList_append_sl rfl (.tmp 36) (.tmp 37) 46 rfl B 5 i0 (.int .u8 0) 1 Tryd.underlying46 hi hz0 hz1 hz2 rfl ao3 (s.size + 1 + q + j) cap3 _ rfl (HO.out.alloc _) HL.out ⟨wr.heap.size, 0, none⟩ 1 1 [.int .u8 (0)] rfl rfl (cell_one_new _ _ _) ?g2 ?g3 ?g4 ?g5 ?_)
            case g2 => intro u hu; simp at hu; subst hu; rfl
            case g3 => omega
            case g4 => omega
            case g5 => simp; omega
            intro ao4 cap4 W4 hown4 hgrow4
            have hb4 : Below B w W4 := below_append (hb.alloc hsz _) (by simp; omega) (HO.out.alloc _) hgrow4
            have hsz4 : B ≤ W4.heap.size := by have := hgrow4.size; simp at this; omega
            have e4 : Lib.byteCells (s.data.toList ++ 128 :: (List.replicate q 0 ++ (be 16 (s.size * 8)).take j)) ++ [.int .u8 (0)] = Lib.byteCells (s.data.toList ++ 128 :: (List.replicate q 0 ++ (be 16 (s.size * 8)).take (j + 1))) := by
              rw [HB.out, HR.out, ← snoc3, HX0.out]; rfl
            rw [e4] at hown4
            clear e4 hgrow4 HO hb hsz HL
            go_wp2_with fail
            go_roundw
            case rel => exact ⟨j + 1, r, ao4, cap4, by have := HJR.out; omega, by go_num, rfl, hown4, hb4, hsz4⟩
            case measure => simp [intOf]
        · obtain rfl : r = 0 := by omega
          obtain rfl : j = 16 := by omega
          have hd : decide ((0 : Int) ≤ ((0 : Nat) : Int) - 1) = false := by simp
          have HE := Lib.hid (show s.data.toList ++ 128 :: (List.replicate q 0 ++ (be 16 (s.size * 8)).take 16) = s.data.toList ++ padL 128 16 s.size from by
            rw [HPL.out, List.take_of_length_le (by rw [be_length]; omega)])
          have HLn := Lib.hid (show (padL 128 16 s.size).length = 1 + q + 16 from by rw [HPL.out]; simp [be_length]; omega)
          clear hl hjr
          go_wp2_with fail
          go_ret
          refine ⟨ao3, cap3, ?_, ?_, hb⟩
          · rw [HLn.out, ← Nat.add_assoc, ← Nat.add_assoc]; rfl
          · rw [HLn.out, ← HE.out, ← Nat.add_assoc, ← Nat.add_assoc]; exact HO.out
end Go.Proofs.YthcfolefdalaiaaDoor
