/- The reference's Size and Nonce. -/
import Derived.Test.YtffnafikegakcaaGreatDoorSealA
namespace Go.Proofs.YtffnafikegakcaaGreatDoor
section
open Go.RowKit Go.Sort
set_option maxRecDepth 100000
set_option linter.unusedSimpArgs false
set_option linter.unusedVariables false

set_option maxHeartbeats 1000000 in
theorem rSize_any (n : Int) (w : World) :
    Calls Tryz.prog 21 #[.int .i64 n] w fun e w' => e = .returned (.int .i64 (sizeS n)) ∧ w = w' := by
  by_cases h1 : n = 4865
  · subst h1
    go_enter Tryz.func21, Tryz.ntmps21
    go_wp2_with fail
    go_ret
    exact ⟨rfl, rfl⟩
  · have d1 : (n == 4865) = false := by simpa using h1
    by_cases h2 : n = 4867
    · subst h2
      go_enter Tryz.func21, Tryz.ntmps21
      go_wp2_with fail
      go_ret
      exact ⟨rfl, rfl⟩
    · have d2 : (n == 4867) = false := by simpa using h2
      have HS : Hid (sizeS n = 0) := Lib.hid (by rw [sizeS, if_neg h1, if_neg h2])
      rw [HS.out]
      go_enter Tryz.func21, Tryz.ntmps21
      go_wp2_with fail
      go_ret
      exact ⟨rfl, rfl⟩

set_option maxHeartbeats 1000000 in
theorem rNonceKey_any (iv : ByteArray) (n : Int) (w : World) (hs : iv.size ≠ 12) :
    Calls Tryz.prog 30 #[.string iv, .int .i64 n] w fun e w' => e = .returned (.tuple #[.string ⟨#[]⟩, .int .i64 21]) ∧ w = w' := by
  have d1 : ((iv.size : Int) != 12) = true := by simp; omega
  go_enter Tryz.func30, Tryz.ntmps30
  go_wp2_with fail
  go_ret2
  exact ⟨rfl, rfl⟩
set_option maxHeartbeats 1000000 in
theorem rNonceArg_any (iv : ByteArray) (n : Int) (w : World) (hs : iv.size = 12) (hn : n < 0) :
    Calls Tryz.prog 30 #[.string iv, .int .i64 n] w fun e w' => e = .returned (.tuple #[.string ⟨#[]⟩, .int .i64 1]) ∧ w = w' := by
  have d1 : ((iv.size : Int) != 12) = false := by simp; omega
  have d2 : decide (n < 0) = true := by simp; omega
  go_enter Tryz.func30, Tryz.ntmps30
  go_wp2_with fail
  go_ret2
  exact ⟨rfl, rfl⟩

set_option maxHeartbeats 2000000 in
theorem rNonce_any (iv : ByteArray) (n : Nat) (w : World) (hs : iv.size = 12) (hn : n < 9223372036854775808) :
    Calls Tryz.prog 30 #[.string iv, .int .i64 (n : Int)] w fun e w' => e = .returned (.tuple #[.string ⟨(nonS iv.data.toList n 8).toArray⟩, .int .i64 0]) ∧ Below w.heap.size w w' := by
  have d1 : ((iv.size : Int) != 12) = false := by simp; omega
  have d2 : decide ((n : Int) < 0) = false := by simp
  have HL : Hid (iv.data.toList.length = 12) := Lib.hid (by rw [← Lib.size_eq]; exact hs)
  obtain ⟨cap, hcv, hown, hbo⟩ := run_convert_string_bytes_at iv w
  rw [hs] at hcv
  clear hs
  go_enter Tryz.func30, Tryz.ntmps30
  go_wp2_with fail
  have HO := Lib.hid hown; have HB := Lib.hid hbo
  clear hown hbo hcv
  generalize (Lib.bytesWorld _ _ _) = W0 at *
  go_loopw [7] (fun i wr => ∃ k : Nat, k ≤ 8 ∧ i = .int .i64 (k : Int) ∧ OwnS wr w.heap.size w.heap.size cap (Lib.byteCells (nonS iv.data.toList n k)) ∧ Below w.heap.size w wr) (fun i _ => 8 - (intOf i).toNat)
  case atStart => exact ⟨0, by omega, rfl, HO.out, HB.out⟩
  case round =>
    obtain ⟨k, hk, rfl, hown, hb⟩ := hrel
    have HC : Hid ((nonS iv.data.toList n k).length = 12) := Lib.hid (by rw [nonS_length]; exact HL.out)
    by_cases hlt : k < 8
    · have hd : decide ((k : Int) < 8) = true := by simp; omega
      have cp := sown_at hown (11 - k) (by rw [HC.out]; omega)
      have hpl : 11 - k < (Lib.byteCells (nonS iv.data.toList n k)).length := by rw [Lib.byteCells_length, HC.out]; omega
      have fp := (hown.room (11 - k) (Nat.lt_of_lt_of_le hpl hown.le)).2
      have e1 : ((11 : Int) - (k : Int)).toNat = 11 - k := by omega
      have e2 : (8 * (k : Int)).toNat = 8 * k := by omega
      have HX := Lib.hid (non_byte n k ((nonS iv.data.toList n k).getD (11 - k) 0))
      have HN : Hid ((Lib.byteCells (nonS iv.data.toList n k)).set (11 - k) (.int .u8 (((nonS iv.data.toList n k).getD (11 - k) 0 ^^^ wbyte (n : Int) (8 * k)).toNat : Int)) = Lib.byteCells (nonS iv.data.toList n (k + 1))) := Lib.hid (by
        rw [Lib.byteCells, ← List.map_set (f := fun x : UInt8 => Value.int .u8 (x.toNat : Int))]; rfl)
      rw [← HX.out] at HN
      have HPL := Lib.hid hpl
      have hgl : w.heap.size < wr.heap.size := hown.lt (by have := hown.le; omega)
      have HOW := Lib.hid hown
      clear hpl hown HO HB
      generalize (nonS iv.data.toList n k).getD (11 - k) 0 = x at *
      go_wp2_with fail
      have q1 := cell_regrown cp
      refine wp_region_reads_tail 15 (by kernel_rfl) (by kernel_rfl) ?_
      simp only [List.take_succ_cons, List.take_zero, List.drop_succ_cons, List.drop_zero]
      repeat (first | go_big_quiet_step (fail) | quiet_step (fail))
      refine wpQuiet_nil ?_
      intro W4 hb4
      have hOS4 := HOW.out.keep (hb4.block w.heap.size hgl)
      have c4 : W4.cell? ⟨w.heap.size, 11 - k, none⟩ = some (.int .u8 (x.toNat : Int)) := (hb4.cell (p := ⟨w.heap.size, 11 - k, none⟩) hgl).trans cp
      have f4 : W4.frozen? ⟨w.heap.size, 11 - k, none⟩ = false := (hb4.frozen (p := ⟨w.heap.size, 11 - k, none⟩) hgl).trans fp
      have hput := hOS4.put (11 - k) HPL.out (.int .u8 (bits .xor .u8 (x.toNat : Int) ((n : Int) / 2 ^ (8 * k) % 256)))
      rw [HN.out] at hput
      have hb5 : Below w.heap.size w (W4.setCell ⟨w.heap.size, 11 - k, none⟩ (.int .u8 (bits .xor .u8 (x.toNat : Int) ((n : Int) / 2 ^ (8 * k) % 256)))) := (hb.trans (hb4.mono (by omega))).setCell (by simp) _
      have HP := Lib.hid hput
      clear q1 hb4 hb hput hOS4 HN HX HOW cp fp hgl
      go_wp2_with fail
      go_roundw
      case rel => exact ⟨k + 1, by omega, by go_num, HP.out, hb5⟩
      case measure => simp [intOf]; omega
    · have hd : decide ((k : Int) < 8) = false := by simp; omega
      obtain rfl : k = 8 := by omega
      have hcv := run_string_at wr w.heap.size 0 cap 12 (nonS iv.data.toList n 8) HC.out (fun j x hx => by
        rw [Nat.zero_add]
        exact hown.cells j _ (by simp [Lib.byteCells, hx]))
      clear hown HO HB
      go_wp2_with fail
      go_ret2
      exact ⟨rfl, hb⟩
end
end Go.Proofs.YtffnafikegakcaaGreatDoor
