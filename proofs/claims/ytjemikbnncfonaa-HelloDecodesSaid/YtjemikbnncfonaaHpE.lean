/- Package hello: bigEndian and counted. -/
import Derived.Test.YtjemikbnncfonaaHpN
import Derived.Laws.MakeOwn
namespace Go.Proofs.Ytjemikbnncfonaa
open Go.RowKit Go.Sort
set_option maxRecDepth 100000
set_option linter.unusedSimpArgs false
set_option linter.unusedVariables false

/-- A number in so many bytes, the greatest first. -/
def beL (wd : Nat) (n : Int) : List UInt8 := (List.range wd).map fun j => wbyte n (8 * (wd - 1 - j))
theorem beL_length (wd : Nat) (n : Int) : (beL wd n).length = wd := by simp [beL]
/-- The bytes while they are laid, from the last one on. -/
def outW (wd : Nat) (n : Int) (k : Nat) : List UInt8 := List.replicate (wd - k) 0 ++ (beL wd n).drop (wd - k)
theorem outW_length (wd : Nat) (n : Int) (k : Nat) (h : k ≤ wd) : (outW wd n k).length = wd := by simp [outW, beL_length] <;> omega
theorem outW_set (wd : Nat) (n : Int) (k : Nat) (h : k < wd) : (outW wd n k).set (wd - 1 - k) (wbyte n (8 * k)) = outW wd n (k + 1) := by
  have e : List.replicate (wd - k) (0 : UInt8) = List.replicate (wd - (k + 1)) 0 ++ [0] := by rw [show wd - k = (wd - (k + 1)) + 1 by omega, List.replicate_succ']
  have hd : (beL wd n).drop (wd - (k + 1)) = wbyte n (8 * k) :: (beL wd n).drop (wd - k) := by
    have hj : wd - (k + 1) < (beL wd n).length := by rw [beL_length]; omega
    rw [List.drop_eq_getElem_cons hj, show wd - (k + 1) + 1 = wd - k by omega]
    congr 1
    simp only [beL, List.getElem_map, List.getElem_range]
    congr 2
    omega
  rw [outW, e, outW, hd, List.append_assoc, List.set_append, if_neg (by simp; omega)]
  rw [List.length_replicate, show wd - 1 - k - (wd - (k + 1)) = 0 by omega]
  rfl
theorem outW_full (wd : Nat) (n : Int) : outW wd n wd = beL wd n := by simp [outW]
theorem outW_none (wd : Nat) (n : Int) : outW wd n 0 = List.replicate wd 0 := by simp [outW, beL_length]
theorem make_bytes (W : World) (n : Nat) (hn : n ≤ 1048576) : (Instr.makeSlice 44 (.int .i64 (n : Int)) (.int .i64 (n : Int))).run Try.prog W = .ok (.slice (some ⟨W.heap.size, 0, none⟩) n n) (W.alloc (.cells (bcells (List.replicate n 0)) 5)) := by
  obtain ⟨i0, hi, hz0, hz1, hz2⟩ := info_parts info_u8
  have h := run_makeSlice W 44 5 i0 (.int .u8 0) Try.underlying44 hi hz0 .i64 .i64 n n (by omega) (by omega) (by rw [hz1]; omega) (by rw [hz2]; omega) (by omega)
  rw [hz1, made_zero, Int.toNat_natCast, Nat.mul_one] at h
  exact h
set_option maxHeartbeats 2000000 in
theorem bigEnd_any (wd : Nat) (n : Int) (w : World) (hw : 1 ≤ wd) (hw8 : wd ≤ 8) :
    Calls Try.prog 27 #[.int .i64 (wd : Int), .int .i64 n] w fun e w' => e = .returned (.string (toB (beL wd n))) ∧ Below w.heap.size w w' := by
  have hmk := make_bytes w wd (by omega)
  have HO0 := Lib.hid (blk_new w (.cells (bcells (List.replicate wd 0)) 5))
  have hb0 := below_new w (.cells (bcells (List.replicate wd 0)) 5)
  have HZ := Lib.hid (outW_none wd n)
  have HK := Lib.hid (outW_set wd n)
  have HL := Lib.hid (outW_length wd n)
  go_enter Try.func27, Try.ntmps27
  go_wp2_with fail
  clear hmk
  generalize (w.alloc _) = W0 at *
  generalize hBB : w.heap.size = B at *
  have HBB := Lib.hid hBB
  clear hBB
  go_loopw [6, 11] (fun jv iv wr => ∃ k : Nat, k ≤ wd ∧ iv = .int .i64 (k : Int) ∧ wr.heap[B]? = some (.cells (bcells (outW wd n k)) 5) ∧ Below B w wr) (fun _ iv _ => wd - (intOf iv).toNat)
  case atStart => exact ⟨0, by omega, rfl, by rw [HZ.out]; exact HO0.out, hb0⟩
  case round =>
    clear HO0 hb0 HZ
    obtain ⟨k, hk, rfl, ho, hb⟩ := hrel
    have HO := Lib.hid ho
    clear ho
    by_cases hlt : k < wd
    · have hd : decide ((k : Int) < (wd : Int)) = true := by simp; omega
      obtain ⟨i, hii⟩ : ∃ i, i = wd - 1 - k := ⟨_, rfl⟩
      have hi7 : (wd : Int) - 1 - (k : Int) = (i : Int) := by omega
      have hs := HK.out k hlt
      rw [← hii] at hs
      have hv := wbyte_toNat n (8 * k)
      generalize wbyte n (8 * k) = b8 at *
      have r1 := bheap_set HO.out i b8
      rw [hs] at r1
      have co := bcell_at HO.out i (by rw [HL.out _ (by omega)]; omega)
      have fo := frozen_of_row wr B i _ _ HO.out
      have hi8 : i < wd := by omega
      have hi8i : (i : Int) < (wd : Int) := by omega
      have wm : IntKind.i64.wrap ((wd : Int) - 1) = (wd : Int) - 1 := by rw [IntKind.wrap_i64]; omega
      have wi : IntKind.i64.wrap (i : Int) = (i : Int) := by rw [IntKind.wrap_i64]; omega
      have hs0 : (0 : Int) ≤ 8 * (k : Int) := by omega
      have hw8 : IntKind.i64.wrap (8 * (k : Int)) = 8 * (k : Int) := by rw [IntKind.wrap_i64]; omega
      have hT : ((8 : Int) * (k : Int)).toNat = 8 * k := by omega
      have HO2 := Lib.hid r1
      have hb2 : Below B w (wr.setCell ⟨B, i, none⟩ (.int .u8 (b8.toNat : Int))) := hb.setCell (by simp) _
      have hvs := hv.symm
      clear r1 hb hs hii hv HK HL
      go_wp2_with fail
      go_roundw
      case rel => exact ⟨k + 1, by omega, by go_num, HO2.out, hb2⟩
      case measure => simp [intOf]; omega
    · have hd : decide ((k : Int) < (wd : Int)) = false := by simp; omega
      obtain rfl : k = wd := by omega
      rw [outW_full] at HO
      have hl := beL_length k n
      have hc := run_string_row wr B k (beL k n) (cells_of_bcells HO.out)
      rw [hl] at hc
      generalize hrow : beL k n = row at *
      have HROW := Lib.hid hrow
      clear HK HL hl hrow
      go_wp2_with fail
      go_ret
      exact ⟨by rw [HROW.out]; rfl, by rw [HBB.out]; exact hb⟩
theorem counted_any (wd : Nat) (s : ByteArray) (w : World) (hw : 1 ≤ wd) (hw8 : wd ≤ 8) (hs : s.size ≤ 10000000) :
    Calls Try.prog 28 #[.int .i64 (wd : Int), .string s] w fun e w' => e = .returned (.string (toB (beL wd s.size) ++ s)) ∧ Below w.heap.size w w' := by
  have hb := Below.refl w.heap.size w
  have CB := Lib.hid (fun W => bigEnd_any wd s.size W hw hw8)
  have hz := toB_size (beL wd s.size)
  rw [beL_length] at hz
  generalize toB (beL wd s.size) = t at *
  have hz2 : t.size + s.size ≤ 9223372036854775807 := by omega
  clear hz
  go_enter Try.func28, Try.ntmps28
  go_wp2_with fail
  refine (CB.out _).mono ?_
  rintro e W1 ⟨rfl, bk⟩
  replace hb := hb.trans (bk.mono hb.size)
  clear bk CB
  go_wp2_with fail
  go_ret
  exact ⟨rfl, hb⟩
theorem counted2_any (s : ByteArray) (w : World) (hs : s.size ≤ 10000000) :
    Calls Try.prog 28 #[.int .i64 2, .string s] w fun e w' => e = .returned (.string (c2 s)) ∧ Below w.heap.size w w' := counted_any 2 s w (by decide) (by decide) hs
theorem counted3_any (s : ByteArray) (w : World) (hs : s.size ≤ 10000000) :
    Calls Try.prog 28 #[.int .i64 3, .string s] w fun e w' => e = .returned (.string (c3 s)) ∧ Below w.heap.size w w' := counted_any 3 s w (by decide) (by decide) hs
end Go.Proofs.Ytjemikbnncfonaa
