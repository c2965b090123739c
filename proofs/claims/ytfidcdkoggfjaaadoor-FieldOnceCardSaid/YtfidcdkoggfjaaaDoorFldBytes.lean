/- The program's bytes of a number. -/
import Derived.Test.YtfidcdkoggfjaaaDoorFldRed
import Derived.Test.YtfidcdkoggfjaaaDoorBytes
import Derived.Test.YtfidcdkoggfjaaaDoorArr
namespace Go.Proofs.YtfidcdkoggfjaaaDoor
open Go.RowKit Go.Sort
set_option maxRecDepth 100000
set_option linter.unusedSimpArgs false
set_option linter.unusedVariables false

theorem bw_256 (i : Nat) : bw i = 256 ^ (8 * i) := by rw [bw, Nat.pow_mul]
/-- One byte of one limb. -/
theorem limb_byte (x k : Nat) : dg x (k / 8) / 2 ^ (k % 8 * 8) % 256 = x / 256 ^ k % 256 := by
  obtain ⟨i, r, hr, rfl⟩ : ∃ i r, r < 8 ∧ k = 8 * i + r := ⟨k / 8, k % 8, by omega, by omega⟩
  have h1 : (8 * i + r) / 8 = i := by omega
  have h2 : (8 * i + r) % 8 = r := by omega
  have h3 : 2 ^ (r * 8) = 256 ^ r := by rw [Nat.mul_comm, Nat.pow_mul]
  obtain ⟨d, hd⟩ : ∃ d, 8 - r = d + 1 := ⟨7 - r, by omega⟩
  have h4 : 18446744073709551616 = 256 ^ r * 256 ^ (d + 1) := by rw [← Nat.pow_add, ← hd, show r + (8 - r) = 8 by omega]
  rw [h1, h2, h3, dg, h4, Nat.mod_mul_right_div_self, bw_256, Nat.div_div_eq_div_mul, ← Nat.pow_add, Nat.pow_succ, Nat.mul_comm (256 ^ d)]
  exact Nat.mod_mod_of_dvd _ ⟨256 ^ d, rfl⟩
/-- The bytes while they are laid. -/
def outF (x k : Nat) : List UInt8 := leF x k ++ List.replicate (32 - k) 0
theorem outF_length (x k : Nat) (h : k ≤ 32) : (outF x k).length = 32 := by simp [outF, leF_length]; omega
theorem leF_succ (x k : Nat) : leF x (k + 1) = leF x k ++ [UInt8.ofNat (x / 256 ^ k)] := by rw [leF, List.range_succ, List.map_append]; rfl
theorem outF_set (x k : Nat) (h : k < 32) : (outF x k).set k (UInt8.ofNat (x / 256 ^ k)) = outF x (k + 1) := by
  have e : List.replicate (32 - k) (0 : UInt8) = 0 :: List.replicate (32 - (k + 1)) 0 := by rw [show 32 - k = (32 - (k + 1)) + 1 by omega, List.replicate_succ]
  rw [outF, e, List.set_append, if_neg (by rw [leF_length]; omega), leF_length, Nat.sub_self, List.set_cons_zero, outF, leF_succ]
  simp
theorem outF_full (x : Nat) : outF x 32 = leF x 32 := by simp [outF]
def bzeros32 : Array Value := bcells (List.replicate 32 0)
theorem infoB32 : (Tryd.prog.info? 54).map (fun i => (i.zero, i.size)) = some (some (.agg bzeros32), 32) := by kernel_rfl
theorem outF_zero (x : Nat) : bzeros32 = bcells (outF x 0) := rfl

set_option maxHeartbeats 1000000 in
theorem bytesF_any (x : Nat) (w : World) :
    Calls Tryd.prog 17 #[.agg (uc (limN 4 x))] w fun e w' => e = .returned (.string ⟨(leF x 32).toArray⟩) ∧ Below w.heap.size w w' := by
  obtain ⟨hz, hi⟩ := zero_of_info infoB32
  have HG0 := Lib.hid (blk_old (o := .cells bzeros32 54) (blk_new w (.cells (uc (limN 4 x)) 26)))
  have HO0 := Lib.hid (blk_new2 w (.cells (uc (limN 4 x)) 26) (.cells bzeros32 54))
  have hb0 := below_new2 w (.cells (uc (limN 4 x)) 26) (.cells bzeros32 54)
  clear hi
  go_enter Tryd.func17, Tryd.ntmps17
  go_wp2_with fail
  clear hz
  generalize ((w.alloc _).alloc _) = W0 at *
  generalize hBB : w.heap.size = B at *
  have HBB := Lib.hid hBB
  clear hBB
  go_loopw [5] (fun iv wr => ∃ k : Nat, k ≤ 32 ∧ iv = .int .i64 (k : Int) ∧ wr.heap[B]? = some (.cells (uc (limN 4 x)) 26) ∧ wr.heap[B + 1]? = some (.cells (bcells (outF x k)) 54) ∧ Below B w wr) (fun iv _ => 32 - (intOf iv).toNat)
  case atStart => exact ⟨0, by omega, rfl, HG0.out, HO0.out, hb0⟩
  case round =>
    clear HG0 HO0 hb0
    obtain ⟨k, hk, rfl, hg, ho, hb⟩ := hrel
    have HG := Lib.hid hg; have HO := Lib.hid ho
    clear hg ho
    by_cases hlt : k < 32
    · have hd : decide ((k : Int) < 32) = true := by simp; omega
      have cx := uc_cell HG.out (k / 8) (by rw [limN_length]; omega)
      rw [limN_get _ _ _ (by omega)] at cx
      have hby := limb_byte x k
      have hs := outF_set x k hlt
      have hb8 : (UInt8.ofNat (x / 256 ^ k)).toNat = x / 256 ^ k % 256 := by rw [UInt8.toNat_ofNat']
      rw [← hb8] at hby
      generalize UInt8.ofNat (x / 256 ^ k) = b8 at *
      have r1 := bheap_set HO.out k b8
      rw [hs] at r1
      have co := bcell_at HO.out k (by rw [outF_length _ _ (by omega)]; exact hlt)
      have fo := frozen_of_row wr (B + 1) k _ _ HO.out
      generalize dg x (k / 8) = d at *
      have hv : (d : Int) / 2 ^ (k % 8 * 8) % 256 = (b8.toNat : Int) := by rw [← hby]; simp
      have HO2 := Lib.hid r1
      have HG2 := Lib.hid (show (wr.setCell ⟨B + 1, k, none⟩ (.int .u8 (b8.toNat : Int))).heap[B]? = some (.cells (uc (limN 4 x)) 26) from by rw [heap_setCell_other _ _ _ _ (by simp)]; exact HG.out)
      have hb2 : Below B w (wr.setCell ⟨B + 1, k, none⟩ (.int .u8 (b8.toNat : Int))) := hb.setCell (by simp) _
      clear r1 hb HG hs hb8 hby
      go_wp2_with fail
      go_roundw
      case rel => exact ⟨k + 1, by omega, by go_num, HG2.out, HO2.out, hb2⟩
      case measure => simp [intOf]; omega
    · have hd : decide ((k : Int) < 32) = false := by simp; omega
      obtain rfl : k = 32 := by omega
      rw [outF_full] at HO
      have hl := leF_length x 32
      have hc := run_string_row wr (B + 1) 32 (leF x 32) (cells_of_bcells HO.out)
      have sl := arr_sliced_all 54 32 (B + 1) (by kernel_rfl) (by kernel_rfl) (by kernel_rfl) (by omega)
      rw [hl] at hc
      generalize hrow : leF x 32 = row at *
      have HROW := Lib.hid hrow
      clear hrow
      go_wp2_with fail
      go_ret
      exact ⟨by rw [HROW.out]; rfl, by rw [HBB.out]; exact hb⟩
end Go.Proofs.YtfidcdkoggfjaaaDoor
