/- The program's filler, length and tagged: what a tag stands for. -/
import Derived.Test.YtaodbhhdjehnnaaGreatDoorSealFns
namespace Go.Proofs.YtaodbhhdjehnnaaGreatDoor
open Go.RowKit Go.Sort
set_option maxRecDepth 100000
set_option linter.unusedSimpArgs false
set_option linter.unusedVariables false

def fillN (n : Nat) : Nat := (16 - n % 16) % 16
set_option maxHeartbeats 1000000 in
theorem sfiller_any (s : ByteArray) (w : World) (hs : s.size ≤ 1099511627776) :
    Calls Tryz.prog 73 #[.string s] w fun e w' => e = .returned (.string ⟨(List.replicate (fillN s.size) (0 : UInt8)).toArray⟩) ∧ Below w.heap.size w w' := by
  obtain ⟨c, hc⟩ : ∃ c, c = fillN s.size := ⟨_, rfl⟩
  have hc2 : c < 16 := by rw [hc, fillN]; omega
  have e1 : ((16 : Int) - (s.size : Int) % 16) % 16 = (c : Int) := by rw [hc, fillN]; omega
  have HR := Lib.hid (fun W => Tryz.strings_Repeat ⟨#[0]⟩ c W (by omega) (by show 1 * c ≤ _; omega))
  have HE : Hid (Lib.repeatL (⟨#[0]⟩ : ByteArray).data.toList c = List.replicate (fillN s.size) 0) := Lib.hid (by
    have h := Lib.repeatL_replicate 0 1 c
    rw [Nat.mul_one] at h
    rw [← hc]
    exact h)
  rw [HE.out] at HR
  have e2 : ((16 : Int) - (s.size : Int) % 16).tmod 16 = (c : Int) := by rw [Int.tmod_eq_emod_of_nonneg (by omega)]; exact e1
  clear HE hc
  go_enter Tryz.func73, Tryz.ntmps73
  go_wp2_with fail
  refine (HR.out w).mono ?_
  rintro e W ⟨rfl, hb⟩
  go_wp2_with fail
  go_ret
  exact ⟨rfl, hb⟩

/-- So many of the eight bytes. -/
def lenQ (n k : Nat) : List UInt8 := (List.range 8).map fun i => if i < k then wbyte (n : Int) (8 * i) else 0
theorem lenQ_length (n k : Nat) : (lenQ n k).length = 8 := by simp [lenQ]
theorem lenQ_full (n : Nat) : lenQ n 8 = lenS n := bytes_ext (lenQ_length n 8) (lenS_length n) fun i hi => by
  rw [lenQ, range_getD _ _ _ hi, lenS_getD n i hi, if_pos hi]
theorem lenQ_set (n k : Nat) (h : k < 8) : (lenQ n k).set k (wbyte (n : Int) (8 * k)) = lenQ n (k + 1) := bytes_ext (n := 8) (by rw [List.length_set, lenQ_length]) (lenQ_length _ _) fun i hi => by
  rw [List.getD_eq_getElem?_getD, List.getElem?_set]
  by_cases hik : k = i
  · subst hik
    rw [if_pos rfl, if_pos (by rw [lenQ_length]; exact h), lenQ, range_getD _ _ _ hi, if_pos (by omega)]; rfl
  · rw [if_neg hik, ← List.getD_eq_getElem?_getD, lenQ, lenQ, range_getD _ _ _ hi, range_getD _ _ _ hi]
    by_cases h2 : i < k
    · rw [if_pos h2, if_pos (by omega)]
    · rw [if_neg h2, if_neg (by omega)]
def bz8 : Array Value := bcells (lenQ 0 0)
theorem info8 : (Tryz.prog.info? 118).map (fun i => (i.zero, i.size)) = some (some (.agg bz8), 8) := by kernel_rfl
theorem lenQ_zero (n : Nat) : bz8 = bcells (lenQ n 0) := rfl

set_option maxHeartbeats 1000000 in
theorem slength_any (s : ByteArray) (w : World) (hs : s.size ≤ 1099511627776) :
    Calls Tryz.prog 74 #[.string s] w fun e w' => e = .returned (.string ⟨(lenS s.size).toArray⟩) ∧ Below w.heap.size w w' := by
  obtain ⟨hz8, hi8⟩ := zero_of_info info8
  have HG0 : Hid ((w.alloc (.cells bz8 118)).heap[w.heap.size]? = some (.cells (bcells (lenQ s.size 0)) 118)) := Lib.hid (blk_new w (.cells bz8 118))
  have HB0 := Lib.hid (below_new w (.cells bz8 118))
  have sl := arr_sliced_all 118 8 w.heap.size (by kernel_rfl) (by kernel_rfl) (by kernel_rfl) (by omega)
  obtain ⟨n, hn⟩ : ∃ n, n = s.size := ⟨_, rfl⟩
  have hn2 : (s.size : Int) = (n : Int) := by rw [hn]
  rw [← hn] at HG0 hs
  rw [← hn]
  clear hi8 hn
  go_enter Tryz.func74, Tryz.ntmps74
  go_wp2_with fail
  generalize (World.alloc w _) = W0 at *
  go_loopw [5] (fun i wr => ∃ k : Nat, k ≤ 8 ∧ i = .int .i64 (k : Int) ∧ wr.heap[w.heap.size]? = some (.cells (bcells (lenQ n k)) 118) ∧ Below w.heap.size w wr) (fun i _ => 8 - (intOf i).toNat)
  case atStart => exact ⟨0, by omega, rfl, HG0.out, HB0.out⟩
  case round =>
    clear HG0 HB0
    obtain ⟨k, hk, rfl, hg, hb⟩ := hrel
    have HG := Lib.hid hg
    clear hg
    by_cases hlt : k < 8
    · have hd : decide ((k : Int) < 8) = true := by simp; omega
      have hj : k < (lenQ n k).length := by rw [lenQ_length]; omega
      have hx : wr.cell? ⟨w.heap.size, k, none⟩ = some (.int .u8 ((lenQ n k)[k].toNat : Int)) := by rw [cell_of_row wr _ _ _ _ _ HG.out]; exact bcells_get _ _ _ (List.getElem?_eq_getElem hj)
      have hf : wr.frozen? ⟨w.heap.size, k, none⟩ = false := frozen_of_row wr _ _ _ _ HG.out
      generalize ((lenQ n k)[k].toNat : Int) = x at hx
      have HS := Lib.hid (show ∀ x : Int, x = (n : Int) / 2 ^ (8 * k) % 256 → (wr.setCell ⟨w.heap.size, k, none⟩ (.int .u8 x)).heap[w.heap.size]? = some (.cells (bcells (lenQ n (k + 1))) 118) from by
        rintro x rfl
        rw [← wbyte_toNat (n : Int) (8 * k), ← lenQ_set n k hlt, ← bcells_set]
        exact Go.heap_setCell_same _ _ _ _ _ _ HG.out)
      have e8 : (8 * (k : Int)).toNat = 8 * k := by omega
      have n8 : (0 : Int) ≤ 8 * (k : Int) := by omega
      have hb2 : ∀ x : Int, Below w.heap.size w (wr.setCell ⟨w.heap.size, k, none⟩ (.int .u8 x)) := fun x => hb.setCell (by simp) _
      go_wp2_with fail
      go_roundw
      case rel => exact ⟨k + 1, by omega, by go_num, HS.out _ (by simp), hb2 _⟩
      case measure => simp [intOf]; omega
    · have hd : decide ((k : Int) < 8) = false := by simp; omega
      obtain rfl : k = 8 := by omega
      have hcv := run_string_row wr w.heap.size 8 (lenQ n 8) (cells_of_bcells HG.out)
      rw [lenQ_length] at hcv
      have HL := Lib.hid (lenQ_full n)
      go_wp2_with fail
      go_ret
      exact ⟨by rw [← HL.out]; rfl, hb⟩

theorem tagged_bytes (b h : ByteArray) : b ++ ⟨(List.replicate (fillN b.size) (0 : UInt8)).toArray⟩ ++ h ++ ⟨(List.replicate (fillN h.size) (0 : UInt8)).toArray⟩ ++ ⟨(lenS b.size).toArray⟩ ++ ⟨(lenS h.size).toArray⟩ = (⟨(tagT b.data.toList h.data.toList).toArray⟩ : ByteArray) := by
  apply ByteArray.ext
  simp only [ByteArray.data_append]
  apply Array.ext'
  simp only [Array.toList_append, List.toList_toArray, tagT, padG, fillN, ← Lib.size_eq, List.append_assoc]

set_option maxHeartbeats 1000000 in
theorem stagged_any (b h : ByteArray) (w : World) (hb : b.size ≤ 1073741824) (hh : h.size ≤ 1073741824) :
    Calls Tryz.prog 42 #[.string b, .string h] w fun e w' => e = .returned (.string ⟨(tagT b.data.toList h.data.toList).toArray⟩) ∧ Below w.heap.size w w' := by
  have HF1 := Lib.hid (fun W => sfiller_any b W (by omega))
  have HF2 := Lib.hid (fun W => sfiller_any h W (by omega))
  have HL1 := Lib.hid (fun W => slength_any b W (by omega))
  have HL2 := Lib.hid (fun W => slength_any h W (by omega))
  have HE := Lib.hid (tagged_bytes b h)
  have z1 : (⟨(List.replicate (fillN b.size) (0 : UInt8)).toArray⟩ : ByteArray).size < 16 := by show (List.replicate _ _).length < 16; rw [List.length_replicate, fillN]; omega
  have z2 : (⟨(List.replicate (fillN h.size) (0 : UInt8)).toArray⟩ : ByteArray).size < 16 := by show (List.replicate _ _).length < 16; rw [List.length_replicate, fillN]; omega
  have z3 : (⟨(lenS b.size).toArray⟩ : ByteArray).size = 8 := lenS_length _
  have z4 : (⟨(lenS h.size).toArray⟩ : ByteArray).size = 8 := lenS_length _
  generalize (⟨(List.replicate (fillN b.size) (0 : UInt8)).toArray⟩ : ByteArray) = f1 at *
  generalize (⟨(List.replicate (fillN h.size) (0 : UInt8)).toArray⟩ : ByteArray) = f2 at *
  generalize (⟨(lenS b.size).toArray⟩ : ByteArray) = l1 at *
  generalize (⟨(lenS h.size).toArray⟩ : ByteArray) = l2 at *
  generalize (⟨(tagT b.data.toList h.data.toList).toArray⟩ : ByteArray) = t at *
  have q1 : (b ++ f1).size ≤ 1073741840 := by rw [ByteArray.size_append]; omega
  have q2 : (b ++ f1 ++ h).size ≤ 2147483664 := by rw [ByteArray.size_append]; omega
  have q3 : (b ++ f1 ++ h ++ f2).size ≤ 2147483680 := by rw [ByteArray.size_append]; omega
  have q4 : (b ++ f1 ++ h ++ f2 ++ l1).size ≤ 2147483688 := by rw [ByteArray.size_append]; omega
  go_enter Tryz.func42, Tryz.ntmps42
  go_wp2_with fail
  refine (HF1.out w).mono ?_
  rintro e W1 ⟨rfl, hb1⟩
  go_wp2_with fail
  refine (HF2.out W1).mono ?_
  rintro e W2 ⟨rfl, hb2⟩
  have hb3 := hb1.trans (hb2.mono hb1.size)
  clear hb1 hb2
  go_wp2_with fail
  refine (HL1.out W2).mono ?_
  rintro e W3 ⟨rfl, hb4⟩
  have hb5 := hb3.trans (hb4.mono hb3.size)
  clear hb3 hb4
  go_wp2_with fail
  refine (HL2.out W3).mono ?_
  rintro e W4 ⟨rfl, hb6⟩
  go_wp2_with fail
  go_ret
  exact ⟨by rw [← HE.out]; rfl, hb5.trans (hb6.mono hb5.size)⟩
end Go.Proofs.YtaodbhhdjehnnaaGreatDoor
