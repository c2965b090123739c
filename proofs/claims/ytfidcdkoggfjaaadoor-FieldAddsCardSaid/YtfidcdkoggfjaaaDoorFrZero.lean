/- The reference's nought, its modulus, and its carries. -/
import Derived.Test.YtfidcdkoggfjaaaDoorFldSpec
import Derived.Test.YtfidcdkoggfjaaaDoorFldFns
import Derived.Test.YtfidcdkoggfjaaaDoorTail
import Derived.Test.YtfidcdkoggfjaaaDoorBytes
import Derived.Laws.BitsAllLaws
namespace Go.Proofs.YtfidcdkoggfjaaaDoor
open Go.RowKit Go.Sort
set_option maxRecDepth 100000
set_option linter.unusedSimpArgs false
set_option linter.unusedVariables false

def dcl (l : List Nat) : Array Value := nc .i64 l
theorem dcl_size (l : List Nat) : (dcl l).size = l.length := nc_size _ l
theorem dcl_cell {W : World} {B : Nat} {l : List Nat} {T : TypeId} {fr : Nat × Nat} (h : W.heap[B]? = some (.cells (dcl l) T fr)) (j : Nat) (hj : j < l.length) : W.cell? ⟨B, j, none⟩ = some (.int .i64 ((l.getD j 0 : Nat) : Int)) := nc_cell h j hj
theorem dcl_set {W : World} {B : Nat} {l : List Nat} {T : TypeId} (h : W.heap[B]? = some (.cells (dcl l) T)) (j : Nat) (x : Nat) : (W.setCell ⟨B, j, none⟩ (.int .i64 (x : Int))).heap[B]? = some (.cells (dcl (l.set j x)) T) := nc_heap_set h j x
theorem info_int : (Tryd.prog.info? 3).map (fun i => (i.zero, i.size, i.bytes)) = some (some (.int .i64 0), 1, 8) := by kernel_rfl
def zeros16 : Array Value := dcl (List.replicate 16 0)
theorem made_digits (n : Nat) : madeCells (Value.int .i64 0).cells n = dcl (List.replicate n 0) := by
  apply Array.ext_getElem?
  intro i
  by_cases h : i < n
  · simp [madeCells, dcl, nc, Value.cells, h, Nat.mod_one]
  · simp [madeCells, dcl, nc, Value.cells, h]
theorem make16 (W : World) : (Instr.makeSlice 30 (.int .i64 16) (.int .i64 16)).run Tryd.prog W = .ok (.slice (some ⟨W.heap.size, 0, none⟩) 16 16) (W.alloc (.cells zeros16 3)) := by
  obtain ⟨i0, hi, hz0, hz1, hz2⟩ := info_parts info_int
  have h := run_make (P := Tryd.prog) W 30 3 i0 (.int .i64 0) Tryd.underlying30 hi hz0 .i64 .i64 16 16 (by omega) (by omega) (by rw [hz2]; omega) (by omega)
  have e : madeCells (Value.int .i64 0).cells ((16 : Int).toNat * i0.size) = zeros16 := by rw [hz1, made_digits]; rfl
  rw [e] at h
  exact h
/-- A slice of sixteen digits, wherever it lies. -/
def DigAt (W : World) (v : Value) (l : List Nat) : Prop := ∃ D cap, v = .slice (some ⟨D, 0, none⟩) 16 cap ∧ ∀ j, j < 16 → W.cell? ⟨D, j, none⟩ = some (.int .i64 ((l.getD j 0 : Nat) : Int))
theorem DigAt.step {W W' : World} {v : Value} {l : List Nat} (h : DigAt W v l) (hb : Below W.heap.size W W') : DigAt W' v l := by
  obtain ⟨D, cap, hv, hc⟩ := h
  exact ⟨D, cap, hv, fun j hj => (hb.cell (block_lt_of_cell (hc j hj))).trans (hc j hj)⟩
theorem DigAt.of_block {W : World} {D cap : Nat} {l : List Nat} {T : TypeId} (h : W.heap[D]? = some (.cells (dcl l) T)) (hl : l.length = 16) : DigAt W (.slice (some ⟨D, 0, none⟩) 16 cap) l := ⟨D, cap, rfl, fun j hj => dcl_cell h j (by omega)⟩

theorem zero_any (w : World) :
    Calls Tryd.prog 33 #[] w fun e w' => e = .returned (.slice (some ⟨w.heap.size, 0, none⟩) 16 16) ∧ w' = w.alloc (.cells zeros16 3) := by
  have hmk := make16
  go_enter Tryd.func33, Tryd.ntmps33
  go_wp2_with fail
  go_ret
  exact ⟨rfl, rfl⟩

/-- The modulus while it is laid. -/
def modL (i : Nat) : List Nat := mkD fun j => if j < i then 65535 else 0
theorem modL_length (i : Nat) : (modL i).length = 16 := mkD_length _
theorem modL_set (i : Nat) (h : i < 16) : (modL i).set i 65535 = modL (i + 1) := by
  have := mkD_set (fun j => if j < i then 65535 else 0) (fun j => if j < i + 1 then 65535 else 0) i h (fun j hj hne => by
    by_cases h1 : j < i
    · simp [h1, Nat.lt_succ_of_lt h1]
    · have : ¬ j < i + 1 := by omega
      simp [h1, this])
  rw [modL, modL]
  simpa using this
theorem modL_full : ((modL 16).set 0 65517).set 15 32767 = digN pF := by decide +kernel

set_option maxHeartbeats 1000000 in
theorem modulus_any (w : World) :
    Calls Tryd.prog 35 #[] w fun e w' => e = .returned (.slice (some ⟨w.heap.size, 0, none⟩) 16 16) ∧ w'.heap[w.heap.size]? = some (.cells (dcl (digN pF)) 3) ∧ Below w.heap.size w w' := by
  have HO := Lib.hid (show (w.alloc (.cells zeros16 3)).heap[w.heap.size]? = some (.cells (dcl (modL 0)) 3) from blk_new w _)
  have hB0 := below_new w (.cells zeros16 3)
  have HZ := Lib.hid (zero_any w)
  go_enter Tryd.func35, Tryd.ntmps35
  go_wp2_with fail
  refine HZ.out.mono ?_
  rintro e W1 ⟨rfl, rfl⟩
  go_wp2_with fail
  clear HZ
  generalize (w.alloc (.cells zeros16 3)) = W0 at *
  generalize hBB : w.heap.size = O at *
  have HBB := Lib.hid hBB
  clear hBB
  go_loopw [2] (fun iv wr => ∃ i : Nat, i ≤ 16 ∧ iv = .int .i64 (i : Int) ∧ wr.heap[O]? = some (.cells (dcl (modL i)) 3) ∧ Below O w wr) (fun iv _ => 16 - (intOf iv).toNat)
  case atStart => exact ⟨0, by omega, rfl, HO.out, hB0⟩
  case round =>
    clear HO hB0
    obtain ⟨i, hi, rfl, ho, hb⟩ := hrel
    have HO := Lib.hid ho
    clear ho
    by_cases hlt : i < 16
    · have hd : decide ((i : Int) < 16) = true := by simp; omega
      have cx := dcl_cell HO.out i (by rw [modL_length]; exact hlt)
      have fx := frozen_of_row wr O i _ _ HO.out
      have r1 := dcl_set HO.out i 65535
      rw [modL_set i hlt] at r1
      have HO1 := Lib.hid r1
      have hb1 : Below O w (wr.setCell ⟨O, i, none⟩ (.int .i64 ((65535 : Nat) : Int))) := hb.setCell (by simp) _
      clear r1 hb
      go_wp2_with fail
      go_roundw
      case rel => exact ⟨i + 1, by omega, by go_num, HO1.out, hb1⟩
      case measure => simp [intOf]; omega
    · have hd : decide ((i : Int) < 16) = false := by simp; omega
      obtain rfl : i = 16 := by omega
      have c0 := dcl_cell HO.out 0 (by rw [modL_length]; decide)
      have f0 := frozen_of_row wr O 0 _ _ HO.out
      have r1 : (wr.setCell ⟨O, 0, none⟩ (.int .i64 65517)).heap[O]? = some (.cells (dcl ((modL 16).set 0 65517)) 3) := dcl_set HO.out 0 65517
      have c1 := dcl_cell r1 15 (by rw [List.length_set, modL_length]; decide)
      have f1 := frozen_of_row _ O 15 _ _ r1
      have r2 : ((wr.setCell ⟨O, 0, none⟩ (.int .i64 65517)).setCell ⟨O, 15, none⟩ (.int .i64 32767)).heap[O]? = some (.cells (dcl (((modL 16).set 0 65517).set 15 32767)) 3) := dcl_set r1 15 32767
      rw [modL_full] at r2
      have HO2 := Lib.hid r2
      have hb1 : Below O w (wr.setCell ⟨O, 0, none⟩ (.int .i64 65517)) := hb.setCell (by simp) _
      have hb2 : Below O w ((wr.setCell ⟨O, 0, none⟩ (.int .i64 65517)).setCell ⟨O, 15, none⟩ (.int .i64 32767)) := hb1.setCell (by simp) _
      clear r1 r2 hb
      go_wp2_with fail
      go_ret
      exact ⟨by rw [HBB.out]; rfl, by rw [HBB.out]; exact HO2.out, by rw [HBB.out]; exact hb2⟩
end Go.Proofs.YtfidcdkoggfjaaaDoor
