/- The reference's times: the product of two numbers of ten digits. -/
import Derived.Test.YtbbpgplfdodpmaaPolyRef
namespace Go.Proofs.Ytbbpgplfdodpmaa
open Go.RowKit Go.Sort
set_option maxRecDepth 100000
set_option linter.unusedSimpArgs false
set_option linter.unusedVariables false

theorem info_int : (Try.prog.info? 3).map (fun i => (i.zero, i.size, i.bytes)) = some (some (.int .i64 0), 1, 8) := by kernel_rfl
/-- Ten noughts. -/
def zeros10 : Array Value := ic (List.replicate 10 0)
theorem made_ints (n : Nat) : madeCells (Value.int .i64 0).cells n = ic (List.replicate n 0) := by
  apply Array.ext_getElem?
  intro i
  by_cases h : i < n
  · simp [madeCells, ic, Value.cells, h, Nat.mod_one]
  · simp [madeCells, ic, Value.cells, h]
theorem make10 (W : World) : (Instr.makeSlice 40 (.int .i64 10) (.int .i64 10)).run Try.prog W = .ok (.slice (some ⟨W.heap.size, 0, none⟩) 10 10) (W.alloc (.cells zeros10 3)) := by
  obtain ⟨i0, hi, hz0, hz1, hz2⟩ := info_parts info_int
  have h := run_make (P := Try.prog) W 40 3 i0 (.int .i64 0) Try.underlying40 hi hz0 .i64 .i64 10 10 (by omega) (by omega) (by rw [hz2]; omega) (by omega)
  have e : madeCells (Value.int .i64 0).cells ((10 : Int).toNat * i0.size) = zeros10 := by rw [hz1, made_ints]; rfl
  rw [e] at h
  exact h

set_option maxHeartbeats 4000000 in
theorem times_any (Da Db : Nat) (a b : List Int) (w : World) (hDa : w.heap[Da]? = some (.cells (ic a) 3)) (hDb : w.heap[Db]? = some (.cells (ic b) 3)) (hal : a.length = 10) (hbl : b.length = 10) (ha : digitsIn 8191 a) (hb : digitsIn 8191 b) :
    Calls Try.prog 17 #[.slice (some ⟨Da, 0, none⟩) 10 10, .slice (some ⟨Db, 0, none⟩) 10 10] w fun e w' => ∃ O, e = .returned (.slice (some ⟨O, 0, none⟩) 10 10) ∧ w.heap.size ≤ O ∧ w'.heap[O]? = some (.cells (ic (carry3 (mulL a b 10))) 3) ∧ Below w.heap.size w w' := by
  have hmk := make10
  have HO := Lib.hid (show (w.alloc (.cells zeros10 3)).heap[w.heap.size]? = some (.cells (ic (mulL a b 0)) 3) from blk_new w _)
  have hB0 := below_new w (.cells zeros10 3)
  have hla := blk_lt hDa; have hlb := blk_lt hDb
  have HDa := Lib.hid hDa; have HDb := Lib.hid hDb; have HA := Lib.hid ha; have HB := Lib.hid hb; have HAl := Lib.hid hal; have HBl := Lib.hid hbl
  have hsz0 : w.heap.size < (w.alloc (.cells zeros10 3)).heap.size := by simp
  clear hDa hDb ha hb hal hbl
  go_enter Try.func17, Try.ntmps17
  go_wp2_with fail
  clear hmk
  generalize (w.alloc (.cells zeros10 3)) = W0 at *
  generalize hBB : w.heap.size = O at *
  have HBB := Lib.hid hBB
  clear hBB
  go_loopw [6] (fun iv wr => ∃ i : Nat, i ≤ 10 ∧ iv = .int .i64 i ∧ wr.heap[O]? = some (.cells (ic (mulL a b i)) 3) ∧ Below O w wr) (fun iv _ => 10 - (intOf iv).toNat)
  case atStart => exact ⟨0, by omega, rfl, HO.out, hB0⟩
  case round =>
    clear HO hB0 hsz0
    obtain ⟨i, hi, rfl, ho, hbl⟩ := hrel
    have HO := Lib.hid ho
    clear ho
    by_cases hi10 : i < 10
    · have hdi : decide ((i : Int) < 10) = true := by simp; omega
      have HN : Hid (mulL a b (i + 1) = mulRow a b (mulL a b i) i 10) := Lib.hid rfl
      have HM := Lib.hid (mulL_in a b HA.out HB.out HAl.out HBl.out i (by omega))
      have HMl := Lib.hid (mulL_length a b i)
      generalize mulL a b i = m at *
      go_wp2_with fail
      go_loopw [7] (fun kv wr => ∃ k : Nat, k ≤ 10 ∧ kv = .int .i64 k ∧ wr.heap[O]? = some (.cells (ic (mulRow a b m i k)) 3) ∧ Below O w wr) (fun kv _ => 10 - (intOf kv).toNat)
      case atStart => exact ⟨0, by omega, rfl, HO.out, hbl⟩
      case round =>
        clear HO hbl
        obtain ⟨k, hk, rfl, ho, hbl⟩ := hrel
        have HO := Lib.hid ho
        clear ho
        by_cases hk10 : k < 10
        · have hdk : decide ((k : Int) < 10) = true := by simp; omega
          have HR := Lib.hid (mulRow_in a b m i (10 * i) HA.out HB.out HAl.out HBl.out hi10 HMl.out HM.out k (by omega))
          have HRl := Lib.hid (show (mulRow a b m i k).length = 10 from by rw [mulRow_length, HMl.out])
          have HRS : Hid (mulRow a b m i (k + 1) = mulStep a b (mulRow a b m i k) i k) := Lib.hid rfl
          obtain ⟨a0, a1⟩ := getD_in HA.out i (by rw [HAl.out]; exact hi10)
          obtain ⟨b0, b1⟩ := getD_in HB.out k (by rw [HBl.out]; exact hk10)
          have p0 : 0 ≤ a.getD i 0 * b.getD k 0 := Int.mul_nonneg a0 b0
          have p1 : a.getD i 0 * b.getD k 0 ≤ 67092481 := Int.mul_le_mul a1 b1 b0 (by omega)
          have ca := (hbl.cell (p := ⟨Da, i, none⟩) hla).trans (ic_cell HDa.out i (by rw [HAl.out]; exact hi10))
          have cb := (hbl.cell (p := ⟨Db, k, none⟩) hlb).trans (ic_cell HDb.out k (by rw [HBl.out]; exact hk10))
          generalize mulRow a b m i k = r at *
          by_cases hlow : i + k < 10
          · have hdl : decide ((i : Int) + (k : Int) < 10) = true := by simp; omega
            have HS : Hid (mulStep a b r i k = r.set (i + k) (r.getD (i + k) 0 + a.getD i 0 * b.getD k 0)) := Lib.hid (by rw [mulStep, if_pos hlow])
            obtain ⟨r0, r1⟩ := getD_in HR.out (i + k) (by rw [HRl.out]; exact hlow)
            have cr := ic_cell HO.out (i + k) (by rw [HRl.out]; exact hlow)
            have q0 : (0 : Int) ≤ (i : Int) + (k : Int) := by omega
            generalize a.getD i 0 = x at *
            generalize b.getD k 0 = y at *
            generalize r.getD (i + k) 0 = z at *
            have z1 : z ≤ 40000000000 := by omega
            clear r1
            have Hx := Lib.hid (And.intro a0 a1); have Hy := Lib.hid (And.intro b0 b1)
            clear a0 a1 b0 b1
            go_wp2_with fail
            have ka := cell_regrown ca; have kb := cell_regrown cb; have kr := cell_regrown cr
            refine wp_region_reads_tail 21 (by kernel_rfl) (by kernel_rfl) ?_
            simp only [List.take_succ_cons, List.take_zero, List.drop_succ_cons, List.drop_zero]
            repeat (first | go_big_quiet_step (fail) | quiet_step (fail))
            refine wpQuiet_nil ?_
            intro W1 hb1
            have hO1 := blk_below hb1 (blk_lt HO.out) HO.out
            have hbl1 : Below O w W1 := hbl.trans (hb1.mono (Nat.le_of_lt (blk_lt HO.out)))
            have cz := ic_cell hO1 (i + k) (by rw [HRl.out]; exact hlow)
            have fz := frozen_of_row W1 O (i + k) _ _ hO1
            have s1 := heap_setCell_same W1 O (i + k) _ _ (.int .i64 (z + x * y)) hO1
            rw [ic_set, ← HS.out, ← HRS.out] at s1
            have HS1 := Lib.hid s1
            have hbl2 : Below O w (W1.setCell ⟨O, i + k, none⟩ (.int .i64 (z + x * y))) := hbl1.setCell (Nat.le_refl _) _
            clear s1 ka kb kr ca cb cr hb1 hO1 hbl HS HRS
            go_wp2_with fail
            go_roundw
            case rel => exact ⟨k + 1, by omega, by go_num, HS1.out, hbl2⟩
            case measure => simp [intOf]; omega
          · have hdl : decide ((i : Int) + (k : Int) < 10) = false := by simp; omega
            obtain ⟨t, ht⟩ : ∃ t, i + k - 10 = t := ⟨_, rfl⟩
            have ht10 : t < 10 := by omega
            have htz : (i : Int) + (k : Int) - 10 = (t : Int) := by omega
            have HS : Hid (mulStep a b r i k = r.set t (r.getD t 0 + 5 * a.getD i 0 * b.getD k 0)) := Lib.hid (by rw [mulStep, if_neg hlow, ht])
            obtain ⟨r0, r1⟩ := getD_in HR.out t (by rw [HRl.out]; exact ht10)
            have cr := ic_cell HO.out t (by rw [HRl.out]; exact ht10)
            have p2 : 5 * a.getD i 0 * b.getD k 0 = 5 * (a.getD i 0 * b.getD k 0) := Int.mul_assoc _ _ _
            have p3 : 0 ≤ 5 * a.getD i 0 * b.getD k 0 := by omega
            have p4 : 5 * a.getD i 0 * b.getD k 0 ≤ 335462405 := by omega
            clear p2
            have a2 : 5 * a.getD i 0 ≤ 40955 := by omega
            have a3 : 0 ≤ 5 * a.getD i 0 := by omega
            generalize a.getD i 0 = x at *
            generalize b.getD k 0 = y at *
            generalize r.getD t 0 = z at *
            have z1 : z ≤ 40000000000 := by omega
            clear r1
            have Hx := Lib.hid (And.intro a0 a1); have Hy := Lib.hid (And.intro b0 b1)
            clear a0 a1 b0 b1
            go_wp2_with fail
            have ka := cell_regrown ca; have kb := cell_regrown cb; have kr := cell_regrown cr
            refine wp_region_reads_tail 24 (by kernel_rfl) (by kernel_rfl) ?_
            simp only [List.take_succ_cons, List.take_zero, List.drop_succ_cons, List.drop_zero]
            repeat (first | go_big_quiet_step (fail) | quiet_step (fail))
            refine wpQuiet_nil ?_
            intro W1 hb1
            have hO1 := blk_below hb1 (blk_lt HO.out) HO.out
            have hbl1 : Below O w W1 := hbl.trans (hb1.mono (Nat.le_of_lt (blk_lt HO.out)))
            have cz := ic_cell hO1 t (by rw [HRl.out]; exact ht10)
            have fz := frozen_of_row W1 O t _ _ hO1
            have s1 := heap_setCell_same W1 O t _ _ (.int .i64 (z + 5 * x * y)) hO1
            rw [ic_set, ← HS.out, ← HRS.out] at s1
            have HS1 := Lib.hid s1
            have hbl2 : Below O w (W1.setCell ⟨O, t, none⟩ (.int .i64 (z + 5 * x * y))) := hbl1.setCell (Nat.le_refl _) _
            clear s1 ka kb kr ca cb cr hb1 hO1 hbl HS HRS
            go_wp2_with fail
            go_roundw
            case rel => exact ⟨k + 1, by omega, by go_num, HS1.out, hbl2⟩
            case measure => simp [intOf]; omega
        · have hdk : decide ((k : Int) < 10) = false := by simp; omega
          obtain rfl : k = 10 := by omega
          rw [← HN.out] at HO
          go_wp2_with fail
          go_roundw
          case rel => exact ⟨i + 1, by omega, by go_num, HO.out, hbl⟩
          case measure => simp [intOf]; omega
    · have hdi : decide ((i : Int) < 10) = false := by simp; omega
      obtain rfl : i = 10 := by omega
      have hin : digitsIn 68719476736 (mulL a b 10) := fun x hx => by
        obtain ⟨h0, h1⟩ := mulL_in a b HA.out HB.out HAl.out HBl.out 10 (by omega) x hx
        exact ⟨h0, by omega⟩
      go_wp2_with fail
      refine (carried_any O (mulL a b 10) wr HO.out (mulL_length _ _ _) hin).mono ?_
      rintro e W9 ⟨rfl, hO9, hbut9⟩
      have hb9 : Below O w W9 := hbl.trans (hbut9.below (Nat.le_refl _) (Nat.le_of_lt (blk_lt HO.out)))
      have HO9 := Lib.hid hO9
      clear hO9 hbut9
      go_wp2_with fail
      go_ret
      exact ⟨O, rfl, by rw [HBB.out]; exact Nat.le_refl _, HO9.out, by rw [HBB.out]; exact hb9⟩
end Go.Proofs.Ytbbpgplfdodpmaa
