/- The reference's sum and difference. -/
import Derived.Test.YtfidcdkoggfjaaaDoorFrBelow
namespace Go.Proofs.YtfidcdkoggfjaaaDoor
open Go.RowKit Go.Sort
set_option maxRecDepth 100000
set_option linter.unusedSimpArgs false
set_option linter.unusedVariables false

/-- Digits that are laid one by one. -/
def partD (f : Nat → Nat) (i : Nat) : List Nat := mkD fun j => if j < i then f j else 0
theorem partD_length (f : Nat → Nat) (i : Nat) : (partD f i).length = 16 := mkD_length _
theorem partD_set (f : Nat → Nat) (i : Nat) (h : i < 16) : (partD f i).set i (f i) = partD f (i + 1) := by
  have := mkD_set (fun j => if j < i then f j else 0) (fun j => if j < i + 1 then f j else 0) i h (fun j hj hne => by
    by_cases h1 : j < i
    · simp [h1, Nat.lt_succ_of_lt h1]
    · have : ¬ j < i + 1 := by omega
      simp [h1, this])
  rw [partD, partD]
  simpa using this
theorem partD_full (f : Nat → Nat) : partD f 16 = mkD f := nums_ext (partD_length ..) (mkD_length _) fun i hi => by rw [partD, mkD_get _ _ hi, mkD_get _ _ hi, if_pos hi]
theorem partD_zero (f : Nat → Nat) : zeros16 = dcl (partD f 0) := rfl
theorem partD_get (f : Nat → Nat) (i j : Nat) (h : j < 16) : (partD f i).getD j 0 = if j < i then f j else 0 := mkD_get _ _ h
theorem fold_facts (v : List Nat) (hl : v.length = 16) (h : ∀ j, j < 16 → v.getD j 0 ≤ 1152921504606846976) : small60 v ∧ (foldD v).length = 16 ∧ ∀ j, j < 16 → (foldD v).getD j 0 < 65536 :=
  ⟨fun j => by
    by_cases hj : j < 16
    · exact h j hj
    · rw [List.getD_eq_getElem?_getD, List.getElem?_eq_none (by omega)]; simp, by rw [foldD_length]; exact hl, foldD_low v hl (dS_small v 1152921504606846976 (by decide) h)⟩

set_option maxHeartbeats 4000000 in
theorem addRef_any (da db : Value) (x y : Nat) (w : World) (hx : x < pF) (hy : y < pF) (ha : DigAt w da (digN x)) (hb : DigAt w db (digN y)) :
    Calls Tryd.prog 23 #[da, db] w fun e w' => (∃ d', e = .returned d' ∧ DigAt w' d' (digN (addF x y))) ∧ Below w.heap.size w w' := by
  obtain ⟨Da, ca, rfl, hca⟩ := ha
  obtain ⟨Db, cb, rfl, hcb⟩ := hb
  have HCA := Lib.hid hca; have HCB := Lib.hid hcb
  have HA := Lib.hid (digN_lt x); have HB := Lib.hid (digN_lt y)
  have HR := Lib.hid (add_ref x y hx hy)
  have HZ := Lib.hid (zero_any w)
  obtain ⟨f, hf⟩ : ∃ f : Nat → Nat, f = fun i => (digN x).getD i 0 + (digN y).getD i 0 := ⟨_, rfl⟩
  have HF := Lib.hid (fun j (hj : j < 16) => (show f j = (digN x).getD j 0 + (digN y).getD j 0 by rw [hf]))
  have HV := Lib.hid (show mkD f = addD (digN x) (digN y) by rw [hf]; rfl)
  have HFl := Lib.hid (fun j (hj : j < 16) => (show f j ≤ 1152921504606846976 by have h1 := digN_lt x j hj; have h2 := digN_lt y j hj; rw [hf]; show (digN x).getD j 0 + (digN y).getD j 0 ≤ _; omega))
  have HO := Lib.hid (show (w.alloc (.cells zeros16 3)).heap[w.heap.size]? = some (.cells (dcl (partD f 0)) 3) from blk_new w _)
  have hB0 := below_new w (.cells zeros16 3)
  have hla := block_lt_of_cell (hca 0 (by decide)); have hlb := block_lt_of_cell (hcb 0 (by decide))
  clear hca hcb hx hy hf
  go_enter Tryd.func23, Tryd.ntmps23
  go_wp2_with fail
  refine HZ.out.mono ?_
  rintro e W1 ⟨rfl, rfl⟩
  go_wp2_with fail
  clear HZ
  generalize (w.alloc (.cells zeros16 3)) = W0 at *
  generalize hBB : w.heap.size = O at *
  have HBB := Lib.hid hBB
  clear hBB
  go_loopw [6] (fun iv wr => ∃ i : Nat, i ≤ 16 ∧ iv = .int .i64 (i : Int) ∧ wr.heap[O]? = some (.cells (dcl (partD f i)) 3) ∧ Below O w wr) (fun iv _ => 16 - (intOf iv).toNat)
  case atStart => exact ⟨0, by omega, rfl, HO.out, hB0⟩
  case round =>
    clear HO hB0
    obtain ⟨i, hi, rfl, ho, hb⟩ := hrel
    have HO := Lib.hid ho
    clear ho
    by_cases hlt : i < 16
    · have hd : decide ((i : Int) < 16) = true := by simp; omega
      have c1 := (hb.cell (p := ⟨Da, i, none⟩) hla).trans (HCA.out i hlt)
      have c2 := (hb.cell (p := ⟨Db, i, none⟩) hlb).trans (HCB.out i hlt)
      have hx1 := HA.out i hlt; have hy1 := HB.out i hlt
      have hfi := HF.out i hlt
      have HS := Lib.hid (partD_set f i hlt)
      have hpl := partD_length f i
      generalize (digN x).getD i 0 = p at *
      generalize (digN y).getD i 0 = q at *
      have hs : ((p : Int) + (q : Int)) = ((f i : Nat) : Int) := by omega
      have HFI := Lib.hid hs
      clear hs hfi
      go_wp2_with fail
      have ka := cell_regrown c1; have kb := cell_regrown c2
      refine wp_region_reads_tail 12 (by kernel_rfl) (by kernel_rfl) ?_
      simp only [List.take_succ_cons, List.take_zero, List.drop_succ_cons, List.drop_zero]
      repeat (first | go_big_quiet_step (fail) | quiet_step (fail))
      refine wpQuiet_nil ?_
      intro W1 hb1
      have hO1 := blk_below hb1 (blk_lt HO.out) HO.out
      have hbl1 : Below O w W1 := hb.trans (hb1.mono (Nat.le_of_lt (blk_lt HO.out)))
      have cz := dcl_cell hO1 i (by omega)
      have fz := frozen_of_row W1 O i _ _ hO1
      have s1 : (W1.setCell ⟨O, i, none⟩ (.int .i64 ((p : Int) + (q : Int)))).heap[O]? = some (.cells (dcl (partD f (i + 1))) 3) := by rw [HFI.out, ← HS.out]; exact dcl_set hO1 i (f i)
      have HS1 := Lib.hid s1
      have hbl2 : Below O w (W1.setCell ⟨O, i, none⟩ (.int .i64 ((p : Int) + (q : Int)))) := hbl1.setCell (Nat.le_refl _) _
      clear s1 ka kb c1 c2 hb1 hO1 hb HS
      go_wp2_with fail
      go_roundw
      case rel => exact ⟨i + 1, by omega, by go_num, HS1.out, hbl2⟩
      case measure => simp [intOf]; omega
    · have hd : decide ((i : Int) < 16) = false := by simp; omega
      obtain rfl : i = 16 := by omega
      rw [partD_full f, HV.out] at HO
      have hle : ∀ j, j < 16 → (addD (digN x) (digN y)).getD j 0 ≤ 1152921504606846976 := fun j hj => by rw [← HV.out, mkD_get _ _ hj]; exact HFl.out j hj
      obtain ⟨q1, q2, q3⟩ := fold_facts (addD (digN x) (digN y)) (mkD_length _) hle
      have hRl : (addD (digN x) (digN y)).length = 16 := mkD_length _
      generalize addD (digN x) (digN y) = V at *
      clear hle
      go_wp2_with fail
      refine (foldRef_any O V wr HO.out hRl q1).mono ?_
      rintro e W2 ⟨rfl, hO2, hbut⟩
      have hb2 : Below O w W2 := hb.trans (hbut.below (Nat.le_refl _) (Nat.le_of_lt (blk_lt HO.out)))
      have hdg : DigAt W2 (.slice (some ⟨O, 0, none⟩) 16 16) (foldD V) := DigAt.of_block hO2 q2
      have HBl := Lib.hid (belowRef_any _ _ W2 hdg q2 q3)
      have hsO : O ≤ W2.heap.size := Nat.le_of_lt (blk_lt hO2)
      clear hdg hO2 hbut hb
      go_wp2_with fail
      refine HBl.out.mono ?_
      rintro e W3 ⟨⟨d', rfl, hd3⟩, hb3⟩
      rw [HR.out] at hd3
      have HD3 := Lib.hid hd3
      have hb4 : Below O w W3 := hb2.trans (hb3.mono hsO)
      clear hd3 hb3 HBl
      go_wp2_with fail
      go_ret
      exact ⟨⟨_, rfl, HD3.out⟩, by rw [HBB.out]; exact hb4⟩
end Go.Proofs.YtfidcdkoggfjaaaDoor
