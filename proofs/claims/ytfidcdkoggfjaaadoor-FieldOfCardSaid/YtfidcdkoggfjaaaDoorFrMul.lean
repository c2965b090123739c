/- The reference's product. -/
import Derived.Test.YtfidcdkoggfjaaaDoorFrAdd
namespace Go.Proofs.YtfidcdkoggfjaaaDoor
open Go.RowKit Go.Sort
set_option maxRecDepth 100000
set_option linter.unusedSimpArgs false
set_option linter.unusedVariables false

set_option maxHeartbeats 4000000 in
theorem mulRef_any (da db : Value) (x y : Nat) (w : World) (hx : x < pF) (hy : y < pF) (ha : DigAt w da (digN x)) (hb : DigAt w db (digN y)) :
    Calls Tryd.prog 27 #[da, db] w fun e w' => (∃ d', e = .returned d' ∧ DigAt w' d' (digN (mulF x y))) ∧ Below w.heap.size w w' := by
  obtain ⟨Da, ca, rfl, hca⟩ := ha
  obtain ⟨Db, cb, rfl, hcb⟩ := hb
  have HCA := Lib.hid hca; have HCB := Lib.hid hcb
  have HA := Lib.hid (digN_lt x); have HB := Lib.hid (digN_lt y)
  have HR := Lib.hid (mul_ref x y hx hy)
  have HZ := Lib.hid (zero_any w)
  have HI := Lib.hid (mulI_le (digN x) (digN y) (digN_lt x) (digN_lt y))
  have HO := Lib.hid (show (w.alloc (.cells zeros16 3)).heap[w.heap.size]? = some (.cells (dcl (mulI (digN x) (digN y) 0)) 3) from blk_new w _)
  have hB0 := below_new w (.cells zeros16 3)
  have hla := block_lt_of_cell (hca 0 (by decide)); have hlb := block_lt_of_cell (hcb 0 (by decide))
  clear hca hcb hx hy
  go_enter Tryd.func27, Tryd.ntmps27
  go_wp2_with fail
  refine HZ.out.mono ?_
  rintro e W1 ⟨rfl, rfl⟩
  go_wp2_with fail
  clear HZ
  generalize (w.alloc (.cells zeros16 3)) = W0 at *
  generalize hBB : w.heap.size = O at *
  have HBB := Lib.hid hBB
  clear hBB
  go_loopw [6] (fun iv wr => ∃ i : Nat, i ≤ 16 ∧ iv = .int .i64 (i : Int) ∧ wr.heap[O]? = some (.cells (dcl (mulI (digN x) (digN y) i)) 3) ∧ Below O w wr) (fun iv _ => 16 - (intOf iv).toNat)
  case atStart => exact ⟨0, by omega, rfl, HO.out, hB0⟩
  case round =>
    clear HO hB0
    obtain ⟨i, hi, rfl, ho, hbl⟩ := hrel
    have HO := Lib.hid ho
    clear ho
    by_cases hi16 : i < 16
    · have hdi : decide ((i : Int) < 16) = true := by simp; omega
      have HN : Hid (mulI (digN x) (digN y) (i + 1) = mulK (digN x) (digN y) i (mulI (digN x) (digN y) i) 16) := Lib.hid rfl
      have HM := Lib.hid (HI.out i (by omega))
      have HMl := Lib.hid (mulI_length (digN x) (digN y) i)
      generalize mulI (digN x) (digN y) i = m at *
      go_wp2_with fail
      go_loopw [7] (fun kv wr => ∃ k : Nat, k ≤ 16 ∧ kv = .int .i64 (k : Int) ∧ wr.heap[O]? = some (.cells (dcl (mulK (digN x) (digN y) i m k)) 3) ∧ Below O w wr) (fun kv _ => 16 - (intOf kv).toNat)
      case atStart => exact ⟨0, by omega, rfl, HO.out, hbl⟩
      case round =>
        clear HO hbl
        obtain ⟨k, hk, rfl, ho, hbl⟩ := hrel
        have HO := Lib.hid ho
        clear ho
        by_cases hk16 : k < 16
        · have hdk : decide ((k : Int) < 16) = true := by simp; omega
          have HR2 := Lib.hid (mulK_le (digN x) (digN y) i m _ HMl.out hi16 (HA.out i hi16) HB.out HM.out k (by omega))
          have HRl := Lib.hid (show (mulK (digN x) (digN y) i m k).length = 16 from by rw [mulK_length, HMl.out])
          have HRS : Hid (mulK (digN x) (digN y) i m (k + 1) = if i + k < 16 then (mulK (digN x) (digN y) i m k).set (i + k) ((mulK (digN x) (digN y) i m k).getD (i + k) 0 + (digN x).getD i 0 * (digN y).getD k 0) else (mulK (digN x) (digN y) i m k).set (i + k - 16) ((mulK (digN x) (digN y) i m k).getD (i + k - 16) 0 + 38 * (digN x).getD i 0 * (digN y).getD k 0)) := Lib.hid rfl
          have a1 := HA.out i hi16; have b1 := HB.out k hk16
          have p1 : (digN x).getD i 0 * (digN y).getD k 0 ≤ 4294836225 := Nat.mul_le_mul (show _ ≤ 65535 by omega) (show _ ≤ 65535 by omega)
          have c1 := (hbl.cell (p := ⟨Da, i, none⟩) hla).trans (HCA.out i hi16)
          have c2 := (hbl.cell (p := ⟨Db, k, none⟩) hlb).trans (HCB.out k hk16)
          generalize mulK (digN x) (digN y) i m k = r at *
          by_cases hlow : i + k < 16
          · have hdl : decide ((i : Int) + (k : Int) < 16) = true := by simp; omega
            rw [if_pos hlow] at HRS
            have z1 := HR2.out (i + k) hlow
            have c3 := dcl_cell HO.out (i + k) (by rw [HRl.out]; exact hlow)
            have q0 : (0 : Int) ≤ (i : Int) + (k : Int) := by omega
            have hij : ((i : Int) + (k : Int)).toNat = i + k := by omega
            generalize (digN x).getD i 0 = p at *
            generalize (digN y).getD k 0 = q at *
            generalize r.getD (i + k) 0 = z at *
            have hpq : (p : Int) * (q : Int) = ((p * q : Nat) : Int) := by simp
            have hz : (z : Int) + (p : Int) * (q : Int) = ((z + p * q : Nat) : Int) := by simp
            have p0 : (0 : Int) ≤ (p : Int) * (q : Int) := by omega
            have p2 : (p : Int) * (q : Int) ≤ 4294836225 := by omega
            have hz1 : z ≤ 45000000000000 := by omega
            have HZ2 := Lib.hid hz
            clear hz hpq p1 z1
            go_wp2_with fail
            have ka := cell_regrown c1; have kb := cell_regrown c2; have kc := cell_regrown c3
            refine wp_region_reads_tail 21 (by kernel_rfl) (by kernel_rfl) ?_
            simp only [List.take_succ_cons, List.take_zero, List.drop_succ_cons, List.drop_zero]
            repeat (first | go_big_quiet_step (fail) | quiet_step (fail))
            refine wpQuiet_nil ?_
            intro W1 hb1
            have hO1 := blk_below hb1 (blk_lt HO.out) HO.out
            have hbl1 : Below O w W1 := hbl.trans (hb1.mono (Nat.le_of_lt (blk_lt HO.out)))
            have cz := dcl_cell hO1 (i + k) (by rw [HRl.out]; exact hlow)
            have fz := frozen_of_row W1 O (i + k) _ _ hO1
            have s1 : (W1.setCell ⟨O, i + k, none⟩ (.int .i64 ((z : Int) + (p : Int) * (q : Int)))).heap[O]? = some (.cells (dcl (mulK (digN x) (digN y) i m (k + 1))) 3) := by rw [HZ2.out, HRS.out]; exact dcl_set hO1 (i + k) _
            have HS1 := Lib.hid s1
            have hbl2 : Below O w (W1.setCell ⟨O, i + k, none⟩ (.int .i64 ((z : Int) + (p : Int) * (q : Int)))) := hbl1.setCell (Nat.le_refl _) _
            clear s1 ka kb kc c1 c2 c3 hb1 hO1 hbl
            go_wp2_with fail
            go_roundw
            case rel => exact ⟨k + 1, by omega, by go_num, HS1.out, hbl2⟩
            case measure => simp [intOf]; omega
          · have hdl : decide ((i : Int) + (k : Int) < 16) = false := by simp; omega
            rw [if_neg hlow] at HRS
            obtain ⟨t, ht⟩ : ∃ t, i + k - 16 = t := ⟨_, rfl⟩
            have ht16 : t < 16 := by omega
            have htz : (i : Int) + (k : Int) - 16 = (t : Int) := by omega
            rw [ht] at HRS
            have z1 := HR2.out t ht16
            have c3 := dcl_cell HO.out t (by rw [HRl.out]; exact ht16)
            generalize (digN x).getD i 0 = p at *
            generalize (digN y).getD k 0 = q at *
            generalize r.getD t 0 = z at *
            have p38 : 38 * p * q = 38 * (p * q) := Nat.mul_assoc _ _ _
            have hpq : 38 * (p : Int) * (q : Int) = ((38 * p * q : Nat) : Int) := by simp
            have hz : (z : Int) + 38 * (p : Int) * (q : Int) = ((z + 38 * p * q : Nat) : Int) := by simp
            have p0 : (0 : Int) ≤ 38 * (p : Int) * (q : Int) := by omega
            have p2 : 38 * (p : Int) * (q : Int) ≤ 163203776550 := by omega
            have hz1 : z ≤ 45000000000000 := by omega
            have HZ2 := Lib.hid hz
            clear hz hpq p1 z1 p38
            go_wp2_with fail
            have ka := cell_regrown c1; have kb := cell_regrown c2; have kc := cell_regrown c3
            refine wp_region_reads_tail 24 (by kernel_rfl) (by kernel_rfl) ?_
            simp only [List.take_succ_cons, List.take_zero, List.drop_succ_cons, List.drop_zero]
            repeat (first | go_big_quiet_step (fail) | quiet_step (fail))
            refine wpQuiet_nil ?_
            intro W1 hb1
            have hO1 := blk_below hb1 (blk_lt HO.out) HO.out
            have hbl1 : Below O w W1 := hbl.trans (hb1.mono (Nat.le_of_lt (blk_lt HO.out)))
            have cz := dcl_cell hO1 t (by rw [HRl.out]; exact ht16)
            have fz := frozen_of_row W1 O t _ _ hO1
            have s1 : (W1.setCell ⟨O, t, none⟩ (.int .i64 ((z : Int) + 38 * (p : Int) * (q : Int)))).heap[O]? = some (.cells (dcl (mulK (digN x) (digN y) i m (k + 1))) 3) := by rw [HZ2.out, HRS.out]; exact dcl_set hO1 t _
            have HS1 := Lib.hid s1
            have hbl2 : Below O w (W1.setCell ⟨O, t, none⟩ (.int .i64 ((z : Int) + 38 * (p : Int) * (q : Int)))) := hbl1.setCell (Nat.le_refl _) _
            clear s1 ka kb kc c1 c2 c3 hb1 hO1 hbl
            go_wp2_with fail
            go_roundw
            case rel => exact ⟨k + 1, by omega, by go_num, HS1.out, hbl2⟩
            case measure => simp [intOf]; omega
        · have hdk : decide ((k : Int) < 16) = false := by simp; omega
          obtain rfl : k = 16 := by omega
          rw [← HN.out] at HO
          go_wp2_with fail
          go_roundw
          case rel => exact ⟨i + 1, by omega, by go_num, HO.out, hbl⟩
          case measure => simp [intOf]; omega
    · have hdi : decide ((i : Int) < 16) = false := by simp; omega
      obtain rfl : i = 16 := by omega
      have hle : ∀ j, j < 16 → (mulI (digN x) (digN y) 16).getD j 0 ≤ 1152921504606846976 := fun j hj => by have := HI.out 16 (by omega) j hj; omega
      have hRl := mulI_length (digN x) (digN y) 16
      obtain ⟨q1, q2, q3⟩ := fold_facts _ hRl hle
      generalize mulI (digN x) (digN y) 16 = V at *
      clear hle
      go_wp2_with fail
      refine (foldRef_any O V wr HO.out hRl q1).mono ?_
      rintro e W2 ⟨rfl, hO2, hbut⟩
      have hb2 : Below O w W2 := hbl.trans (hbut.below (Nat.le_refl _) (Nat.le_of_lt (blk_lt HO.out)))
      have hdg : DigAt W2 (.slice (some ⟨O, 0, none⟩) 16 16) (foldD V) := DigAt.of_block hO2 q2
      have HBl := Lib.hid (belowRef_any _ _ W2 hdg q2 q3)
      have hsO : O ≤ W2.heap.size := Nat.le_of_lt (blk_lt hO2)
      clear hdg hO2 hbut hbl
      go_wp2_with fail
      refine HBl.out.mono ?_
      rintro e W3 ⟨⟨d', rfl, hd3⟩, hb3⟩
      rw [HR.out] at hd3
      have HD3 := Lib.hid hd3
      have hb4 : Below O w W3 := hb2.trans (hb3.mono hsO)
      clear hd3 hb3 HBl
      go_wp2_with fail
      go_ret
      exact ⟨⟨_, rfl, HD3.out⟩, by rw [HBB.out]; exact hb4⟩
end Go.Proofs.YtfidcdkoggfjaaaDoor
