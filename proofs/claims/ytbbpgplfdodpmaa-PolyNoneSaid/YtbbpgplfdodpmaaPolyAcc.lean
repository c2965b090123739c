/- The program's sum over the pieces, and its tag. -/
import Derived.Test.YtbbpgplfdodpmaaPolyHalf
namespace Go.Proofs.Ytbbpgplfdodpmaa
open Go.RowKit Go.Sort
set_option maxRecDepth 100000
set_option linter.unusedSimpArgs false
set_option linter.unusedVariables false

/-- A whole row that was there, in every world of the class. -/
theorem row_regrown {P : Program} {w : World} (ty : TypeId) (g : Nat) (t : TypeId) (cs : Array Value) (fr : Nat × Nat) (d : TypeDesc) (hg : w.heap[g]? = some (.cells cs t fr))
    (hu : P.underlying ty = some d) (hd : (match d with | .struct _ | .array _ _ => true | _ => false) = true) (hi : (P.info? ty).map (·.size) = some cs.size) (n : Nat) (os : Array Obj) :
    (Instr.loadAt ty (.pointer (some ⟨g, 0, none⟩))).run P (grow (redrawn w n) os) = .ok (.agg cs) (grow (redrawn w n) os) := by
  have hg' : (grow (redrawn w n) os).heap[g]? = some (.cells cs t fr) := ((below_regrown w n os).block g (blk_lt hg)).trans hg
  simp only [Instr.loadAt, Instr.sureAddr, Sem.run_bind, Sem.run_pure, Result.andThen_ok, run_loadVar_row _ g t ty cs fr d hg' hu hd hi]

theorem wpQuiet_load_row {P : Program} {ops : Array Oper} {w : World} {Q : Act → Prop} {a : Act} {o : Oper} {rest : List Oper} (hw : Region.wanted o (yielded ops a.tmps) = true) (ty : TypeId) (x : Operand) (ho : o.op = .load ty x)
    (g : Nat) (hx : a.eval x = .pointer (some ⟨g, 0, none⟩)) (t : TypeId) (cs : Array Value) (fr : Nat × Nat) (d : TypeDesc) (hg : w.heap[g]? = some (.cells cs t fr))
    (hu : P.underlying ty = some d) (hd : (match d with | .struct _ | .array _ _ => true | _ => false) = true) (hi : (P.info? ty).map (·.size) = some cs.size)
    (h : wpQuiet P ops (fun w' => ∃ p : Regrown, w' = grow (redrawn w p.d) p.os) Q rest (a.put o.dst (.agg cs))) : wpQuiet P ops (fun w' => ∃ p : Regrown, w' = grow (redrawn w p.d) p.os) Q (o :: rest) a := by
  refine BigFrame.wpQuiet_want hw fun K hK => ⟨.agg cs, fun w' hw' => ?_, hK _ h⟩
  obtain ⟨p, rfl⟩ := hw'
  unfold Oper.quietAt execOp
  simp only [ho, hx, Sem.run_bind, Result.andThen_ok, row_regrown ty g t cs fr d hg hu hd hi p.d p.os]
  exact ⟨rfl, rfl⟩

theorem piece_step (rem : ByteArray) (l : List UInt8) (h : rem.data.toList = l) (n : Nat) (hn : (n = 16 ∧ 16 ≤ rem.size) ∨ (n = rem.size ∧ rem.size ≤ 16)) : (rem.extract 0 n).data.toList ++ [1] = l.take 16 ++ [1] := by
  have := piece_take rem l h n hn
  rw [← this]; simp

theorem piece_whole2 (rem : ByteArray) (l : List UInt8) (h : rem.data.toList = l) (hn : rem.size ≤ 16) : rem.data.toList ++ [1] = l.take 16 ++ [1] := by
  have hl : l.length = rem.size := by rw [← h, ← Lib.size_eq]
  rw [List.take_of_length_le (show l.length ≤ 16 by omega), h]

set_option maxHeartbeats 1000000 in
theorem accumulated_any (N : Nat) (data : ByteArray) (w : World) (hN : N < 1361129467683753853853498429727072845824) (hd : data.size ≤ 1099511627776) :
    Calls Try.prog 12 #[.agg (lmc (numL N)), .string data] w fun e w' => e = .returned (.agg (lmc (accL (numL N) data.data.toList ((data.size + 15) / 16)))) ∧ Below w.heap.size w w' := by
  obtain ⟨hz, hi⟩ := zero_of_info infoN
  have HNN := Lib.hid hN
  have HRL := Lib.hid (numL_length N)
  have HRI := Lib.hid (numL_in N)
  have HAI := Lib.hid (fun m => (acc_spec N hN data.data.toList m).2.1)
  have HG0 := Lib.hid (blk_old (o := .cells zeros5 33) (blk_old (o := .cells zeros5 33) (blk_new w (.cells (lmc (numL N)) 33))))
  have HR0 := Lib.hid (blk_old (o := .cells zeros5 33) (blk_new2 w (.cells (lmc (numL N)) 33) (.cells zeros5 33)))
  have HO0 := Lib.hid (blk_new3 w (.cells (lmc (numL N)) 33) (.cells zeros5 33) (.cells zeros5 33))
  have hb0 := below_new3 w (.cells (lmc (numL N)) 33) (.cells zeros5 33) (.cells zeros5 33)
  clear hi hN
  generalize numL N = r at *
  go_enter Try.func12, Try.ntmps12
  go_wp2_with fail
  clear hz
  generalize (((w.alloc _).alloc _).alloc _) = W0 at *
  generalize hBB : w.heap.size = B at *
  have HBB := Lib.hid hBB
  clear hBB
  go_loopw [1] (fun sv wr => ∃ (m : Nat) (rem : ByteArray), 16 * m ≤ data.size + 15 ∧ sv = .string rem ∧ rem.data.toList = data.data.toList.drop (16 * m) ∧ wr.heap[B]? = some (.cells (lmc r) 33) ∧ wr.heap[B + 1]? = some (.cells zeros5 33) ∧ wr.heap[B + 1 + 1]? = some (.cells (lmc (accL r data.data.toList m)) 33) ∧ Below B w wr) (fun sv _ => strLn sv)
  case atStart => exact ⟨0, data, by omega, rfl, by simp, HG0.out, HR0.out, HO0.out, hb0⟩
  case round =>
    clear HG0 HR0 HO0 hb0
    obtain ⟨m, rem, hm, rfl, hrem, hg, hr, ho, hb⟩ := hrel
    have HG := Lib.hid hg; have HR := Lib.hid hr; have HO := Lib.hid ho; have HRem := Lib.hid hrem
    have HRS := Lib.hid (show rem.size = data.size - 16 * m from by rw [Lib.size_eq, hrem, List.length_drop, ← Lib.size_eq])
    have hrle : rem.size ≤ 1099511627776 := by rw [HRS.out]; omega
    clear hg hr ho hrem
    have HAL := Lib.hid (accL_length r data.data.toList m)
    have HAm := Lib.hid (HAI.out m)
    have HACC : Hid (accL r data.data.toList (m + 1) = timesL (sumL (accL r data.data.toList m) (numL (pieceN data.data.toList m)) 5) r) := Lib.hid rfl
    have HAL1 := Lib.hid (accL_length r data.data.toList (m + 1))
    by_cases hpos : 0 < rem.size
    · have hdp : decide ((0 : Int) < (rem.size : Int)) = true := by simp; omega
      by_cases hbig : 16 ≤ rem.size
      · have hb1 : (16 : Int) ≤ (rem.size : Int) := by omega
        have hps : (rem.extract 0 16).size ≤ 16 := by rw [ByteArray.size_extract]; omega
        have HPc := Lib.hid (fun W => pieceNumber_any (rem.extract 0 16) W hps)
        rw [piece_step rem _ HRem.out 16 (by omega)] at HPc
        have HPn : Hid (leN ((data.data.toList.drop (16 * m)).take 16 ++ [1]) = pieceN data.data.toList m) := Lib.hid rfl
        rw [HPn.out] at HPc
        have hpl := numL_length (pieceN data.data.toList m)
        have hpi := numL_in (pieceN data.data.toList m)
        clear HPn hps
        generalize numL (pieceN data.data.toList m) = p at *
        have hsl : (sumL (accL r data.data.toList m) p 5).length = 5 := by rw [sumL_length, HAL.out]
        have hsi := sumIn _ _ HAL.out hpl _ _ HAm.out hpi
        have HPl := Lib.hid (fun W => plus_any (accL r data.data.toList m) p W HAL.out hpl (fun x hx => by obtain ⟨a, b⟩ := HAm.out x hx; exact ⟨a, by omega⟩) (fun x hx => by obtain ⟨a, b⟩ := hpi x hx; exact ⟨a, by omega⟩))
        have HT := Lib.hid (fun W => ownTimes_any (sumL (accL r data.data.toList m) p 5) r W hsl HRL.out (fun x hx => by obtain ⟨a, b⟩ := hsi x hx; exact ⟨a, by omega⟩) HRI.out)
        rw [← HACC.out] at HT
        have HIa := Lib.hid (sizeN _ HAL.out)
        have HIr := Lib.hid (sizeN _ HRL.out)
        have HIn := Lib.hid (sizeN _ HAL1.out)
        have HOn := Lib.hid (show (lmc (accL r data.data.toList m)).size = (lmc (accL r data.data.toList (m + 1))).size from by rw [lmc_size, lmc_size, HAL.out, HAL1.out])
        have H1n := Lib.hid (lmc_one (accL r data.data.toList (m + 1)))
        have HNx := Lib.hid (show (rem.extract 16 rem.size).data.toList = data.data.toList.drop (16 * (m + 1)) from by
          have h := piece_drop rem _ HRem.out 16 (by omega)
          rw [List.drop_drop, show 16 * m + 16 = 16 * (m + 1) by omega] at h
          exact h)
        have HNXS := Lib.hid (show (rem.extract 16 rem.size).size < rem.size from by rw [ByteArray.size_extract]; omega)
        clear hsl hsi hpl hpi HACC HAm HAL HAL1 HAI HRem
        obtain ⟨nx, hnx⟩ : ∃ x, x = accL r data.data.toList (m + 1) := ⟨_, rfl⟩
        rw [← hnx] at HT HIn HOn H1n
        have HNE := Lib.hid hnx
        clear hnx
        generalize accL r data.data.toList m = al at *
        generalize sumL al p 5 = sl at *
        go_wp2_with fail
        refine wp_region_reads_tail 8 (by kernel_rfl) (by kernel_rfl) ?_
        simp only [List.take_succ_cons, List.take_zero, List.drop_succ_cons, List.drop_zero]
        refine wpQuiet_load_row rfl 33 _ rfl (B + 1 + 1) rfl 33 _ (0, 0) _ HO.out Try.underlying33 rfl HIa.out ?_
        simp only [Act.put, List.setIfInBounds_toArray, List.set_cons_succ, List.set_cons_zero]
        repeat (first | go_big_quiet_step ((first | exact Calls.regrown_of (HPc.out _) | exact Calls.regrown_of (HPl.out _) | exact Calls.regrown_of (HT.out _))) | quiet_step ((first | exact Calls.regrown_of (HPc.out _) | exact Calls.regrown_of (HPl.out _) | exact Calls.regrown_of (HT.out _))))
        refine wpQuiet_load_row rfl 33 _ rfl B rfl 33 _ (0, 0) _ HG.out Try.underlying33 rfl HIr.out ?_
        simp only [Act.put, List.setIfInBounds_toArray, List.set_cons_succ, List.set_cons_zero]
        repeat (first | go_big_quiet_step ((first | exact Calls.regrown_of (HPc.out _) | exact Calls.regrown_of (HPl.out _) | exact Calls.regrown_of (HT.out _))) | quiet_step ((first | exact Calls.regrown_of (HPc.out _) | exact Calls.regrown_of (HPl.out _) | exact Calls.regrown_of (HT.out _))))
        refine wpQuiet_nil ?_
        intro W1 hb1
        have hlw := blk_lt HO.out
        have HG1 := Lib.hid (blk_below hb1 (by omega) HG.out)
        have HR1 := Lib.hid (blk_below hb1 (by omega) HR.out)
        have HO1 := Lib.hid (blk_below hb1 hlw HO.out)
        have hb2 : Below B w W1 := hb.trans (hb1.mono (by omega))
        have HO2 := Lib.hid (setRow_heap W1 (B + 1 + 1) _ (lmc nx) _ _ HO1.out)
        have HG2 := Lib.hid (show (W1.setRow (B + 1 + 1) (lmc nx)).heap[B]? = some (.cells (lmc r) 33) from by rw [setRow_other _ _ _ _ (by omega)]; exact HG1.out)
        have HR2 := Lib.hid (show (W1.setRow (B + 1 + 1) (lmc nx)).heap[B + 1]? = some (.cells zeros5 33) from by rw [setRow_other _ _ _ _ (by omega)]; exact HR1.out)
        have hb3 : Below B w (W1.setRow (B + 1 + 1) (lmc nx)) := below_setRow hb2 (by omega) _
        clear HPc HPl HT HG HR HO hb hb1 hlw HG1 HR1 hb2 HIa HIr
        go_wp2_with (with_reducible refine wpList_store_row rfl 33 _ _ rfl (B + 1 + 1) (lmc nx) rfl rfl 33 _ HO1.out HIn.out HOn.out H1n.out ?_)
        go_roundw
        case rel => exact ⟨m + 1, _, by have := HRS.out; omega, rfl, HNx.out, HG2.out, HR2.out, by rw [← HNE.out]; exact HO2.out, hb3⟩
        case measure => exact HNXS.out
      · have hb1 : (rem.size : Int) < 16 := by omega
        have hb1' : ¬ (16 : Int) ≤ (rem.size : Int) := by omega
        have hps : rem.size ≤ 16 := by omega
        have HPc := Lib.hid (fun W => pieceNumber_any rem W hps)
        rw [piece_whole2 rem _ HRem.out (by omega)] at HPc
        have HPn : Hid (leN ((data.data.toList.drop (16 * m)).take 16 ++ [1]) = pieceN data.data.toList m) := Lib.hid rfl
        rw [HPn.out] at HPc
        have hpl := numL_length (pieceN data.data.toList m)
        have hpi := numL_in (pieceN data.data.toList m)
        clear HPn hps
        generalize numL (pieceN data.data.toList m) = p at *
        have hsl : (sumL (accL r data.data.toList m) p 5).length = 5 := by rw [sumL_length, HAL.out]
        have hsi := sumIn _ _ HAL.out hpl _ _ HAm.out hpi
        have HPl := Lib.hid (fun W => plus_any (accL r data.data.toList m) p W HAL.out hpl (fun x hx => by obtain ⟨a, b⟩ := HAm.out x hx; exact ⟨a, by omega⟩) (fun x hx => by obtain ⟨a, b⟩ := hpi x hx; exact ⟨a, by omega⟩))
        have HT := Lib.hid (fun W => ownTimes_any (sumL (accL r data.data.toList m) p 5) r W hsl HRL.out (fun x hx => by obtain ⟨a, b⟩ := hsi x hx; exact ⟨a, by omega⟩) HRI.out)
        rw [← HACC.out] at HT
        have HIa := Lib.hid (sizeN _ HAL.out)
        have HIr := Lib.hid (sizeN _ HRL.out)
        have HIn := Lib.hid (sizeN _ HAL1.out)
        have HOn := Lib.hid (show (lmc (accL r data.data.toList m)).size = (lmc (accL r data.data.toList (m + 1))).size from by rw [lmc_size, lmc_size, HAL.out, HAL1.out])
        have H1n := Lib.hid (lmc_one (accL r data.data.toList (m + 1)))
        have HNx := Lib.hid (show ByteArray.empty.data.toList = data.data.toList.drop (16 * (m + 1)) from by
          rw [List.drop_of_length_le (show data.data.toList.length ≤ 16 * (m + 1) by rw [← Lib.size_eq]; have := HRS.out; omega)]; rfl)
        have HNXS := Lib.hid (show ByteArray.empty.size < rem.size from hpos)
        clear hsl hsi hpl hpi HACC HAm HAL HAL1 HAI HRem
        obtain ⟨nx, hnx⟩ : ∃ x, x = accL r data.data.toList (m + 1) := ⟨_, rfl⟩
        rw [← hnx] at HT HIn HOn H1n
        have HNE := Lib.hid hnx
        clear hnx
        generalize accL r data.data.toList m = al at *
        generalize sumL al p 5 = sl at *
        go_wp2_with fail
        refine wp_region_reads_tail 8 (by kernel_rfl) (by kernel_rfl) ?_
        simp only [List.take_succ_cons, List.take_zero, List.drop_succ_cons, List.drop_zero]
        refine wpQuiet_load_row rfl 33 _ rfl (B + 1 + 1) rfl 33 _ (0, 0) _ HO.out Try.underlying33 rfl HIa.out ?_
        simp only [Act.put, List.setIfInBounds_toArray, List.set_cons_succ, List.set_cons_zero]
        repeat (first | go_big_quiet_step ((first | exact Calls.regrown_of (HPc.out _) | exact Calls.regrown_of (HPl.out _) | exact Calls.regrown_of (HT.out _))) | quiet_step ((first | exact Calls.regrown_of (HPc.out _) | exact Calls.regrown_of (HPl.out _) | exact Calls.regrown_of (HT.out _))))
        refine wpQuiet_load_row rfl 33 _ rfl B rfl 33 _ (0, 0) _ HG.out Try.underlying33 rfl HIr.out ?_
        simp only [Act.put, List.setIfInBounds_toArray, List.set_cons_succ, List.set_cons_zero]
        repeat (first | go_big_quiet_step ((first | exact Calls.regrown_of (HPc.out _) | exact Calls.regrown_of (HPl.out _) | exact Calls.regrown_of (HT.out _))) | quiet_step ((first | exact Calls.regrown_of (HPc.out _) | exact Calls.regrown_of (HPl.out _) | exact Calls.regrown_of (HT.out _))))
        refine wpQuiet_nil ?_
        intro W1 hb1
        have hlw := blk_lt HO.out
        have HG1 := Lib.hid (blk_below hb1 (by omega) HG.out)
        have HR1 := Lib.hid (blk_below hb1 (by omega) HR.out)
        have HO1 := Lib.hid (blk_below hb1 hlw HO.out)
        have hb2 : Below B w W1 := hb.trans (hb1.mono (by omega))
        have HO2 := Lib.hid (setRow_heap W1 (B + 1 + 1) _ (lmc nx) _ _ HO1.out)
        have HG2 := Lib.hid (show (W1.setRow (B + 1 + 1) (lmc nx)).heap[B]? = some (.cells (lmc r) 33) from by rw [setRow_other _ _ _ _ (by omega)]; exact HG1.out)
        have HR2 := Lib.hid (show (W1.setRow (B + 1 + 1) (lmc nx)).heap[B + 1]? = some (.cells zeros5 33) from by rw [setRow_other _ _ _ _ (by omega)]; exact HR1.out)
        have hb3 : Below B w (W1.setRow (B + 1 + 1) (lmc nx)) := below_setRow hb2 (by omega) _
        clear HPc HPl HT HG HR HO hb hb1 hlw HG1 HR1 hb2 HIa HIr
        go_wp2_with (with_reducible refine wpList_store_row rfl 33 _ _ rfl (B + 1 + 1) (lmc nx) rfl rfl 33 _ HO1.out HIn.out HOn.out H1n.out ?_)
        go_roundw
        case rel => exact ⟨m + 1, _, by have := HRS.out; omega, rfl, HNx.out, HG2.out, HR2.out, by rw [← HNE.out]; exact HO2.out, hb3⟩
        case measure => exact HNXS.out
    · have hdp : decide ((0 : Int) < (rem.size : Int)) = false := decide_eq_false (by omega)
      have hmm : m = (data.size + 15) / 16 := by have := HRS.out; omega
      have HROW : Hid (accL r data.data.toList m = accL r data.data.toList ((data.size + 15) / 16)) := Lib.hid (by rw [hmm])
      have hll := HAL.out
      clear hmm HACC HAL HAL1 HAm HAI
      generalize accL r data.data.toList m = row at *
      have HI2 := Lib.hid (sizeN row hll)
      have HSz := Lib.hid (zeros5_size row hll)
      have HOne := Lib.hid (lmc_one row)
      clear hll
      go_wp2_with (first
        | (with_reducible refine wpList_load_row rfl 33 _ rfl (B + 1 + 1) rfl 33 _ (0, 0) _ HO.out Try.underlying33 rfl HI2.out ?_)
        | (with_reducible refine wpList_store_row rfl 33 _ _ rfl (B + 1) (lmc row) rfl rfl 33 _ HR.out HI2.out HSz.out HOne.out ?_))
      exact bodyPost_ret (v := .agg (lmc row)) (results_cell_row (by rfl) _ _ (B + 1) 33 _ (0, 0) _ rfl (setRow_heap _ _ _ _ _ _ HR.out) Try.underlying33 rfl HI2.out) rfl ⟨by rw [HROW.out], by rw [HBB.out]; exact below_setRow hb (by omega) _⟩
end Go.Proofs.Ytbbpgplfdodpmaa
