/- Package hello: fields: a message with what stands in a body. -/
import Derived.Test.YtjemikbnncfonaaHpB
import Derived.Test.YtjemikbnncfonaaHeC
namespace Go.Proofs.Ytjemikbnncfonaa
open Go.RowKit Go.Sort
set_option maxRecDepth 100000
set_option linter.unusedSimpArgs false
set_option linter.unusedVariables false

theorem pt_size (s : ByteArray) (a b : Int) : (ptB s a b).size ≤ s.size := by
  rw [ptB]
  split
  · exact Nat.zero_le _
  · rw [part_size]; split <;> omega
theorem sizeKH (k : Int) : (Try.prog.info? 24).map (·.size) = some (kR k).size := sizeMsgH _ _
theorem sizeML (a b c d e f : Value) : (Try.prog.info? 24).map (·.size) = some (#[a, b, c, d, e, f] : Array Value).size := sizeMsgH noM (.slice none 0 0)
theorem oneML (k : Int) (rn sh : ByteArray) (ao : Option Addr) (n c : Nat) (da : ByteArray) (ask : Bool) : (#[.int .i64 k, .string rn, .string sh, .slice ao n c, .string da, .bool ask] : Array Value).all (·.oneCell') = true := oneMsg ⟨k, rn, sh, [], da, ask⟩ ao n c
theorem msh_put {B g : Nat} {w W : World} {m : HMsg} {sl : Value} (hg : B < g) (HG : W.heap[g]? = some (.cells (msC m sl) 24)) (HR : W.heap[B]? = some (.cells zM 24)) (hb : Below B w W) (i : Nat) (v : Value) (m' : HMsg) (sl' : Value) (h : (msC m sl).setIfInBounds i v = msC m' sl') :
    (W.setCell ⟨g, i, none⟩ v).heap[g]? = some (.cells (msC m' sl') 24) ∧ (W.setCell ⟨g, i, none⟩ v).heap[B]? = some (.cells zM 24) ∧ Below B w (W.setCell ⟨g, i, none⟩ v) ∧ W.frozen? ⟨g, i, none⟩ = false := by
  have h1 : (W.setCell ⟨g, i, none⟩ v).heap[B]? = some (.cells zM 24) := (heap_setCell_other _ _ _ _ (by simp; omega)).trans HR
  exact ⟨by rw [← h]; exact heap_setCell_same _ _ _ _ _ _ HG, h1, hb.setCell (Nat.le_of_lt hg) _, frozen_of_row _ _ _ _ _ HG⟩
set_option maxHeartbeats 4000000 in
theorem fieldsNo (s : ByteArray) (w : World) (hs : s.size ≤ 100000) (k : Int) (hno : k ≠ 1 ∧ k ≠ 2 ∧ k ≠ 11 ∧ k ≠ 15 ∧ k ≠ 20 ∧ k ≠ 24) :
    Calls Try.prog 20 #[.int .i64 k, .string s] w fun e w' => (∃ ao c, e = .returned (.agg (msC (fld k s) (.slice ao (fld k s).su.length c))) ∧ w'.ownsRow w.heap.size 3 1 (.slice ao (fld k s).su.length c) (fld k s).su.length (iCells (fld k s).su)) ∧ Below w.heap.size w w' := by
  obtain ⟨hzz, -⟩ := zero_of_info infoMsgH
  have HNW := Lib.hid (blk_new2 w (.cells zM 24) (.cells zM 24))
  have HG := setRow_heap _ (w.heap.size + 1) _ (kR k) _ _ HNW.out
  have HR : (((w.alloc (.cells zM 24)).alloc (.cells zM 24)).setRow (w.heap.size + 1) (kR k)).heap[w.heap.size]? = some (.cells zM 24) := (setRow_other _ _ _ _ (by omega)).trans (blk_old (o := (.cells zM 24)) (blk_new w (.cells zM 24)))
  have hb := below_setRow (below_new2 w (.cells zM 24) (.cells zM 24)) (Nat.le_succ w.heap.size) (kR k)
  have rk := rowK k
  have hBsz : w.heap.size + 1 < (((w.alloc (.cells zM 24)).alloc (.cells zM 24)).setRow (w.heap.size + 1) (kR k)).heap.size := blk_lt HG
  replace HG : (((w.alloc (.cells zM 24)).alloc (.cells zM 24)).setRow (w.heap.size + 1) (kR k)).heap[w.heap.size + 1]? = some (.cells (msC ⟨k, emB, emB, [], emB, false⟩ (.slice none 0 0)) 24) := HG
  obtain ⟨c0, c1, c2, c3, c4, c5⟩ := ms_cells HG
  dsimp only at c0 c1 c2 c3 c4 c5
  have dk1 : (k == 1) = false := beq_eq_false_iff_ne.2 hno.1
  have dk2 : (k == 2) = false := beq_eq_false_iff_ne.2 hno.2.1
  have dk11 : (k == 11) = false := beq_eq_false_iff_ne.2 hno.2.2.1
  have dk15 : (k == 15) = false := beq_eq_false_iff_ne.2 hno.2.2.2.1
  have dk20 : (k == 20) = false := beq_eq_false_iff_ne.2 hno.2.2.2.2.1
  have dk24 : (k == 24) = false := beq_eq_false_iff_ne.2 hno.2.2.2.2.2
  have HF : Hid (fld k s = ⟨k, emB, emB, [], emB, false⟩) := Lib.hid (by obtain ⟨n1, n2, n3, n4, n5, n6⟩ := hno; rw [fld, if_neg n1, if_neg n2, if_neg n3, if_neg n4, if_neg n5, if_neg n6])
  clear hno
  have HP := Lib.hid HG
  have HQ := Lib.hid HR
  have HB := Lib.hid hb
  clear hs hb HG HR
  go_enter Try.func20, Try.ntmps20
  go_wp2_with (first | (with_reducible refine wpList_store_row rfl 24 _ _ rfl (w.heap.size + 1) (kR k) rfl rfl 24 _ HNW.out (sizeKH _) rfl (oneK _) ?_) | (with_reducible refine wpList_store_row rfl 24 _ _ rfl w.heap.size #[.int .i64 k, .string emB, .string emB, .slice none 0 0, .string emB, .bool false] rfl rfl 24 _ HQ.out (sizeML _ _ _ _ _ _) rfl (oneML _ _ _ _ _ _ _ _) ?_))
  (try simp only [Exit.inBlock, Exit.then]); exact bodyPost_ret (results_cell_row (by rfl) _ _ w.heap.size 24 _ (0, 0) _ rfl (setRow_heap _ _ _ _ _ _ HQ.out) Try.underlying24 rfl (sizeML _ _ _ _ _ _)) rfl ⟨⟨none, 0, by rw [HF.out]; first | rfl | (simp only [HLN.out]; rfl), by rw [HF.out]; exact World.ownsRow_nil _ _ _ _⟩, below_setRow HB.out (Nat.le_refl _) _⟩
set_option maxHeartbeats 4000000 in
theorem fields20 (s : ByteArray) (w : World) (hs : s.size ≤ 100000) :
    Calls Try.prog 20 #[.int .i64 20, .string s] w fun e w' => (∃ ao c, e = .returned (.agg (msC (fld 20 s) (.slice ao (fld 20 s).su.length c))) ∧ w'.ownsRow w.heap.size 3 1 (.slice ao (fld 20 s).su.length c) (fld 20 s).su.length (iCells (fld 20 s).su)) ∧ Below w.heap.size w w' := by
  obtain ⟨hzz, -⟩ := zero_of_info infoMsgH
  have HNW := Lib.hid (blk_new2 w (.cells zM 24) (.cells zM 24))
  have HG := setRow_heap _ (w.heap.size + 1) _ (kR 20) _ _ HNW.out
  have HR : (((w.alloc (.cells zM 24)).alloc (.cells zM 24)).setRow (w.heap.size + 1) (kR 20)).heap[w.heap.size]? = some (.cells zM 24) := (setRow_other _ _ _ _ (by omega)).trans (blk_old (o := (.cells zM 24)) (blk_new w (.cells zM 24)))
  have hb := below_setRow (below_new2 w (.cells zM 24) (.cells zM 24)) (Nat.le_succ w.heap.size) (kR 20)
  have rk := rowK 20
  have hBsz : w.heap.size + 1 < (((w.alloc (.cells zM 24)).alloc (.cells zM 24)).setRow (w.heap.size + 1) (kR 20)).heap.size := blk_lt HG
  replace HG : (((w.alloc (.cells zM 24)).alloc (.cells zM 24)).setRow (w.heap.size + 1) (kR 20)).heap[w.heap.size + 1]? = some (.cells (msC ⟨20, emB, emB, [], emB, false⟩ (.slice none 0 0)) 24) := HG
  obtain ⟨c0, c1, c2, c3, c4, c5⟩ := ms_cells HG
  dsimp only at c0 c1 c2 c3 c4 c5
  have HF : Hid (fld 20 s = ⟨20, emB, emB, [], s, false⟩) := Lib.hid rfl
  obtain ⟨p1, r1, b1, fz1⟩ := msh_put (Nat.lt_succ_self _) HG HR hb 4 (.string s) ⟨20, emB, emB, [], s, false⟩ (.slice none 0 0) rfl
  obtain ⟨s1_0, s1_1, s1_2, s1_3, s1_4, s1_5⟩ := ms_cells p1
  dsimp only at s1_0 s1_1 s1_2 s1_3 s1_4 s1_5
  have HP := Lib.hid p1
  have HQ := Lib.hid r1
  have HB := Lib.hid b1
  clear hs hb HG HR p1 r1 b1
  go_enter Try.func20, Try.ntmps20
  go_wp2_with (first | (with_reducible refine wpList_store_row rfl 24 _ _ rfl (w.heap.size + 1) (kR 20) rfl rfl 24 _ HNW.out (sizeKH _) rfl (oneK _) ?_) | (with_reducible refine wpList_store_row rfl 24 _ _ rfl w.heap.size #[.int .i64 20, .string emB, .string emB, .slice none 0 0, .string s, .bool false] rfl rfl 24 _ HQ.out (sizeML _ _ _ _ _ _) rfl (oneML _ _ _ _ _ _ _ _) ?_))
  (try simp only [Exit.inBlock, Exit.then]); exact bodyPost_ret (results_cell_row (by rfl) _ _ w.heap.size 24 _ (0, 0) _ rfl (setRow_heap _ _ _ _ _ _ HQ.out) Try.underlying24 rfl (sizeML _ _ _ _ _ _)) rfl ⟨⟨none, 0, by rw [HF.out]; first | rfl | (simp only [HLN.out]; rfl), by rw [HF.out]; exact World.ownsRow_nil _ _ _ _⟩, below_setRow HB.out (Nat.le_refl _) _⟩
set_option maxHeartbeats 4000000 in
theorem fields24 (s : ByteArray) (w : World) (hs : s.size ≤ 100000) :
    Calls Try.prog 20 #[.int .i64 24, .string s] w fun e w' => (∃ ao c, e = .returned (.agg (msC (fld 24 s) (.slice ao (fld 24 s).su.length c))) ∧ w'.ownsRow w.heap.size 3 1 (.slice ao (fld 24 s).su.length c) (fld 24 s).su.length (iCells (fld 24 s).su)) ∧ Below w.heap.size w w' := by
  obtain ⟨hzz, -⟩ := zero_of_info infoMsgH
  have HNW := Lib.hid (blk_new2 w (.cells zM 24) (.cells zM 24))
  have HG := setRow_heap _ (w.heap.size + 1) _ (kR 24) _ _ HNW.out
  have HR : (((w.alloc (.cells zM 24)).alloc (.cells zM 24)).setRow (w.heap.size + 1) (kR 24)).heap[w.heap.size]? = some (.cells zM 24) := (setRow_other _ _ _ _ (by omega)).trans (blk_old (o := (.cells zM 24)) (blk_new w (.cells zM 24)))
  have hb := below_setRow (below_new2 w (.cells zM 24) (.cells zM 24)) (Nat.le_succ w.heap.size) (kR 24)
  have rk := rowK 24
  have hBsz : w.heap.size + 1 < (((w.alloc (.cells zM 24)).alloc (.cells zM 24)).setRow (w.heap.size + 1) (kR 24)).heap.size := blk_lt HG
  replace HG : (((w.alloc (.cells zM 24)).alloc (.cells zM 24)).setRow (w.heap.size + 1) (kR 24)).heap[w.heap.size + 1]? = some (.cells (msC ⟨24, emB, emB, [], emB, false⟩ (.slice none 0 0)) 24) := HG
  obtain ⟨c0, c1, c2, c3, c4, c5⟩ := ms_cells HG
  dsimp only at c0 c1 c2 c3 c4 c5
  have hbq := he_one s
  obtain ⟨q, hq⟩ : ∃ q, decide (s = toB [1]) = q := ⟨_, rfl⟩
  rw [hq] at hbq
  have HF : Hid (fld 24 s = ⟨24, emB, emB, [], emB, q⟩) := Lib.hid (by rw [← hq]; rfl)
  clear hq
  obtain ⟨p1, r1, b1, fz1⟩ := msh_put (Nat.lt_succ_self _) HG HR hb 5 (.bool q) ⟨24, emB, emB, [], emB, q⟩ (.slice none 0 0) rfl
  obtain ⟨s1_0, s1_1, s1_2, s1_3, s1_4, s1_5⟩ := ms_cells p1
  dsimp only at s1_0 s1_1 s1_2 s1_3 s1_4 s1_5
  have HP := Lib.hid p1
  have HQ := Lib.hid r1
  have HB := Lib.hid b1
  clear hs hb HG HR p1 r1 b1
  go_enter Try.func20, Try.ntmps20
  go_wp2_with (first | (with_reducible refine wpList_store_row rfl 24 _ _ rfl (w.heap.size + 1) (kR 24) rfl rfl 24 _ HNW.out (sizeKH _) rfl (oneK _) ?_) | (with_reducible refine wpList_store_row rfl 24 _ _ rfl w.heap.size #[.int .i64 24, .string emB, .string emB, .slice none 0 0, .string emB, .bool q] rfl rfl 24 _ HQ.out (sizeML _ _ _ _ _ _) rfl (oneML _ _ _ _ _ _ _ _) ?_))
  (try simp only [Exit.inBlock, Exit.then]); exact bodyPost_ret (results_cell_row (by rfl) _ _ w.heap.size 24 _ (0, 0) _ rfl (setRow_heap _ _ _ _ _ _ HQ.out) Try.underlying24 rfl (sizeML _ _ _ _ _ _)) rfl ⟨⟨none, 0, by rw [HF.out]; first | rfl | (simp only [HLN.out]; rfl), by rw [HF.out]; exact World.ownsRow_nil _ _ _ _⟩, below_setRow HB.out (Nat.le_refl _) _⟩
set_option maxHeartbeats 4000000 in
theorem fields11 (s : ByteArray) (w : World) (hs : s.size ≤ 100000) :
    Calls Try.prog 20 #[.int .i64 11, .string s] w fun e w' => (∃ ao c, e = .returned (.agg (msC (fld 11 s) (.slice ao (fld 11 s).su.length c))) ∧ w'.ownsRow w.heap.size 3 1 (.slice ao (fld 11 s).su.length c) (fld 11 s).su.length (iCells (fld 11 s).su)) ∧ Below w.heap.size w w' := by
  obtain ⟨hzz, -⟩ := zero_of_info infoMsgH
  have HNW := Lib.hid (blk_new2 w (.cells zM 24) (.cells zM 24))
  have HG := setRow_heap _ (w.heap.size + 1) _ (kR 11) _ _ HNW.out
  have HR : (((w.alloc (.cells zM 24)).alloc (.cells zM 24)).setRow (w.heap.size + 1) (kR 11)).heap[w.heap.size]? = some (.cells zM 24) := (setRow_other _ _ _ _ (by omega)).trans (blk_old (o := (.cells zM 24)) (blk_new w (.cells zM 24)))
  have hb := below_setRow (below_new2 w (.cells zM 24) (.cells zM 24)) (Nat.le_succ w.heap.size) (kR 11)
  have rk := rowK 11
  have hBsz : w.heap.size + 1 < (((w.alloc (.cells zM 24)).alloc (.cells zM 24)).setRow (w.heap.size + 1) (kR 11)).heap.size := blk_lt HG
  replace HG : (((w.alloc (.cells zM 24)).alloc (.cells zM 24)).setRow (w.heap.size + 1) (kR 11)).heap[w.heap.size + 1]? = some (.cells (msC ⟨11, emB, emB, [], emB, false⟩ (.slice none 0 0)) 24) := HG
  have HF : Hid (fld 11 s = ⟨11, emB, emB, [], (ptB s 7 ((s.size : Int) - 2)), false⟩) := Lib.hid rfl
  have CP := Lib.hid (fun W => hpart_any s 7 ((s.size : Int) - 2) W (by omega) (by omega))
  have w1 : IntKind.i64.wrap ((s.size : Int) - 2) = (s.size : Int) - 2 := by rw [IntKind.wrap_i64]; omega
  generalize (ptB s 7 ((s.size : Int) - 2)) = p at *
  have hsz := hBsz
  clear hs hBsz
  go_enter Try.func20, Try.ntmps20
  go_wp2_with (with_reducible refine wpList_store_row rfl 24 _ _ rfl (w.heap.size + 1) (kR 11) rfl rfl 24 _ HNW.out (sizeKH _) rfl (oneK _) ?_)
  generalize hW0 : ((w.alloc (.cells zM 24)).alloc (.cells zM 24)).setRow (w.heap.size + 1) (kR 11) = W0 at *
  clear hW0
  clear rk HNW
  refine (CP.out _).mono ?_
  rintro e W1 ⟨rfl, bk⟩
  have HG3 := blk_below bk (blk_lt HG) HG
  have HR3 := blk_below bk (blk_lt HR) HR
  have hb3 := hb.trans (bk.mono hb.size)
  have hsz3 := Nat.le_trans hsz bk.size
  clear CP HG HR hb hsz
  have HG := HG3
  have HR := HR3
  have hb := hb3
  have hsz := hsz3
  clear HG3 HR3 hb3 hsz3
  clear bk hsz
  obtain ⟨c0, c1, c2, c3, c4, c5⟩ := ms_cells HG
  dsimp only at c0 c1 c2 c3 c4 c5
  obtain ⟨p1, r1, b1, fz1⟩ := msh_put (Nat.lt_succ_self _) HG HR hb 4 (.string p) ⟨11, emB, emB, [], p, false⟩ (.slice none 0 0) rfl
  obtain ⟨s1_0, s1_1, s1_2, s1_3, s1_4, s1_5⟩ := ms_cells p1
  dsimp only at s1_0 s1_1 s1_2 s1_3 s1_4 s1_5
  have HP := Lib.hid p1
  have HQ := Lib.hid r1
  have HB := Lib.hid b1
  clear hb HG HR p1 r1 b1
  go_wp2_with (with_reducible refine wpList_store_row rfl 24 _ _ rfl w.heap.size #[.int .i64 11, .string emB, .string emB, .slice none 0 0, .string p, .bool false] rfl rfl 24 _ HQ.out (sizeML _ _ _ _ _ _) rfl (oneML _ _ _ _ _ _ _ _) ?_)
  (try simp only [Exit.inBlock, Exit.then]); exact bodyPost_ret (results_cell_row (by rfl) _ _ w.heap.size 24 _ (0, 0) _ rfl (setRow_heap _ _ _ _ _ _ HQ.out) Try.underlying24 rfl (sizeML _ _ _ _ _ _)) rfl ⟨⟨none, 0, by rw [HF.out]; first | rfl | (simp only [HLN.out]; rfl), by rw [HF.out]; exact World.ownsRow_nil _ _ _ _⟩, below_setRow HB.out (Nat.le_refl _) _⟩
set_option maxHeartbeats 4000000 in
theorem fields15 (s : ByteArray) (w : World) (hs : s.size ≤ 100000) :
    Calls Try.prog 20 #[.int .i64 15, .string s] w fun e w' => (∃ ao c, e = .returned (.agg (msC (fld 15 s) (.slice ao (fld 15 s).su.length c))) ∧ w'.ownsRow w.heap.size 3 1 (.slice ao (fld 15 s).su.length c) (fld 15 s).su.length (iCells (fld 15 s).su)) ∧ Below w.heap.size w w' := by
  obtain ⟨hzz, -⟩ := zero_of_info infoMsgH
  have HNW := Lib.hid (blk_new2 w (.cells zM 24) (.cells zM 24))
  have HG := setRow_heap _ (w.heap.size + 1) _ (kR 15) _ _ HNW.out
  have HR : (((w.alloc (.cells zM 24)).alloc (.cells zM 24)).setRow (w.heap.size + 1) (kR 15)).heap[w.heap.size]? = some (.cells zM 24) := (setRow_other _ _ _ _ (by omega)).trans (blk_old (o := (.cells zM 24)) (blk_new w (.cells zM 24)))
  have hb := below_setRow (below_new2 w (.cells zM 24) (.cells zM 24)) (Nat.le_succ w.heap.size) (kR 15)
  have rk := rowK 15
  have hBsz : w.heap.size + 1 < (((w.alloc (.cells zM 24)).alloc (.cells zM 24)).setRow (w.heap.size + 1) (kR 15)).heap.size := blk_lt HG
  replace HG : (((w.alloc (.cells zM 24)).alloc (.cells zM 24)).setRow (w.heap.size + 1) (kR 15)).heap[w.heap.size + 1]? = some (.cells (msC ⟨15, emB, emB, [], emB, false⟩ (.slice none 0 0)) 24) := HG
  have HF : Hid (fld 15 s = ⟨15, emB, emB, [], (ptB s 4 (s.size : Int)), false⟩) := Lib.hid rfl
  have CP := Lib.hid (fun W => hpart_any s 4 (s.size : Int) W (by omega) (by omega))
  generalize (ptB s 4 (s.size : Int)) = p at *
  have hsz := hBsz
  clear hs hBsz
  go_enter Try.func20, Try.ntmps20
  go_wp2_with (with_reducible refine wpList_store_row rfl 24 _ _ rfl (w.heap.size + 1) (kR 15) rfl rfl 24 _ HNW.out (sizeKH _) rfl (oneK _) ?_)
  generalize hW0 : ((w.alloc (.cells zM 24)).alloc (.cells zM 24)).setRow (w.heap.size + 1) (kR 15) = W0 at *
  clear hW0
  clear rk HNW
  refine (CP.out _).mono ?_
  rintro e W1 ⟨rfl, bk⟩
  have HG3 := blk_below bk (blk_lt HG) HG
  have HR3 := blk_below bk (blk_lt HR) HR
  have hb3 := hb.trans (bk.mono hb.size)
  have hsz3 := Nat.le_trans hsz bk.size
  clear CP HG HR hb hsz
  have HG := HG3
  have HR := HR3
  have hb := hb3
  have hsz := hsz3
  clear HG3 HR3 hb3 hsz3
  clear bk hsz
  obtain ⟨c0, c1, c2, c3, c4, c5⟩ := ms_cells HG
  dsimp only at c0 c1 c2 c3 c4 c5
  obtain ⟨p1, r1, b1, fz1⟩ := msh_put (Nat.lt_succ_self _) HG HR hb 4 (.string p) ⟨15, emB, emB, [], p, false⟩ (.slice none 0 0) rfl
  obtain ⟨s1_0, s1_1, s1_2, s1_3, s1_4, s1_5⟩ := ms_cells p1
  dsimp only at s1_0 s1_1 s1_2 s1_3 s1_4 s1_5
  have HP := Lib.hid p1
  have HQ := Lib.hid r1
  have HB := Lib.hid b1
  clear hb HG HR p1 r1 b1
  go_wp2_with (with_reducible refine wpList_store_row rfl 24 _ _ rfl w.heap.size #[.int .i64 15, .string emB, .string emB, .slice none 0 0, .string p, .bool false] rfl rfl 24 _ HQ.out (sizeML _ _ _ _ _ _) rfl (oneML _ _ _ _ _ _ _ _) ?_)
  (try simp only [Exit.inBlock, Exit.then]); exact bodyPost_ret (results_cell_row (by rfl) _ _ w.heap.size 24 _ (0, 0) _ rfl (setRow_heap _ _ _ _ _ _ HQ.out) Try.underlying24 rfl (sizeML _ _ _ _ _ _)) rfl ⟨⟨none, 0, by rw [HF.out]; first | rfl | (simp only [HLN.out]; rfl), by rw [HF.out]; exact World.ownsRow_nil _ _ _ _⟩, below_setRow HB.out (Nat.le_refl _) _⟩
set_option maxHeartbeats 4000000 in
theorem fields1 (s : ByteArray) (w : World) (hs : s.size ≤ 100000) :
    Calls Try.prog 20 #[.int .i64 1, .string s] w fun e w' => (∃ ao c, e = .returned (.agg (msC (fld 1 s) (.slice ao (fld 1 s).su.length c))) ∧ w'.ownsRow w.heap.size 3 1 (.slice ao (fld 1 s).su.length c) (fld 1 s).su.length (iCells (fld 1 s).su)) ∧ Below w.heap.size w w' := by
  obtain ⟨hzz, -⟩ := zero_of_info infoMsgH
  have HNW := Lib.hid (blk_new2 w (.cells zM 24) (.cells zM 24))
  have HG := setRow_heap _ (w.heap.size + 1) _ (kR 1) _ _ HNW.out
  have HR : (((w.alloc (.cells zM 24)).alloc (.cells zM 24)).setRow (w.heap.size + 1) (kR 1)).heap[w.heap.size]? = some (.cells zM 24) := (setRow_other _ _ _ _ (by omega)).trans (blk_old (o := (.cells zM 24)) (blk_new w (.cells zM 24)))
  have hb := below_setRow (below_new2 w (.cells zM 24) (.cells zM 24)) (Nat.le_succ w.heap.size) (kR 1)
  have rk := rowK 1
  have hBsz : w.heap.size + 1 < (((w.alloc (.cells zM 24)).alloc (.cells zM 24)).setRow (w.heap.size + 1) (kR 1)).heap.size := blk_lt HG
  replace HG : (((w.alloc (.cells zM 24)).alloc (.cells zM 24)).setRow (w.heap.size + 1) (kR 1)).heap[w.heap.size + 1]? = some (.cells (msC ⟨1, emB, emB, [], emB, false⟩ (.slice none 0 0)) 24) := HG
  have CX := Lib.hid (fun W => exchange_any s W (by omega))
  have CP := Lib.hid (fun W => hpart_any s 37 ((s.size : Int) - 69) W (by omega) (by omega))
  have hps : (ptB s 37 ((s.size : Int) - 69)).size ≤ 1000000 := Nat.le_trans (pt_size s _ _) (by omega)
  have CS := Lib.hid (fun W => suites_any (ptB s 37 ((s.size : Int) - 69)) W hps)
  have w1 : IntKind.i64.wrap ((s.size : Int) - 69) = (s.size : Int) - 69 := by rw [IntKind.wrap_i64]; omega
  have HF : Hid (fld 1 s = ⟨1, (ptB s 2 34), (ptB s ((s.size : Int) - 32) (s.size : Int)), nmL (ofB (ptB s 37 ((s.size : Int) - 69))), emB, false⟩) := Lib.hid rfl
  generalize (ptB s 2 34) = p at *
  generalize (ptB s ((s.size : Int) - 32) (s.size : Int)) = q at *
  generalize (ptB s 37 ((s.size : Int) - 69)) = t at *
  generalize nmL (ofB t) = l at *
  obtain ⟨n, hn⟩ : ∃ n, l.length = n := ⟨_, rfl⟩
  rw [hn] at CS
  have HLN := Lib.hid hn
  have hsz := hBsz
  clear hs hBsz hps hn
  go_enter Try.func20, Try.ntmps20
  go_wp2_with (with_reducible refine wpList_store_row rfl 24 _ _ rfl (w.heap.size + 1) (kR 1) rfl rfl 24 _ HNW.out (sizeKH _) rfl (oneK _) ?_)
  generalize hW0 : ((w.alloc (.cells zM 24)).alloc (.cells zM 24)).setRow (w.heap.size + 1) (kR 1) = W0 at *
  clear hW0
  clear rk HNW
  refine (CX.out _).mono ?_
  rintro e W1 ⟨rfl, bk⟩
  have HG3 := blk_below bk (blk_lt HG) HG
  have HR3 := blk_below bk (blk_lt HR) HR
  have hb3 := hb.trans (bk.mono hb.size)
  have hsz3 := Nat.le_trans hsz bk.size
  clear CX HG HR hb hsz
  have HG := HG3
  have HR := HR3
  have hb := hb3
  have hsz := hsz3
  clear HG3 HR3 hb3 hsz3
  clear bk
  obtain ⟨c0, c1, c2, c3, c4, c5⟩ := ms_cells HG
  dsimp only at c0 c1 c2 c3 c4 c5
  obtain ⟨p1, r1, b1, fz1⟩ := msh_put (Nat.lt_succ_self _) HG HR hb 1 (.string p) ⟨1, p, emB, [], emB, false⟩ (.slice none 0 0) rfl
  obtain ⟨s1_0, s1_1, s1_2, s1_3, s1_4, s1_5⟩ := ms_cells p1
  dsimp only at s1_0 s1_1 s1_2 s1_3 s1_4 s1_5
  obtain ⟨p2, r2, b2, fz2⟩ := msh_put (Nat.lt_succ_self _) p1 r1 b1 2 (.string q) ⟨1, p, q, [], emB, false⟩ (.slice none 0 0) rfl
  obtain ⟨s2_0, s2_1, s2_2, s2_3, s2_4, s2_5⟩ := ms_cells p2
  dsimp only at s2_0 s2_1 s2_2 s2_3 s2_4 s2_5
  have hsz2 : w.heap.size + 1 < ((W1.setCell ⟨w.heap.size + 1, 1, none⟩ (.string p)).setCell ⟨w.heap.size + 1, 2, none⟩ (.string q)).heap.size := blk_lt p2
  have HG2 := Lib.hid p2
  have HR2 := Lib.hid r2
  have HB2 := Lib.hid b2
  clear hb HG HR p1 r1 b1 p2 r2 b2 hsz
  go_wp2_with fail
  generalize World.setCell (World.setCell _ _ _) _ _ = W2 at *
  clear c0 c1 c2 c3 c4 c5 s1_0 s1_1 s1_2 s1_3 s1_4 s1_5 s2_0 s2_1 s2_2 s2_3 s2_4 s2_5 fz1 fz2
  have HG := HG2.out
  have HR := HR2.out
  have hb := HB2.out
  have hsz := hsz2
  clear HG2 HR2 HB2 hsz2
  refine (CP.out _).mono ?_
  rintro e W3 ⟨rfl, bk⟩
  have HG3 := blk_below bk (blk_lt HG) HG
  have HR3 := blk_below bk (blk_lt HR) HR
  have hb3 := hb.trans (bk.mono hb.size)
  have hsz3 := Nat.le_trans hsz bk.size
  clear CP HG HR hb hsz
  have HG := HG3
  have HR := HR3
  have hb := hb3
  have hsz := hsz3
  clear HG3 HR3 hb3 hsz3
  clear bk w1
  have hszW3 : w.heap.size + 1 < W3.heap.size := hsz
  go_wp2_with fail
  refine (CS.out _).mono ?_
  rintro e W4 ⟨⟨ao, cp, rfl, hown⟩, bk⟩
  have HG3 := blk_below bk (blk_lt HG) HG
  have HR3 := blk_below bk (blk_lt HR) HR
  have hb3 := hb.trans (bk.mono hb.size)
  have hsz3 := Nat.le_trans hsz bk.size
  clear CS HG HR hb hsz
  have HG := HG3
  have HR := HR3
  have hb := hb3
  have hsz := hsz3
  clear HG3 HR3 hb3 hsz3
  obtain ⟨c0, c1, c2, c3, c4, c5⟩ := ms_cells HG
  dsimp only at c0 c1 c2 c3 c4 c5
  obtain ⟨p1, r1, b1, fz1⟩ := msh_put (Nat.lt_succ_self _) HG HR hb 3 (.slice ao n cp) ⟨1, p, q, l, emB, false⟩ (.slice ao n cp) rfl
  obtain ⟨s1_0, s1_1, s1_2, s1_3, s1_4, s1_5⟩ := ms_cells p1
  dsimp only at s1_0 s1_1 s1_2 s1_3 s1_4 s1_5
  have HO := Lib.hid (show ((W4.setCell ⟨w.heap.size + 1, 3, none⟩ (.slice ao n cp)).setRow w.heap.size #[.int .i64 1, .string p, .string q, .slice ao n cp, .string emB, .bool false]).ownsRow w.heap.size 3 1 (.slice ao n cp) n (iCells l) from by
    have hw3 : w.heap.size + 1 < W3.heap.size := hszW3
    refine orow_base (orow_low hown fun k _ _ hk _ => ?_) (by omega)
    rw [setRow_other _ _ _ _ (by omega), heap_setCell_other _ _ _ _ (by simp; omega)])
  have HP := Lib.hid p1
  have HQ := Lib.hid r1
  have HB := Lib.hid b1
  clear hb HG HR p1 r1 b1 hsz bk hown
  go_wp2_with (with_reducible refine wpList_store_row rfl 24 _ _ rfl w.heap.size #[.int .i64 1, .string p, .string q, .slice ao n cp, .string emB, .bool false] rfl rfl 24 _ HQ.out (sizeML _ _ _ _ _ _) rfl (oneML _ _ _ _ _ _ _ _) ?_)
  (try simp only [Exit.inBlock, Exit.then]); exact bodyPost_ret (results_cell_row (by rfl) _ _ w.heap.size 24 _ (0, 0) _ rfl (setRow_heap _ _ _ _ _ _ HQ.out) Try.underlying24 rfl (sizeML _ _ _ _ _ _)) rfl ⟨⟨ao, cp, by rw [HF.out]; first | rfl | (simp only [HLN.out]; rfl), by rw [HF.out]; exact (by rw [HLN.out]; exact HO.out)⟩, below_setRow HB.out (Nat.le_refl _) _⟩
set_option maxHeartbeats 4000000 in
theorem fields2 (s : ByteArray) (w : World) (hs : s.size ≤ 100000) :
    Calls Try.prog 20 #[.int .i64 2, .string s] w fun e w' => (∃ ao c, e = .returned (.agg (msC (fld 2 s) (.slice ao (fld 2 s).su.length c))) ∧ w'.ownsRow w.heap.size 3 1 (.slice ao (fld 2 s).su.length c) (fld 2 s).su.length (iCells (fld 2 s).su)) ∧ Below w.heap.size w w' := by
  obtain ⟨hzz, -⟩ := zero_of_info infoMsgH
  have HNW := Lib.hid (blk_new2 w (.cells zM 24) (.cells zM 24))
  have HG := setRow_heap _ (w.heap.size + 1) _ (kR 2) _ _ HNW.out
  have HR : (((w.alloc (.cells zM 24)).alloc (.cells zM 24)).setRow (w.heap.size + 1) (kR 2)).heap[w.heap.size]? = some (.cells zM 24) := (setRow_other _ _ _ _ (by omega)).trans (blk_old (o := (.cells zM 24)) (blk_new w (.cells zM 24)))
  have hb := below_setRow (below_new2 w (.cells zM 24) (.cells zM 24)) (Nat.le_succ w.heap.size) (kR 2)
  have rk := rowK 2
  have hBsz : w.heap.size + 1 < (((w.alloc (.cells zM 24)).alloc (.cells zM 24)).setRow (w.heap.size + 1) (kR 2)).heap.size := blk_lt HG
  replace HG : (((w.alloc (.cells zM 24)).alloc (.cells zM 24)).setRow (w.heap.size + 1) (kR 2)).heap[w.heap.size + 1]? = some (.cells (msC ⟨2, emB, emB, [], emB, false⟩ (.slice none 0 0)) 24) := HG
  have CX := Lib.hid (fun W => exchange_any s W (by omega))
  have CP := Lib.hid (fun W => hpart_any s 35 ((s.size : Int) - 49) W (by omega) (by omega))
  have hps : (ptB s 35 ((s.size : Int) - 49)).size ≤ 1000000 := Nat.le_trans (pt_size s _ _) (by omega)
  have CS := Lib.hid (fun W => suites_any (ptB s 35 ((s.size : Int) - 49)) W hps)
  have w1 : IntKind.i64.wrap ((s.size : Int) - 49) = (s.size : Int) - 49 := by rw [IntKind.wrap_i64]; omega
  have HF : Hid (fld 2 s = ⟨2, (ptB s 2 34), (ptB s ((s.size : Int) - 32) (s.size : Int)), nmL (ofB (ptB s 35 ((s.size : Int) - 49))), emB, false⟩) := Lib.hid rfl
  generalize (ptB s 2 34) = p at *
  generalize (ptB s ((s.size : Int) - 32) (s.size : Int)) = q at *
  generalize (ptB s 35 ((s.size : Int) - 49)) = t at *
  generalize nmL (ofB t) = l at *
  obtain ⟨n, hn⟩ : ∃ n, l.length = n := ⟨_, rfl⟩
  rw [hn] at CS
  have HLN := Lib.hid hn
  have hsz := hBsz
  clear hs hBsz hps hn
  go_enter Try.func20, Try.ntmps20
  go_wp2_with (with_reducible refine wpList_store_row rfl 24 _ _ rfl (w.heap.size + 1) (kR 2) rfl rfl 24 _ HNW.out (sizeKH _) rfl (oneK _) ?_)
  generalize hW0 : ((w.alloc (.cells zM 24)).alloc (.cells zM 24)).setRow (w.heap.size + 1) (kR 2) = W0 at *
  clear hW0
  clear rk HNW
  refine (CX.out _).mono ?_
  rintro e W1 ⟨rfl, bk⟩
  have HG3 := blk_below bk (blk_lt HG) HG
  have HR3 := blk_below bk (blk_lt HR) HR
  have hb3 := hb.trans (bk.mono hb.size)
  have hsz3 := Nat.le_trans hsz bk.size
  clear CX HG HR hb hsz
  have HG := HG3
  have HR := HR3
  have hb := hb3
  have hsz := hsz3
  clear HG3 HR3 hb3 hsz3
  clear bk
  obtain ⟨c0, c1, c2, c3, c4, c5⟩ := ms_cells HG
  dsimp only at c0 c1 c2 c3 c4 c5
  obtain ⟨p1, r1, b1, fz1⟩ := msh_put (Nat.lt_succ_self _) HG HR hb 1 (.string p) ⟨2, p, emB, [], emB, false⟩ (.slice none 0 0) rfl
  obtain ⟨s1_0, s1_1, s1_2, s1_3, s1_4, s1_5⟩ := ms_cells p1
  dsimp only at s1_0 s1_1 s1_2 s1_3 s1_4 s1_5
  obtain ⟨p2, r2, b2, fz2⟩ := msh_put (Nat.lt_succ_self _) p1 r1 b1 2 (.string q) ⟨2, p, q, [], emB, false⟩ (.slice none 0 0) rfl
  obtain ⟨s2_0, s2_1, s2_2, s2_3, s2_4, s2_5⟩ := ms_cells p2
  dsimp only at s2_0 s2_1 s2_2 s2_3 s2_4 s2_5
  have hsz2 : w.heap.size + 1 < ((W1.setCell ⟨w.heap.size + 1, 1, none⟩ (.string p)).setCell ⟨w.heap.size + 1, 2, none⟩ (.string q)).heap.size := blk_lt p2
  have HG2 := Lib.hid p2
  have HR2 := Lib.hid r2
  have HB2 := Lib.hid b2
  clear hb HG HR p1 r1 b1 p2 r2 b2 hsz
  go_wp2_with fail
  generalize World.setCell (World.setCell _ _ _) _ _ = W2 at *
  clear c0 c1 c2 c3 c4 c5 s1_0 s1_1 s1_2 s1_3 s1_4 s1_5 s2_0 s2_1 s2_2 s2_3 s2_4 s2_5 fz1 fz2
  have HG := HG2.out
  have HR := HR2.out
  have hb := HB2.out
  have hsz := hsz2
  clear HG2 HR2 HB2 hsz2
  refine (CP.out _).mono ?_
  rintro e W3 ⟨rfl, bk⟩
  have HG3 := blk_below bk (blk_lt HG) HG
  have HR3 := blk_below bk (blk_lt HR) HR
  have hb3 := hb.trans (bk.mono hb.size)
  have hsz3 := Nat.le_trans hsz bk.size
  clear CP HG HR hb hsz
  have HG := HG3
  have HR := HR3
  have hb := hb3
  have hsz := hsz3
  clear HG3 HR3 hb3 hsz3
  clear bk w1
  have hszW3 : w.heap.size + 1 < W3.heap.size := hsz
  go_wp2_with fail
  refine (CS.out _).mono ?_
  rintro e W4 ⟨⟨ao, cp, rfl, hown⟩, bk⟩
  have HG3 := blk_below bk (blk_lt HG) HG
  have HR3 := blk_below bk (blk_lt HR) HR
  have hb3 := hb.trans (bk.mono hb.size)
  have hsz3 := Nat.le_trans hsz bk.size
  clear CS HG HR hb hsz
  have HG := HG3
  have HR := HR3
  have hb := hb3
  have hsz := hsz3
  clear HG3 HR3 hb3 hsz3
  obtain ⟨c0, c1, c2, c3, c4, c5⟩ := ms_cells HG
  dsimp only at c0 c1 c2 c3 c4 c5
  obtain ⟨p1, r1, b1, fz1⟩ := msh_put (Nat.lt_succ_self _) HG HR hb 3 (.slice ao n cp) ⟨2, p, q, l, emB, false⟩ (.slice ao n cp) rfl
  obtain ⟨s1_0, s1_1, s1_2, s1_3, s1_4, s1_5⟩ := ms_cells p1
  dsimp only at s1_0 s1_1 s1_2 s1_3 s1_4 s1_5
  have HO := Lib.hid (show ((W4.setCell ⟨w.heap.size + 1, 3, none⟩ (.slice ao n cp)).setRow w.heap.size #[.int .i64 2, .string p, .string q, .slice ao n cp, .string emB, .bool false]).ownsRow w.heap.size 3 1 (.slice ao n cp) n (iCells l) from by
    have hw3 : w.heap.size + 1 < W3.heap.size := hszW3
    refine orow_base (orow_low hown fun k _ _ hk _ => ?_) (by omega)
    rw [setRow_other _ _ _ _ (by omega), heap_setCell_other _ _ _ _ (by simp; omega)])
  have HP := Lib.hid p1
  have HQ := Lib.hid r1
  have HB := Lib.hid b1
  clear hb HG HR p1 r1 b1 hsz bk hown
  go_wp2_with (with_reducible refine wpList_store_row rfl 24 _ _ rfl w.heap.size #[.int .i64 2, .string p, .string q, .slice ao n cp, .string emB, .bool false] rfl rfl 24 _ HQ.out (sizeML _ _ _ _ _ _) rfl (oneML _ _ _ _ _ _ _ _) ?_)
  (try simp only [Exit.inBlock, Exit.then]); exact bodyPost_ret (results_cell_row (by rfl) _ _ w.heap.size 24 _ (0, 0) _ rfl (setRow_heap _ _ _ _ _ _ HQ.out) Try.underlying24 rfl (sizeML _ _ _ _ _ _)) rfl ⟨⟨ao, cp, by rw [HF.out]; first | rfl | (simp only [HLN.out]; rfl), by rw [HF.out]; exact (by rw [HLN.out]; exact HO.out)⟩, below_setRow HB.out (Nat.le_refl _) _⟩
theorem fields_any (k : Int) (s : ByteArray) (w : World) (hs : s.size ≤ 100000) :
    Calls Try.prog 20 #[.int .i64 k, .string s] w fun e w' => (∃ ao c, e = .returned (.agg (msC (fld k s) (.slice ao (fld k s).su.length c))) ∧ w'.ownsRow w.heap.size 3 1 (.slice ao (fld k s).su.length c) (fld k s).su.length (iCells (fld k s).su)) ∧ Below w.heap.size w w' := by
  by_cases k1 : k = 1
  · subst k1; exact fields1 s w hs
  by_cases k2 : k = 2
  · subst k2; exact fields2 s w hs
  by_cases k3 : k = 11
  · subst k3; exact fields11 s w hs
  by_cases k4 : k = 15
  · subst k4; exact fields15 s w hs
  by_cases k5 : k = 20
  · subst k5; exact fields20 s w hs
  by_cases k6 : k = 24
  · subst k6; exact fields24 s w hs
  exact fieldsNo s w hs k ⟨k1, k2, k3, k4, k5, k6⟩
end Go.Proofs.Ytjemikbnncfonaa
