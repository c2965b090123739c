/- The program's summand, pieceNumber and factor. -/
import Derived.Test.YtbbpgplfdodpmaaPolyNum
import Derived.Lib.BufferWrite
namespace Go.Proofs.Ytbbpgplfdodpmaa
open Go.RowKit Go.Sort
set_option maxRecDepth 100000
set_option linter.unusedSimpArgs false
set_option linter.unusedVariables false

/-- Bytes in seventeen. -/
def encL (l : List UInt8) : List UInt8 := l ++ List.replicate (17 - l.length) 0
theorem encL_length (l : List UInt8) (h : l.length ≤ 17) : (encL l).length = 17 := by simp [encL]; omega
theorem leN_zeros (n : Nat) : leN (List.replicate n 0) = 0 := by
  induction n with
  | zero => rfl
  | succ n ih => rw [List.replicate_succ, leN, ih]; rfl
theorem leN_enc (l : List UInt8) : leN (encL l) = leN l := by rw [encL, leN_append, leN_zeros]; omega
theorem encL_one (l : List UInt8) (h : l.length ≤ 16) : leN ((encL l).set l.length 1) = leN (l ++ [1]) := by
  rw [encL, List.set_append, if_neg (by omega), Nat.sub_self, show 17 - l.length = (16 - l.length) + 1 by omega, List.replicate_succ, List.set_cons_zero, leN_append, leN_append]
  simp [leN, leN_zeros]
theorem copy_enc (W : World) (g : Nat) (k : ByteArray) (h : k.size ≤ 17) (hg : W.heap[g]? = some (.cells ezeros 45)) :
    (Builtin.copy_ #[27, 9] 3 #[.slice (some ⟨g, 0, none⟩) 17 17, .string k]).run Try.prog W = .ok (.int .i64 k.size) (W.setRow g (bcells (encL k.data.toList))) := by
  obtain ⟨i0, hi, hz0, hz1, hz2⟩ := info_parts info_u8
  have hinfo : (Try.prog.info? 5).map (·.size) = some 1 := by rw [hi]; simp [hz1]
  have hl : k.data.toList.length = k.size := (Lib.size_eq k).symm
  have hcp := Lib.run_copy_row_string (P := Try.prog) W 27 9 3 5 g 0 17 17 k ezeros 45 Try.underlying27 hinfo hg h (by rw [show ezeros.size = 17 from bcells_size _]; omega)
  rw [hcp]
  have e : (ezeros.toList.take 0 ++ Lib.byteCells k.data.toList ++ ezeros.toList.drop (0 + k.size)).toArray = bcells (encL k.data.toList) := by
    rw [List.take_zero, List.nil_append, Nat.zero_add, ezeros, bcells, List.toList_toArray, bcells, encL, Lib.byteCells_append, hl]
    congr 2
    rw [Lib.byteCells, Lib.byteCells, ← List.map_drop, List.drop_replicate]
  rw [e]
  rfl
theorem sliced_whole (t : TypeId) (n a : Nat) (ht : Try.prog.underlying t = some (.array (Try.prog.arrayLen t) (Try.prog.elem t))) (hn : Try.prog.arrayLen t = n) (hs : (Try.prog.info? (Try.prog.elem t)).map (·.size) = some 1) (hp : 0 < n) (w : World) :
    (Instr.sliceAt t (.pointer (some ⟨a, 0, none⟩)) none none none).run Try.prog w = .ok (.slice (some ⟨a, 0, none⟩) n n) w := by
  rw [run_sliceAt_array_all w t ⟨a, 0, none⟩ ht]
  have hsz : ∀ w, (sizeOf (Try.prog.elem t)).run Try.prog w = .ok 1 w := fun w => by
    cases hq : Try.prog.info? (Try.prog.elem t) with
    | none => simp [hq] at hs
    | some i => simp [hq] at hs; simp [sizeOf, typeInfo, hq, hs]
  rw [hsz, hn]
  simp only [Result.andThen_ok, slicedAt, Nat.sub_zero]
  rw [if_neg (by omega), Addr.add_lit]

set_option maxHeartbeats 1000000 in
theorem summand_any (s : ByteArray) (w : World) (hs : s.size = 16) :
    Calls Try.prog 11 #[.string s] w fun e w' => e = .returned (.agg (lmc (numL (leN s.data.toList)))) ∧ Below w.heap.size w w' := by
  obtain ⟨hz, hi⟩ := zero_of_info infoN
  obtain ⟨hze, hie⟩ := zero_of_info infoE
  have hsl : s.data.toList.length = 16 := by rw [← Lib.size_eq]; exact hs
  have hel := encL_length s.data.toList (by omega)
  have HN := Lib.hid (leN_enc s.data.toList)
  have HR0 := Lib.hid (blk_old (o := .cells ezeros 45) (blk_new w (.cells zeros5 33)))
  have HE0 := Lib.hid (blk_new2 w (.cells zeros5 33) (.cells ezeros 45))
  have hb0 := below_new2 w (.cells zeros5 33) (.cells ezeros 45)
  have hcp := copy_enc _ _ s (by omega) HE0.out
  have sl := sliced_whole 45 17 (w.heap.size + 1) (by kernel_rfl) (by kernel_rfl) (by kernel_rfl) (by omega)
  clear hi hie hs hsl
  go_enter Try.func11, Try.ntmps11
  have HE1 := Lib.hid (setRow_heap _ (w.heap.size + 1) _ (bcells (encL s.data.toList)) _ _ HE0.out)
  have HR1 := Lib.hid ((setRow_other ((w.alloc (.cells zeros5 33)).alloc (.cells ezeros 45)) (w.heap.size + 1) w.heap.size (bcells (encL s.data.toList)) (by omega)).trans HR0.out)
  have hb1 := below_setRow hb0 (show w.heap.size ≤ w.heap.size + 1 by omega) (bcells (encL s.data.toList))
  have HIe := Lib.hid (sizeE _ hel)
  have HC := Lib.hid (fun W => encNum_any (encL s.data.toList) W hel)
  rw [HN.out] at HC
  clear HR0 HE0 hb0 hel
  generalize encL s.data.toList = el at *
  go_wp2_with (with_reducible refine wpList_load_row rfl 45 _ rfl (w.heap.size + 1) rfl 45 _ (0, 0) _ HE1.out Try.underlying45 rfl HIe.out ?_)
  clear hcp sl hz hze
  generalize (World.setRow _ _ _) = W0 at *
  generalize hBB : w.heap.size = B at *
  have HBB := Lib.hid hBB
  clear hBB
  refine (HC.out W0).mono ?_
  rintro e W1 ⟨rfl, hb2⟩
  have hlt := blk_lt HE1.out
  have HR2 := Lib.hid (blk_below hb2 (by omega) HR1.out)
  have hb3 : Below B w W1 := hb1.trans (hb2.mono (by omega))
  have hll := numL_length (leN s.data.toList)
  generalize hrow : numL (leN s.data.toList) = row at *
  have HROW := Lib.hid hrow
  have HI2 := Lib.hid (sizeN row hll)
  have HSz := Lib.hid (zeros5_size row hll)
  have HOne := Lib.hid (lmc_one row)
  clear hrow hll hb2 HR1 HE1 hb1
  go_wp2_with (with_reducible refine wpList_store_row rfl 33 _ _ rfl B (lmc row) rfl rfl 33 _ HR2.out HI2.out HSz.out HOne.out ?_)
  exact bodyPost_ret (v := .agg (lmc row)) (results_cell_row (by rfl) _ _ B 33 _ (0, 0) _ rfl (setRow_heap _ _ _ _ _ _ HR2.out) Try.underlying33 rfl HI2.out) rfl ⟨by first | (with_reducible rfl) | rw [HROW.out], by rw [HBB.out]; exact below_setRow hb3 (Nat.le_refl _) _⟩

set_option maxHeartbeats 1000000 in
theorem pieceNumber_any (s : ByteArray) (w : World) (hs : s.size ≤ 16) :
    Calls Try.prog 21 #[.string s] w fun e w' => e = .returned (.agg (lmc (numL (leN (s.data.toList ++ [1]))))) ∧ Below w.heap.size w w' := by
  obtain ⟨hz, hi⟩ := zero_of_info infoN
  obtain ⟨hze, hie⟩ := zero_of_info infoE
  have hsl : s.data.toList.length = s.size := (Lib.size_eq s).symm
  have hel := encL_length s.data.toList (by omega)
  have HN := Lib.hid (encL_one s.data.toList (by omega))
  rw [hsl] at HN
  have HR0 := Lib.hid (blk_old (o := .cells ezeros 45) (blk_new w (.cells zeros5 33)))
  have HE0 := Lib.hid (blk_new2 w (.cells zeros5 33) (.cells ezeros 45))
  have hb0 := below_new2 w (.cells zeros5 33) (.cells ezeros 45)
  have hcp := copy_enc _ _ s (by omega) HE0.out
  have sl := sliced_whole 45 17 (w.heap.size + 1) (by kernel_rfl) (by kernel_rfl) (by kernel_rfl) (by omega)
  have h17 : (s.size : Int) < 17 := by omega
  have h17n : s.size < 17 := by omega
  clear hi hie hsl hs
  go_enter Try.func21, Try.ntmps21
  have HE1 := Lib.hid (setRow_heap _ (w.heap.size + 1) _ (bcells (encL s.data.toList)) _ _ HE0.out)
  have HR1 := Lib.hid ((setRow_other ((w.alloc (.cells zeros5 33)).alloc (.cells ezeros 45)) (w.heap.size + 1) w.heap.size (bcells (encL s.data.toList)) (by omega)).trans HR0.out)
  have hb1 := below_setRow hb0 (show w.heap.size ≤ w.heap.size + 1 by omega) (bcells (encL s.data.toList))
  have hel1 : ((encL s.data.toList).set s.size 1).length = 17 := by simpa using hel
  have HIe := Lib.hid (sizeE _ hel1)
  have HC := Lib.hid (fun W => encNum_any ((encL s.data.toList).set s.size 1) W hel1)
  rw [HN.out] at HC
  clear HR0 HE0 hb0 hel1
  generalize encL s.data.toList = el at *
  have cx : (((w.alloc (.cells zeros5 33)).alloc (.cells ezeros 45)).setRow (w.heap.size + 1) (bcells el)).cell? ⟨w.heap.size + 1, s.size, none⟩ = some (.int .u8 ((el.getD s.size 0).toNat : Int)) := by
    rw [cell_of_row _ _ _ _ _ _ HE1.out]; exact bcells_get _ _ _ (by simp [List.getD_eq_getElem?_getD, hel, h17n])
  have fx := frozen_of_row _ (w.heap.size + 1) s.size _ _ HE1.out
  have r1 := Go.heap_setCell_same _ (w.heap.size + 1) s.size _ _ (.int .u8 ((1 : UInt8).toNat : Int)) HE1.out
  rw [bcells_set] at r1
  rw [show (((1 : UInt8).toNat : Nat) : Int) = 1 from rfl] at r1
  have HE2 := Lib.hid r1
  have HR2 := Lib.hid ((heap_setCell_other (((w.alloc (.cells zeros5 33)).alloc (.cells ezeros 45)).setRow (w.heap.size + 1) (bcells el)) ⟨w.heap.size + 1, s.size, none⟩ w.heap.size (.int .u8 1) (by simp)).trans HR1.out)
  have hb2 : Below w.heap.size w ((((w.alloc (.cells zeros5 33)).alloc (.cells ezeros 45)).setRow (w.heap.size + 1) (bcells el)).setCell ⟨w.heap.size + 1, s.size, none⟩ (.int .u8 1)) := hb1.setCell (by simp) _
  clear r1 hb1 HR1 HE1
  generalize (el.getD s.size 0).toNat = old at *
  go_wp2_with (with_reducible refine wpList_load_row rfl 45 _ rfl (w.heap.size + 1) rfl 45 _ (0, 0) _ HE2.out Try.underlying45 rfl HIe.out ?_)
  clear hcp sl hz hze cx fx
  generalize (World.setCell _ _ _) = W0 at *
  generalize hBB : w.heap.size = B at *
  have HBB := Lib.hid hBB
  clear hBB
  refine (HC.out W0).mono ?_
  rintro e W1 ⟨rfl, hb3⟩
  have hlt := blk_lt HE2.out
  have HR3 := Lib.hid (blk_below hb3 (by omega) HR2.out)
  have hb4 : Below B w W1 := hb2.trans (hb3.mono (by omega))
  have hll := numL_length (leN (s.data.toList ++ [1]))
  generalize hrow : numL (leN (s.data.toList ++ [1])) = row at *
  have HROW := Lib.hid hrow
  have HI2 := Lib.hid (sizeN row hll)
  have HSz := Lib.hid (zeros5_size row hll)
  have HOne := Lib.hid (lmc_one row)
  clear hrow hll hb3 HR2 HE2 hb2
  go_wp2_with (with_reducible refine wpList_store_row rfl 33 _ _ rfl B (lmc row) rfl rfl 33 _ HR3.out HI2.out HSz.out HOne.out ?_)
  exact bodyPost_ret (v := .agg (lmc row)) (results_cell_row (by rfl) _ _ B 33 _ (0, 0) _ rfl (setRow_heap _ _ _ _ _ _ HR3.out) Try.underlying33 rfl HI2.out) rfl ⟨by first | (with_reducible rfl) | rw [HROW.out], by rw [HBB.out]; exact below_setRow hb4 (Nat.le_refl _) _⟩

theorem index_arr {P : Program} (t e : TypeId) (n k : Nat) (cs : Array Value) (x : Value) (hu : P.underlying t = some (.array n e)) (hs : (P.info? e).map (·.size) = some 1) (ha : ∀ w, (isAgg e).run P w = .ok false w) (hk : k < n) (hx : cs[k]? = some x) (w : World) :
    (Instr.index t (.agg cs) (.int .i64 (k : Int))).run P w = .ok x w := by
  have hn : (0 : Int) ≤ (k : Int) ∧ (k : Int) < (n : Int) := by omega
  have hsz : ∀ w, (sizeOf e).run P w = .ok 1 w := fun w => by
    cases hq : P.info? e with
    | none => simp [hq] at hs
    | some i => simp [hq] at hs; simp [sizeOf, typeInfo, hq, hs]
  simp [Instr.index, run_underlying hu, asIntOf, hn, go_sem, part, hsz, ha, hx]
  intro h; omega
theorem cl1_append (l r : List UInt8) (m : Nat) (h : 4 * m ≤ l.length) : cl1 (l ++ r) m = cl1 l m ++ r := by
  induction m with
  | zero => rfl
  | succ m ih =>
    rw [cl1, ih (by omega), cl1, List.set_append, if_pos (by rw [cl1_length]; omega)]
    congr 3
    simp [List.getD_eq_getElem?_getD, List.getElem?_append_left, cl1_length, show 3 + 4 * m < l.length by omega]
theorem cl2_append (l r : List UInt8) (m : Nat) (h : 4 * m < l.length) : cl2 (l ++ r) m = cl2 l m ++ r := by
  induction m with
  | zero => rfl
  | succ m ih =>
    rw [cl2, ih (by omega), cl2, List.set_append, if_pos (by rw [cl2_length]; omega)]
    congr 3
    simp [List.getD_eq_getElem?_getD, List.getElem?_append_left, cl2_length, show 4 + 4 * m < l.length by omega]
theorem leN_clamp (l : List UInt8) (h : l.length = 16) : leN (cl2 (cl1 (encL l) 4) 3) = leN (clampL l) := by
  rw [encL, cl1_append _ _ _ (by omega), cl2_append _ _ _ (by rw [cl1_length]; omega), leN_append, leN_zeros, clampL]; omega

def arr4 : Array Value := #[.int .i64 3, .int .i64 7, .int .i64 11, .int .i64 15]
def arr3 : Array Value := #[.int .i64 4, .int .i64 8, .int .i64 12]
theorem arr4_get (m : Nat) (h : m < 4) : arr4[m]? = some (.int .i64 (3 + 4 * (m : Int))) := by
  rcases (by omega : m = 0 ∨ m = 1 ∨ m = 2 ∨ m = 3) with rfl | rfl | rfl | rfl <;> rfl
theorem arr3_get (m : Nat) (h : m < 3) : arr3[m]? = some (.int .i64 (4 + 4 * (m : Int))) := by
  rcases (by omega : m = 0 ∨ m = 1 ∨ m = 2) with rfl | rfl | rfl <;> rfl
theorem index_arr4 (m : Nat) (h : m < 4) (w : World) : (Instr.index 46 (.agg arr4) (.int .i64 (m : Int))).run Try.prog w = .ok (.int .i64 (3 + 4 * (m : Int))) w :=
  index_arr _ 3 4 m arr4 _ Try.underlying46 (by kernel_rfl) (fun w => by simp [isAgg, run_underlying Try.underlying3, go_sem]) h (arr4_get m h) w
theorem index_arr3 (m : Nat) (h : m < 3) (w : World) : (Instr.index 47 (.agg arr3) (.int .i64 (m : Int))).run Try.prog w = .ok (.int .i64 (4 + 4 * (m : Int))) w :=
  index_arr _ 3 3 m arr3 _ Try.underlying47 (by kernel_rfl) (fun w => by simp [isAgg, run_underlying Try.underlying3, go_sem]) h (arr3_get m h) w

set_option maxHeartbeats 1000000 in
theorem factor_any (s : ByteArray) (w : World) (hs : s.size = 16) :
    Calls Try.prog 10 #[.string s] w fun e w' => e = .returned (.agg (lmc (numL (leN (clampL s.data.toList))))) ∧ Below w.heap.size w w' := by
  obtain ⟨hz, hi⟩ := zero_of_info infoN
  obtain ⟨hze, hie⟩ := zero_of_info infoE
  have hsl : s.data.toList.length = 16 := by rw [← Lib.size_eq]; exact hs
  have hel := encL_length s.data.toList (by omega)
  have HN := Lib.hid (leN_clamp s.data.toList hsl)
  have HR0 := Lib.hid (blk_old (o := .cells ezeros 45) (blk_new w (.cells zeros5 33)))
  have HE0 := Lib.hid (blk_new2 w (.cells zeros5 33) (.cells ezeros 45))
  have hb0 := below_new2 w (.cells zeros5 33) (.cells ezeros 45)
  have hcp := copy_enc _ _ s (by omega) HE0.out
  have sl := sliced_whole 45 17 (w.heap.size + 1) (by kernel_rfl) (by kernel_rfl) (by kernel_rfl) (by omega)
  clear hi hie hs hsl
  go_enter Try.func10, Try.ntmps10
  have HE1 := Lib.hid (setRow_heap _ (w.heap.size + 1) _ (bcells (encL s.data.toList)) _ _ HE0.out)
  have HR1 := Lib.hid ((setRow_other ((w.alloc (.cells zeros5 33)).alloc (.cells ezeros 45)) (w.heap.size + 1) w.heap.size (bcells (encL s.data.toList)) (by omega)).trans HR0.out)
  have hb1 := below_setRow hb0 (show w.heap.size ≤ w.heap.size + 1 by omega) (bcells (encL s.data.toList))
  have HEL := Lib.hid hel
  clear HR0 HE0 hb0 hel
  generalize encL s.data.toList = el at *
  go_wp2_with fail
  clear hcp sl hz hze
  generalize (World.setRow _ _ _) = W0 at *
  generalize hBB : w.heap.size = B at *
  have HBB := Lib.hid hBB
  clear hBB
  go_loopw [12] (fun iv wr => ∃ m : Nat, m ≤ 4 ∧ iv = .int .i64 (m : Int) ∧ wr.heap[B]? = some (.cells zeros5 33) ∧ wr.heap[B + 1]? = some (.cells (bcells (cl1 el m)) 45) ∧ Below B w wr) (fun iv _ => 4 - (intOf iv).toNat)
  case atStart => exact ⟨0, by omega, rfl, HR1.out, HE1.out, hb1⟩
  case round =>
    clear HR1 HE1 hb1
    obtain ⟨m, hm, rfl, hr, he, hb⟩ := hrel
    have HR := Lib.hid hr; have HE := Lib.hid he
    clear hr he
    by_cases hlt : m < 4
    · have hd : decide ((m : Int) < 4) = true := by simp; omega
      have ix := index_arr4 m hlt
      simp only [arr4] at ix
      have hll : (cl1 el m).length = 17 := by rw [cl1_length, HEL.out]
      have HS : Hid (cl1 el (m + 1) = (cl1 el m).set (3 + 4 * m) (andB 15 ((cl1 el m).getD (3 + 4 * m) 0))) := Lib.hid rfl
      have cx : wr.cell? ⟨B + 1, 3 + 4 * m, none⟩ = some (.int .u8 (((cl1 el m).getD (3 + 4 * m) 0).toNat : Int)) := by
        rw [cell_of_row wr _ _ _ _ _ HE.out]; exact bcells_get _ _ _ (by simp [List.getD_eq_getElem?_getD, hll, show 3 + 4 * m < 17 by omega])
      have fx := frozen_of_row wr (B + 1) (3 + 4 * m) _ _ HE.out
      have r1 := Go.heap_setCell_same wr (B + 1) (3 + 4 * m) _ _ (.int .u8 ((andB 15 ((cl1 el m).getD (3 + 4 * m) 0)).toNat : Int)) HE.out
      rw [bcells_set, ← HS.out] at r1
      generalize (cl1 el m).getD (3 + 4 * m) 0 = x at *
      have ha := andB_toNat 15 x
      rw [ha] at r1
      clear ha
      have hof : (3 + 4 * (m : Int)).toNat = 3 + 4 * m := by omega
      have HE2 := Lib.hid r1
      have HR2 := Lib.hid (show (wr.setCell ⟨B + 1, 3 + 4 * m, none⟩ (.int .u8 (bits .and .u8 (x.toNat : Int) 15))).heap[B]? = some (.cells zeros5 33) from by rw [heap_setCell_other _ _ _ _ (by simp)]; exact HR.out)
      have hb2 : Below B w (wr.setCell ⟨B + 1, 3 + 4 * m, none⟩ (.int .u8 (bits .and .u8 (x.toNat : Int) 15))) := hb.setCell (by simp) _
      clear r1 hll HS HR HE hb
      go_wp2_with fail
      go_roundw
      case rel => exact ⟨m + 1, by omega, by go_num, HR2.out, HE2.out, hb2⟩
      case measure => simp [intOf]; omega
    · have hd : decide ((m : Int) < 4) = false := by simp; omega
      obtain rfl : m = 4 := by omega
      rw [show ((4 : Nat) : Int) = (4 : Int) from rfl] at *
      clear hd
      have HE1 := HE
      have HR1 := HR
      have hb1 := hb
      have HEM := Lib.hid (show (cl1 el 4).length = 17 from by rw [cl1_length, HEL.out])
      clear HE HR hb HEL
      obtain ⟨el2, hel2⟩ : ∃ x, x = cl1 el 4 := ⟨_, rfl⟩
      rw [← hel2] at HE1 HN HEM
      clear hel2
      have HEL := HEM
      clear HEM
      go_wp2_with fail
      go_loopw [22] (fun iv wr => ∃ m : Nat, m ≤ 3 ∧ iv = .int .i64 (m : Int) ∧ wr.heap[B]? = some (.cells zeros5 33) ∧ wr.heap[B + 1]? = some (.cells (bcells (cl2 el2 m)) 45) ∧ Below B w wr) (fun iv _ => 3 - (intOf iv).toNat)
      case atStart => exact ⟨0, by omega, rfl, HR1.out, HE1.out, hb1⟩
      case round =>
        clear HR1 HE1 hb1
        obtain ⟨m, hm, rfl, hr, he, hb⟩ := hrel
        have HR := Lib.hid hr; have HE := Lib.hid he
        clear hr he
        by_cases hlt : m < 3
        · have hd : decide ((m : Int) < 3) = true := by simp; omega
          have ix := index_arr3 m hlt
          simp only [arr3] at ix
          have hll : (cl2 el2 m).length = 17 := by rw [cl2_length, HEL.out]
          have HS : Hid (cl2 el2 (m + 1) = (cl2 el2 m).set (4 + 4 * m) (andB 252 ((cl2 el2 m).getD (4 + 4 * m) 0))) := Lib.hid rfl
          have cx : wr.cell? ⟨B + 1, 4 + 4 * m, none⟩ = some (.int .u8 (((cl2 el2 m).getD (4 + 4 * m) 0).toNat : Int)) := by
            rw [cell_of_row wr _ _ _ _ _ HE.out]; exact bcells_get _ _ _ (by simp [List.getD_eq_getElem?_getD, hll, show 4 + 4 * m < 17 by omega])
          have fx := frozen_of_row wr (B + 1) (4 + 4 * m) _ _ HE.out
          have r1 := Go.heap_setCell_same wr (B + 1) (4 + 4 * m) _ _ (.int .u8 ((andB 252 ((cl2 el2 m).getD (4 + 4 * m) 0)).toNat : Int)) HE.out
          rw [bcells_set, ← HS.out] at r1
          generalize (cl2 el2 m).getD (4 + 4 * m) 0 = x at *
          have ha := andB_toNat 252 x
          rw [ha] at r1
          clear ha
          have hof : (4 + 4 * (m : Int)).toNat = 4 + 4 * m := by omega
          have HE2 := Lib.hid r1
          have HR2 := Lib.hid (show (wr.setCell ⟨B + 1, 4 + 4 * m, none⟩ (.int .u8 (bits .and .u8 (x.toNat : Int) 252))).heap[B]? = some (.cells zeros5 33) from by rw [heap_setCell_other _ _ _ _ (by simp)]; exact HR.out)
          have hb2 : Below B w (wr.setCell ⟨B + 1, 4 + 4 * m, none⟩ (.int .u8 (bits .and .u8 (x.toNat : Int) 252))) := hb.setCell (by simp) _
          clear r1 hll HS HR HE hb
          go_wp2_with fail
          go_roundw
          case rel => exact ⟨m + 1, by omega, by go_num, HR2.out, HE2.out, hb2⟩
          case measure => simp [intOf]; omega
        · have hd : decide ((m : Int) < 3) = false := by simp; omega
          obtain rfl : m = 3 := by omega
          rw [show ((3 : Nat) : Int) = (3 : Int) from rfl] at *
          clear hd
          have HCL := Lib.hid (show (cl2 el2 3).length = 17 from by rw [cl2_length, HEL.out])
          have HIe := Lib.hid (sizeE _ HCL.out)
          have HC := Lib.hid (fun W => encNum_any (cl2 el2 3) W HCL.out)
          rw [HN.out] at HC
          generalize cl2 el2 3 = fl at *
          go_wp2_with (with_reducible refine wpList_load_row rfl 45 _ rfl (B + 1) rfl 45 _ (0, 0) _ HE.out Try.underlying45 rfl HIe.out ?_)
          refine (HC.out wr).mono ?_
          rintro e W1 ⟨rfl, hb3⟩
          have hlw := blk_lt HE.out
          have HR3 := Lib.hid (blk_below hb3 (by omega) HR.out)
          have hb4 : Below B w W1 := hb.trans (hb3.mono (by omega))
          have hll := numL_length (leN (clampL s.data.toList))
          generalize hrow : numL (leN (clampL s.data.toList)) = row at *
          have HROW := Lib.hid hrow
          have HI2 := Lib.hid (sizeN row hll)
          have HSz := Lib.hid (zeros5_size row hll)
          have HOne := Lib.hid (lmc_one row)
          clear hrow hll hb3 HR HE hb hlw
          go_wp2_with (with_reducible refine wpList_store_row rfl 33 _ _ rfl B (lmc row) rfl rfl 33 _ HR3.out HI2.out HSz.out HOne.out ?_)
          exact bodyPost_ret (v := .agg (lmc row)) (results_cell_row (by rfl) _ _ B 33 _ (0, 0) _ rfl (setRow_heap _ _ _ _ _ _ HR3.out) Try.underlying33 rfl HI2.out) rfl ⟨by first | (with_reducible rfl) | rw [HROW.out], by rw [HBB.out]; exact below_setRow hb4 (Nat.le_refl _) _⟩
end Go.Proofs.Ytbbpgplfdodpmaa
