/- The program's states: stateOf, plus, swapped, shifted, mixed. -/
import Derived.Test.YtoejkiblampecaaDoorAesCol
import Derived.Test.YtoejkiblampecaaDoorTail
import Derived.BigQuiet
namespace Go.Proofs.YtoejkiblampecaaDoor
open Go.RowKit Go.Sort
set_option maxRecDepth 100000
set_option linter.unusedSimpArgs false
set_option linter.unusedVariables false

def szeros : Array Value := bcells (List.replicate 16 0)
theorem infoAes : (Tryd.prog.info? 68).map (fun i => (i.zero, i.size)) = some (some (.agg szeros), 16) := by kernel_rfl
theorem sizeAes (l : List UInt8) (h : l.length = 16) : (Tryd.prog.info? 68).map (·.size) = some (bcells l).size := by rw [bcells_size, h]; exact (zero_of_info infoAes).2
theorem szeros_size (l : List UInt8) (h : l.length = 16) : szeros.size = (bcells l).size := by rw [bcells_size, h]; exact bcells_size _
theorem bsize_eq {l m : List UInt8} (h : l.length = 16) (k : m.length = 16) : (bcells l).size = (bcells m).size := by rw [bcells_size, bcells_size, h, k]
theorem u8x (x y : UInt8) : bits .xor .u8 (x.toNat : Int) (y.toNat : Int) = ((x ^^^ y).toNat : Int) := by
  rw [u8_xor_nat _ _ (UInt8.toNat_lt x) (UInt8.toNat_lt y), UInt8.toNat_xor]

/-- The copy of a text into a new state. -/
theorem copy_state (V : World) (k : ByteArray) (h : k.size = 16) :
    (Builtin.copy_ #[31, 9] 3 #[.slice (some ⟨V.heap.size, 0, none⟩) 16 16, .string k]).run Tryd.prog (V.alloc (.cells szeros 68)) = .ok (.int .i64 k.size) ((V.alloc (.cells szeros 68)).setRow V.heap.size (bcells k.data.toList)) := by
  obtain ⟨i0, hi, hz0, hz1, hz2⟩ := info_parts info_u8
  have hinfo : (Tryd.prog.info? 5).map (·.size) = some 1 := by rw [hi]; simp [hz1]
  have hl : k.data.toList.length = k.size := (Lib.size_eq k).symm
  have hcp := Lib.run_copy_row_string (P := Tryd.prog) (V.alloc (.cells szeros 68)) 31 9 3 5 V.heap.size 0 16 16 k szeros 68 Tryd.underlying31 hinfo (blk_new V _) (by omega) (by rw [show szeros.size = 16 from bcells_size _]; omega)
  rw [hcp]
  have e : (szeros.toList.take 0 ++ Lib.byteCells k.data.toList ++ szeros.toList.drop (0 + k.size)).toArray = bcells k.data.toList := by
    rw [List.take_zero, List.nil_append, List.drop_of_length_le (by rw [Array.length_toList, show szeros.size = 16 from bcells_size _]; omega), List.append_nil]
    rfl
  rw [e]
  rfl

set_option maxHeartbeats 1000000 in
theorem stateOf_any (s : ByteArray) (w : World) (h : s.size = 16) :
    Calls Tryd.prog 44 #[.string s] w fun e w' => e = .returned (.agg (bcells s.data.toList)) ∧ Below w.heap.size w w' := by
  obtain ⟨hz, hi⟩ := zero_of_info infoAes
  have hl : s.data.toList.length = 16 := by rw [← Lib.size_eq]; exact h
  have HI := Lib.hid (sizeAes _ hl)
  have HO := Lib.hid (szeros_size _ hl)
  have H1 := Lib.hid (arr_one s.data.toList)
  have HR0 := Lib.hid (blk_new w (.cells szeros 68))
  have hb0 := below_new w (.cells szeros 68)
  have hc0 := copy_state (w.alloc (.cells szeros 68)) s h
  have sl := arr_sliced_all 68 16 (w.alloc (.cells szeros 68)).heap.size (by kernel_rfl) (by kernel_rfl) (by kernel_rfl) (by omega)
  have hB : (w.alloc (.cells szeros 68)).heap.size = w.heap.size + 1 := by simp
  have HG := Lib.hid (setRow_heap ((w.alloc (.cells szeros 68)).alloc (.cells szeros 68)) (w.alloc (.cells szeros 68)).heap.size _ (bcells s.data.toList) _ _ (blk_new (w.alloc (.cells szeros 68)) (.cells szeros 68)))
  have HR := Lib.hid (show (((w.alloc (.cells szeros 68)).alloc (.cells szeros 68)).setRow (w.alloc (.cells szeros 68)).heap.size (bcells s.data.toList)).heap[w.heap.size]? = some (.cells szeros 68) from by rw [setRow_other _ _ _ _ (by rw [hB]; omega)]; exact blk_old HR0.out)
  have hb2 : Below w.heap.size w (((w.alloc (.cells szeros 68)).alloc (.cells szeros 68)).setRow (w.alloc (.cells szeros 68)).heap.size (bcells s.data.toList)) := below_setRow (hb0.alloc (by rw [hB]; omega) _) (by rw [hB]; omega) _
  simp only [hB] at hc0 sl HG HR hb2
  clear hi hl h HR0 hb0 hB
  generalize hrow : s.data.toList = row at *
  have HROW := Lib.hid hrow
  clear hrow
  go_enter Tryd.func44, Tryd.ntmps44
  go_wp2_with (first
    | (with_reducible refine wpList_load_row rfl 68 _ rfl (w.heap.size + 1) rfl 68 _ (0, 0) _ HG.out Tryd.underlying68 rfl HI.out ?_)
    | (with_reducible refine wpList_store_row rfl 68 _ _ rfl w.heap.size (bcells row) rfl rfl 68 _ HR.out HI.out HO.out H1.out ?_))
  exact bodyPost_ret (v := .agg (bcells row)) (results_cell_row (by rfl) _ _ w.heap.size 68 _ (0, 0) _ rfl (setRow_heap _ _ _ _ _ _ HR.out) Tryd.underlying68 rfl HI.out) rfl ⟨rfl, below_setRow hb2 (Nat.le_refl _) _⟩

/-- The sum while it is laid. -/
def plP (s k : List UInt8) (m : Nat) : List UInt8 := (List.range 16).map fun i => if i < m then s.getD i 0 ^^^ k.getD i 0 else s.getD i 0
theorem plP_length (s k : List UInt8) (m : Nat) : (plP s k m).length = 16 := by simp [plP]
theorem plP_zero (s k : List UInt8) (h : s.length = 16) : plP s k 0 = s := bytes_ext (plP_length _ _ _) h fun i hi => by rw [plP, range_getD _ _ _ hi]; simp
theorem plP_full (s k : List UInt8) : plP s k 16 = plS s k := bytes_ext (plP_length _ _ _) (plS_length _ _) fun i hi => by rw [plP, range_getD _ _ _ hi, plS, range_getD _ _ _ hi, if_pos hi]
theorem set_getD (l : List UInt8) (j i : Nat) (x : UInt8) (hj : j < l.length) : (l.set j x).getD i 0 = if i = j then x else l.getD i 0 := by
  rw [List.getD_eq_getElem?_getD, List.getElem?_set]
  by_cases h : j = i
  · subst h; simp [hj]
  · rw [if_neg h, if_neg (fun e => h e.symm), ← List.getD_eq_getElem?_getD]
theorem plP_succ (s k : List UInt8) (m : Nat) (h : m < 16) : (plP s k m).set m ((plP s k m).getD m 0 ^^^ k.getD m 0) = plP s k (m + 1) := by
  refine bytes_ext (by rw [List.length_set, plP_length]) (plP_length _ _ _) fun i hi => ?_
  rw [set_getD _ _ _ _ (by rw [plP_length]; exact h)]
  unfold plP
  rw [range_getD _ _ _ hi, range_getD _ _ _ hi, range_getD _ _ _ h]
  by_cases e : i = m
  · subst e; simp
  · by_cases h2 : i < m
    · simp [e, h2, show i < m + 1 by omega]
    · simp [e, h2, show ¬ i < m + 1 by omega]

set_option maxHeartbeats 1000000 in
theorem stPlus_any (s k : List UInt8) (w : World) (hs : s.length = 16) (hk : k.length = 16) :
    Calls Tryd.prog 56 #[.agg (bcells s), .agg (bcells k)] w fun e w' => e = .returned (.agg (bcells (plS s k))) ∧ Below w.heap.size w w' := by
  obtain ⟨hz, hi⟩ := zero_of_info infoAes
  have HG0 := Lib.hid (blk_old (o := .cells szeros 68) (blk_old (o := .cells (bcells k) 68) (blk_new w (.cells (bcells s) 68))))
  have HK0 := Lib.hid (blk_old (o := .cells szeros 68) (blk_new2 w (.cells (bcells s) 68) (.cells (bcells k) 68)))
  have HR0 := Lib.hid (blk_new3 w (.cells (bcells s) 68) (.cells (bcells k) 68) (.cells szeros 68))
  have hb0 := below_new3 w (.cells (bcells s) 68) (.cells (bcells k) 68) (.cells szeros 68)
  have HS := Lib.hid hs; have HKL := Lib.hid hk
  clear hi hs hk
  go_enter Tryd.func56, Tryd.ntmps56
  go_wp2_with fail
  clear hz
  generalize (((w.alloc _).alloc _).alloc _) = W0 at *
  generalize hBB : w.heap.size = B at *
  have HBB := Lib.hid hBB
  clear hBB
  go_loopw [6] (fun i wr => ∃ m : Nat, m ≤ 16 ∧ i = .int .i64 (m : Int) ∧ wr.heap[B]? = some (.cells (bcells (plP s k m)) 68) ∧ wr.heap[B + 1]? = some (.cells (bcells k) 68) ∧ wr.heap[B + 1 + 1]? = some (.cells szeros 68) ∧ Below B w wr) (fun i _ => 16 - (intOf i).toNat)
  case atStart => exact ⟨0, by omega, rfl, by rw [plP_zero s k HS.out]; exact HG0.out, HK0.out, HR0.out, hb0⟩
  case round =>
    clear HG0 HK0 HR0 hb0
    obtain ⟨m, hm, rfl, hg, hk, hr, hb⟩ := hrel
    have HG := Lib.hid hg; have HK := Lib.hid hk; have HR := Lib.hid hr
    clear hg hk hr
    by_cases hlt : m < 16
    · have hd : decide ((m : Int) < 16) = true := by simp; omega
      have HL := Lib.hid (plP_length s k m)
      have cx := bcell_at HG.out m (by rw [HL.out]; exact hlt)
      have ck := bcell_at HK.out m (by rw [HKL.out]; exact hlt)
      have HX := Lib.hid (u8x ((plP s k m).getD m 0) (k.getD m 0))
      have HSet := Lib.hid (fun (Y : World) (hY : Y.heap[B]? = some (.cells (bcells (plP s k m)) 68)) => bheap_set hY m ((plP s k m).getD m 0 ^^^ k.getD m 0))
      rw [plP_succ s k m hlt] at HSet
      generalize (plP s k m).getD m 0 = x at *
      generalize k.getD m 0 = y at *
      go_wp2_with fail
      have q1 := cell_regrown cx
      have q2 := cell_regrown ck
      refine wp_region_reads_tail 8 (by kernel_rfl) (by kernel_rfl) ?_
      simp only [List.take_succ_cons, List.take_zero, List.drop_succ_cons, List.drop_zero]
      repeat (first | go_big_quiet_step (fail) | quiet_step (fail))
      refine wpQuiet_nil ?_
      intro Y hY
      have hltw : B + 1 + 1 < wr.heap.size := blk_lt HR.out
      have HG2 := Lib.hid (blk_below hY (by omega) HG.out)
      have HK2 := Lib.hid (blk_below hY (by omega) HK.out)
      have HR2 := Lib.hid (blk_below hY hltw HR.out)
      have hb2 : Below B w Y := hb.trans (hY.mono (by omega))
      have cy := bcell_at HG2.out m (by rw [HL.out]; exact hlt)
      have fy := frozen_of_row Y B m _ _ HG2.out
      clear hY q1 q2 cx ck HG HK HR hb hltw
      rw [HX.out]
      go_wp2_with fail
      go_roundw
      case rel => exact ⟨m + 1, by omega, by go_num, HSet.out Y HG2.out, by rw [heap_setCell_other _ _ _ _ (by simp)]; exact HK2.out, by rw [heap_setCell_other _ _ _ _ (by simp <;> omega)]; exact HR2.out, hb2.setCell (by simp) _⟩
      case measure => simp [intOf]; omega
    · have hd : decide ((m : Int) < 16) = false := by simp; omega
      obtain rfl : m = 16 := by omega
      have HG2 := Lib.hid (show wr.heap[B]? = some (.cells (bcells (plS s k)) 68) from by rw [← plP_full]; exact HG.out)
      have hl := plS_length s k
      generalize hrow : plS s k = row at *
      have HROW := Lib.hid hrow
      clear HG hrow
      have HI := Lib.hid (sizeAes row hl)
      have HO := Lib.hid (szeros_size row hl)
      have H1 := Lib.hid (arr_one row)
      go_wp2_with (first
        | (with_reducible refine wpList_load_row rfl 68 _ rfl B rfl 68 _ (0, 0) _ HG2.out Tryd.underlying68 rfl HI.out ?_)
        | (with_reducible refine wpList_store_row rfl 68 _ _ rfl (B + 1 + 1) (bcells row) rfl rfl 68 _ HR.out HI.out HO.out H1.out ?_))
      exact bodyPost_ret (v := .agg (bcells row)) (results_cell_row (by rfl) _ _ (B + 1 + 1) 68 _ (0, 0) _ rfl (setRow_heap _ _ _ _ _ _ HR.out) Tryd.underlying68 rfl HI.out) rfl ⟨by first | (with_reducible rfl) | rw [HROW.out], by rw [HBB.out]; exact below_setRow hb (by omega) _⟩
end Go.Proofs.YtoejkiblampecaaDoor
