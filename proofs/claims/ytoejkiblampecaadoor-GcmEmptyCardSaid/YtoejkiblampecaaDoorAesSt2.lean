/- The program's states: swapped, shifted, mixed. -/
import Derived.Test.YtoejkiblampecaaDoorAesSt
namespace Go.Proofs.YtoejkiblampecaaDoor
open Go.RowKit Go.Sort
set_option maxRecDepth 100000
set_option linter.unusedSimpArgs false
set_option linter.unusedVariables false

/-- The swapped bytes while they are laid: so many halves. -/
def swP (s : List UInt8) (m : Nat) : List UInt8 := (List.range 16).map fun i => if i < 8 * m then sb (s.getD i 0) else s.getD i 0
theorem swP_length (s : List UInt8) (m : Nat) : (swP s m).length = 16 := by simp [swP]
theorem swP_zero (s : List UInt8) (h : s.length = 16) : swP s 0 = s := bytes_ext (swP_length _ _) h fun i hi => by rw [swP, range_getD _ _ _ hi]; simp
theorem swS_getD (s : List UInt8) (i : Nat) (h : i < s.length) : (swS s).getD i 0 = sb (s.getD i 0) := by
  simp [swS, List.getD_eq_getElem?_getD, h]
theorem swP_full (s : List UInt8) (h : s.length = 16) : swP s 2 = swS s := bytes_ext (swP_length _ _) (by rw [swS_length, h]) fun i hi => by rw [swP, range_getD _ _ _ hi, swS_getD _ _ (by omega), if_pos (by omega)]
/-- Bytes from a place on, in a word. -/
def partL (s : List UInt8) (off n : Nat) : List UInt8 := (List.range n).map fun j => s.getD (off + j) 0
theorem partL_length (s : List UInt8) (off n : Nat) : (partL s off n).length = n := by simp [partL]
theorem partL_get (s : List UInt8) (off n j : Nat) (h : j < n) : (partL s off n).getD j 0 = s.getD (off + j) 0 := range_getD _ _ _ h
theorem partL_cells {W : World} {b : Nat} {l : List UInt8} {T : TypeId} {fr : Nat × Nat} (h : W.heap[b]? = some (.cells (bcells l) T fr)) (off n : Nat) (ho : off + n ≤ l.length) :
    ∀ j x, (partL l off n)[j]? = some x → W.cell? ⟨b, off + j, none⟩ = some (.int .u8 (x.toNat : Int)) := fun j x hx => by
  have hj : j < n := by have := (List.getElem?_eq_some_iff.1 hx).1; rwa [partL_length] at this
  rw [bcell_at h (off + j) (by omega), ← partL_get l off n j hj, List.getD_eq_getElem?_getD, hx]; rfl
theorem swP_succ (s : List UInt8) (m : Nat) (h : m < 2) : putA (swP s m) (8 * m) ((swW (pkB (partL (swP s m) (8 * m) 8)) : Nat) : Int) 8 = swP s (m + 1) := by
  refine bytes_ext (by rw [putA_length, swP_length]) (swP_length _ _) fun i hi => ?_
  rw [putA_get _ _ _ _ _ (by rw [swP_length]; omega)]
  by_cases h1 : 8 * m ≤ i ∧ i < 8 * m + 8
  · rw [if_pos h1, wbyte_lane, lane_swT _ _ (by omega), pkB_lane, partL_get _ _ _ _ (by omega), show 8 * m + (i - 8 * m) = i by omega]
    unfold swP
    rw [range_getD _ _ _ hi, range_getD _ _ _ hi, if_neg (by omega), if_pos (by omega)]
    rfl
  · rw [if_neg h1]
    unfold swP
    rw [range_getD _ _ _ hi, range_getD _ _ _ hi]
    by_cases h2 : i < 8 * m
    · rw [if_pos h2, if_pos (by omega)]
    · rw [if_neg h2, if_neg (by omega)]

set_option maxHeartbeats 1000000 in
theorem stSwapped_any (s : List UInt8) (w : World) (hs : s.length = 16) (hT : TabQ w) :
    Calls Tryd.prog 57 #[.agg (bcells s)] w fun e w' => e = .returned (.agg (bcells (swS s))) ∧ Below w.heap.size w w' := by
  obtain ⟨hz, hi⟩ := zero_of_info infoAes
  have HG0 := Lib.hid (blk_old (o := .cells szeros 68) (blk_new w (.cells (bcells s) 68)))
  have HR0 := Lib.hid (blk_new2 w (.cells (bcells s) 68) (.cells szeros 68))
  have hb0 := below_new2 w (.cells (bcells s) 68) (.cells szeros 68)
  have HS := Lib.hid hs
  have hTl := hT.lt
  have HT0 := Lib.hid (hT.step hb0)
  clear hi hs hT
  go_enter Tryd.func57, Tryd.ntmps57
  go_wp2_with fail
  clear hz
  generalize ((w.alloc _).alloc _) = W0 at *
  generalize hBB : w.heap.size = B at *
  have HBB := Lib.hid hBB
  clear hBB
  go_loopw [5] (fun i wr => ∃ m : Nat, m ≤ 2 ∧ i = .int .i64 (m : Int) ∧ wr.heap[B]? = some (.cells (bcells (swP s m)) 68) ∧ wr.heap[B + 1]? = some (.cells szeros 68) ∧ Below B w wr ∧ TabQ wr) (fun i _ => 2 - (intOf i).toNat)
  case atStart => exact ⟨0, by omega, rfl, by rw [swP_zero s HS.out]; exact HG0.out, HR0.out, hb0, HT0.out⟩
  case round =>
    clear HG0 HR0 hb0 HT0
    obtain ⟨m, hm, rfl, hg, hr, hb, hT⟩ := hrel
    have HG := Lib.hid hg; have HR := Lib.hid hr; have HT := Lib.hid hT
    clear hg hr hT
    by_cases hlt : m < 2
    · have hd : decide ((m : Int) < 2) = true := by simp; omega
      have HL := Lib.hid (swP_length s m)
      have HN := Lib.hid (swP_succ s m hlt)
      generalize swP s m = l at *
      have sl := arr_sliced_at 68 16 B (8 * m) (8 * m + 8) (by kernel_rfl) (by kernel_rfl) (by kernel_rfl) (by omega) (by omega) (by omega) (8 * (m : Int)) (8 * (m : Int) + 8) (by omega) (by omega)
      rw [show 8 * m + 8 - 8 * m = 8 by omega] at sl
      have e1 : IntKind.i64.wrap (8 * (m : Int)) = 8 * (m : Int) := IntWalk.i64_in _ (by omega)
      have e2 : IntKind.i64.wrap (8 * (m : Int) + 8) = 8 * (m : Int) + 8 := IntWalk.i64_in _ (by omega)
      have HLd := Lib.hid (aload_any (partL l (8 * m) 8) B (8 * m) 8 (16 - 8 * m) wr (partL_length _ _ _) (by omega) (partL_cells HG.out (8 * m) 8 (by rw [HL.out]; omega)))
      have hpl := pkB_lt (partL l (8 * m) 8)
      rw [partL_length] at hpl
      generalize pkB (partL l (8 * m) 8) = a at *
      have HSw := Lib.hid (fun W hT => lanesSwapped_any a W (by omega) hT)
      generalize swW a = v at *
      go_wp2_with fail
      refine HLd.out.mono ?_
      rintro e W1 ⟨rfl, rfl⟩
      clear HLd
      go_wp2_with fail
      refine (HSw.out wr HT.out).mono ?_
      rintro e W1 ⟨rfl, hb1⟩
      clear HSw
      have hltw : B + 1 < wr.heap.size := blk_lt HR.out
      have HG1 := Lib.hid (blk_below hb1 (by omega) HG.out)
      have HR1 := Lib.hid (blk_below hb1 hltw HR.out)
      have HT1 := Lib.hid (HT.out.step hb1)
      have hb2 : Below B w W1 := hb.trans (hb1.mono (by omega))
      have hl1 := blk_lt HR1.out
      clear HG HR HT hb hb1 hltw
      go_wp2_with fail
      refine (astore_any l B (8 * m) 8 (16 - 8 * m) _ _ W1 HG1.out (by omega) (by rw [HL.out]; omega)).mono ?_
      rintro e Z ⟨rfl, hg3, hbut⟩
      rw [HN.out] at hg3
      have HG3 := Lib.hid hg3
      clear hg3 HG1
      have HR3 := Lib.hid ((hbut.block (B + 1) (by omega) (by omega)).trans HR1.out)
      have hb3 : Below B w Z := hb2.trans (hbut.below (by omega) (by omega))
      have HT3 := Lib.hid (show TabQ Z from HT1.out.below (B := B) (hbut.below (by omega) (by omega)) hTl)
      clear HR1 hb2 hbut hl1 HT1
      go_wp2_with fail
      go_roundw
      case rel => exact ⟨m + 1, by omega, by go_num, HG3.out, HR3.out, hb3, HT3.out⟩
      case measure => simp [intOf]; omega
    · have hd : decide ((m : Int) < 2) = false := by simp; omega
      obtain rfl : m = 2 := by omega
      have HG2 := Lib.hid (show wr.heap[B]? = some (.cells (bcells (swS s)) 68) from by rw [← swP_full s HS.out]; exact HG.out)
      have hl : (swS s).length = 16 := by rw [swS_length, HS.out]
      generalize hrow : swS s = row at *
      have HROW := Lib.hid hrow
      clear HG hrow
      have HI := Lib.hid (sizeAes row hl)
      have HO := Lib.hid (szeros_size row hl)
      have H1 := Lib.hid (arr_one row)
      go_wp2_with (first
        | (with_reducible refine wpList_load_row rfl 68 _ rfl B rfl 68 _ (0, 0) _ HG2.out Tryd.underlying68 rfl HI.out ?_)
        | (with_reducible refine wpList_store_row rfl 68 _ _ rfl (B + 1) (bcells row) rfl rfl 68 _ HR.out HI.out HO.out H1.out ?_))
      exact bodyPost_ret (v := .agg (bcells row)) (results_cell_row (by rfl) _ _ (B + 1) 68 _ (0, 0) _ rfl (setRow_heap _ _ _ _ _ _ HR.out) Tryd.underlying68 rfl HI.out) rfl ⟨by first | (with_reducible rfl) | rw [HROW.out], by rw [HBB.out]; exact below_setRow hb (by omega) _⟩

/-- The shifted bytes while they are laid. -/
def shP (s : List UInt8) (m : Nat) : List UInt8 := (List.range 16).map fun i => if i < m then s.getD ((i + 4 * (i % 4)) % 16) 0 else 0
theorem shP_length (s : List UInt8) (m : Nat) : (shP s m).length = 16 := by simp [shP]
theorem shP_zero (s : List UInt8) : shP s 0 = List.replicate 16 0 := by simp [shP]; rfl
theorem shP_full (s : List UInt8) : shP s 16 = shS s := bytes_ext (shP_length _ _) (shS_length _) fun i hi => by rw [shP, range_getD _ _ _ hi, shS, range_getD _ _ _ hi, if_pos hi]
theorem shP_succ (s : List UInt8) (c r : Nat) (hc : c < 4) (hr : r < 4) : (shP s (4 * c + r)).set (4 * c + r) (s.getD (4 * ((c + r) % 4) + r) 0) = shP s (4 * c + (r + 1)) := by
  refine bytes_ext (by rw [List.length_set, shP_length]) (shP_length _ _) fun i hi => ?_
  rw [set_getD _ _ _ _ (by rw [shP_length]; omega)]
  unfold shP
  rw [range_getD _ _ _ hi, range_getD _ _ _ hi]
  by_cases e : i = 4 * c + r
  · subst e
    rw [if_pos rfl, if_pos (by omega), show (4 * c + r + 4 * ((4 * c + r) % 4)) % 16 = 4 * ((c + r) % 4) + r by omega]
  · rw [if_neg e]
    by_cases h2 : i < 4 * c + r
    · rw [if_pos h2, if_pos (by omega)]
    · rw [if_neg h2, if_neg (by omega)]

set_option maxHeartbeats 1000000 in
theorem stShifted_any (s : List UInt8) (w : World) (hs : s.length = 16) :
    Calls Tryd.prog 58 #[.agg (bcells s)] w fun e w' => e = .returned (.agg (bcells (shS s))) ∧ Below w.heap.size w w' := by
  obtain ⟨hz, hi⟩ := zero_of_info infoAes
  have HG0 := Lib.hid (blk_old (o := .cells szeros 68) (blk_old (o := .cells szeros 68) (blk_new w (.cells (bcells s) 68))))
  have HR0 := Lib.hid (blk_old (o := .cells szeros 68) (blk_new2 w (.cells (bcells s) 68) (.cells szeros 68)))
  have HO0 := Lib.hid (blk_new3 w (.cells (bcells s) 68) (.cells szeros 68) (.cells szeros 68))
  have hb0 := below_new3 w (.cells (bcells s) 68) (.cells szeros 68) (.cells szeros 68)
  have HS := Lib.hid hs
  clear hi hs
  go_enter Tryd.func58, Tryd.ntmps58
  go_wp2_with fail
  clear hz
  generalize (((w.alloc _).alloc _).alloc _) = W0 at *
  generalize hBB : w.heap.size = B at *
  have HBB := Lib.hid hBB
  clear hBB
  go_loopw [6] (fun i wr => ∃ c : Nat, c ≤ 4 ∧ i = .int .i64 (c : Int) ∧ wr.heap[B]? = some (.cells (bcells s) 68) ∧ wr.heap[B + 1]? = some (.cells szeros 68) ∧ wr.heap[B + 1 + 1]? = some (.cells (bcells (shP s (4 * c))) 68) ∧ Below B w wr) (fun i _ => 4 - (intOf i).toNat)
  case atStart => exact ⟨0, by omega, rfl, HG0.out, HR0.out, by rw [shP_zero s]; exact HO0.out, hb0⟩
  case round =>
    clear HG0 HR0 HO0 hb0
    obtain ⟨c, hc, rfl, hg, hr, ho, hb⟩ := hrel
    have HG := Lib.hid hg; have HR := Lib.hid hr; have HO := Lib.hid ho
    clear hg hr ho
    by_cases hlt : c < 4
    · have hd : decide ((c : Int) < 4) = true := by simp; omega
      go_wp2_with fail
      go_loopw [9] (fun i wr => ∃ r : Nat, r ≤ 4 ∧ i = .int .i64 (r : Int) ∧ wr.heap[B]? = some (.cells (bcells s) 68) ∧ wr.heap[B + 1]? = some (.cells szeros 68) ∧ wr.heap[B + 1 + 1]? = some (.cells (bcells (shP s (4 * c + r))) 68) ∧ Below B w wr) (fun i _ => 4 - (intOf i).toNat)
      case atStart => exact ⟨0, by omega, rfl, HG.out, HR.out, HO.out, hb⟩
      case round =>
        clear HG HR HO hb
        obtain ⟨r, hr4, rfl, hg, hr, ho, hb⟩ := hrel
        have HG := Lib.hid hg; have HR := Lib.hid hr; have HO := Lib.hid ho
        clear hg hr ho
        by_cases hlr : r < 4
        · have hd2 : decide ((r : Int) < 4) = true := by simp; omega
          have HN := Lib.hid (shP_succ s c r hlt hlr)
          have cx := bcell_at HG.out (4 * ((c + r) % 4) + r) (by rw [HS.out]; omega)
          have co := bcell_at HO.out (4 * c + r) (by rw [shP_length]; omega)
          have fo := frozen_of_row _ (B + 1 + 1) (4 * c + r) _ _ HO.out
          have HSet := Lib.hid (bheap_set HO.out (4 * c + r) (s.getD (4 * ((c + r) % 4) + r) 0))
          rw [HN.out] at HSet
          generalize s.getD (4 * ((c + r) % 4) + r) 0 = x at *
          have e1 : IntKind.i64.wrap (4 * (c : Int)) = 4 * (c : Int) := IntWalk.i64_in _ (by omega)
          have e2 : IntKind.i64.wrap (4 * (c : Int) + (r : Int)) = 4 * (c : Int) + (r : Int) := IntWalk.i64_in _ (by omega)
          have e3 : IntKind.i64.wrap ((c : Int) + (r : Int)) = (c : Int) + (r : Int) := IntWalk.i64_in _ (by omega)
          go_wp2_with fail
          go_roundw
          case rel => exact ⟨r + 1, by omega, by go_num, by rw [heap_setCell_other _ _ _ _ (by simp <;> omega)]; exact HG.out, by rw [heap_setCell_other _ _ _ _ (by simp <;> omega)]; exact HR.out, HSet.out, hb.setCell (by simp <;> omega) _⟩
          case measure => simp [intOf]; omega
        · have hd2 : decide ((r : Int) < 4) = false := by simp; omega
          obtain rfl : r = 4 := by omega
          go_wp2_with fail
          go_roundw
          case rel => exact ⟨c + 1, by omega, by go_num, HG.out, HR.out, HO.out, hb⟩
          case measure => simp [intOf]; omega
    · have hd : decide ((c : Int) < 4) = false := by simp; omega
      obtain rfl : c = 4 := by omega
      have HG2 := Lib.hid (show wr.heap[B + 1 + 1]? = some (.cells (bcells (shS s)) 68) from by rw [← shP_full s]; exact HO.out)
      have hl := shS_length s
      generalize hrow : shS s = row at *
      have HROW := Lib.hid hrow
      clear HO hrow
      have HI := Lib.hid (sizeAes row hl)
      have HZ := Lib.hid (szeros_size row hl)
      have H1 := Lib.hid (arr_one row)
      go_wp2_with (first
        | (with_reducible refine wpList_load_row rfl 68 _ rfl (B + 1 + 1) rfl 68 _ (0, 0) _ HG2.out Tryd.underlying68 rfl HI.out ?_)
        | (with_reducible refine wpList_store_row rfl 68 _ _ rfl (B + 1) (bcells row) rfl rfl 68 _ HR.out HI.out HZ.out H1.out ?_))
      exact bodyPost_ret (v := .agg (bcells row)) (results_cell_row (by rfl) _ _ (B + 1) 68 _ (0, 0) _ rfl (setRow_heap _ _ _ _ _ _ HR.out) Tryd.underlying68 rfl HI.out) rfl ⟨by first | (with_reducible rfl) | rw [HROW.out], by rw [HBB.out]; exact below_setRow hb (by omega) _⟩
end Go.Proofs.YtoejkiblampecaaDoor
