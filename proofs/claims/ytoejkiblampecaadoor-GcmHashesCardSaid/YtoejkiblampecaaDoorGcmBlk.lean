/- The program's blocks: number, put, blockOf, blockOfTwo, counterBlock. -/
import Derived.Test.YtoejkiblampecaaDoorGcmFns
import Derived.Test.YtoejkiblampecaaDoorSub
import Derived.Test.YtoejkiblampecaaDoorFresh
namespace Go.Proofs.YtoejkiblampecaaDoor
open Go.RowKit Go.Sort
set_option maxRecDepth 100000
set_option linter.unusedSimpArgs false
set_option linter.unusedVariables false

theorem nb_walk (l : List UInt8) (k : Nat) : bits .or .u64 (IntKind.u64.wrap (((nbK l k : Nat) : Int) * 256)) (((l.getD k 0).toNat : Nat) : Int) = ((nbK l (k + 1) : Nat) : Int) := by
  have e : IntKind.u64.wrap (((nbK l k : Nat) : Int) * 256) = (((nbK l k * 256) % 18446744073709551616 : Nat) : Int) := by rw [IntKind.wrap_u64]; simp
  rw [e, u64_or_nat _ _ (Nat.mod_lt _ (by decide)) (Nat.lt_of_lt_of_le (UInt8.toNat_lt _) (by decide))]
  rfl

set_option maxHeartbeats 1000000 in
theorem number_any (l : List UInt8) (b off n cap : Nat) (w : World) (hl : l.length = n) (hn : n ≤ 8) (hc : ∀ j x, l[j]? = some x → w.cell? ⟨b, off + j, none⟩ = some (.int .u8 (x.toNat : Int))) :
    Calls Tryd.prog 46 #[.slice (some ⟨b, off, none⟩) n cap] w fun e w' => e = .returned (.int .u64 ((nbK l n : Nat) : Int)) ∧ w = w' := by
  have HC := Lib.hid hc
  have HN := Lib.hid hl
  clear hc hl
  go_enter Tryd.func46, Tryd.ntmps46
  go_wp2_with fail
  go_loopw [3, 8] (fun ov i wr => ∃ k : Nat, k ≤ n ∧ i = .int .i64 (k : Int) ∧ ov = .int .u64 ((nbK l k : Nat) : Int) ∧ w = wr) (fun _ i _ => n - (intOf i).toNat)
  case atStart => exact ⟨0, by omega, rfl, rfl, rfl⟩
  case round =>
    obtain ⟨k, hk, rfl, rfl, rfl⟩ := hrel
    by_cases hlt : k < n
    · have hd : decide ((k : Int) < (n : Int)) = true := by simp; omega
      have hkl : k < l.length := by rw [HN.out]; exact hlt
      have hx := HC.out k (l.getD k 0) (by rw [List.getD_eq_getElem?_getD, List.getElem?_eq_getElem hkl]; rfl)
      have HW := Lib.hid (nb_walk l k)
      have hb := UInt8.toNat_lt (l.getD k 0)
      generalize nbK l k = o at *
      generalize (l.getD k 0).toNat = x at *
      have e1 : (x : Int) % 18446744073709551616 = (x : Int) := by omega
      go_wp2_with fail
      go_roundw
      case rel => exact ⟨k + 1, by omega, by go_num, by rw [← HW.out], trivial⟩
      case measure => simp [intOf]; omega
    · have hd : decide ((k : Int) < (n : Int)) = false := by simp; omega
      obtain rfl : k = n := by omega
      go_wp2_with fail
      go_ret
      exact ⟨rfl, rfl⟩

set_option maxHeartbeats 1000000 in
theorem put_any (l : List UInt8) (b off n cap : Nat) (T : TypeId) (v : Nat) (w : World) (hg : w.heap[b]? = some (.cells (bcells l) T)) (hl : l.length = 16) (hn : n ≤ 8) (ho : off + n ≤ 16) :
    Calls Tryd.prog 50 #[.slice (some ⟨b, off, none⟩) n cap, .int .u64 (v : Int)] w fun e w' => e = .returned (.tuple #[]) ∧ w'.heap[b]? = some (.cells (bcells (putB l off n v n)) T) ∧ But b w w' := by
  have HG := Lib.hid (show w.heap[b]? = some (.cells (bcells (putB l off n v 0)) T) by rw [putB_zero _ _ _ _ hl]; exact hg)
  clear hg
  go_enter Tryd.func50, Tryd.ntmps50
  go_wp2_with fail
  go_loopw [7] (fun i wr => ∃ k : Nat, k ≤ n ∧ i = .int .i64 (k : Int) ∧ wr.heap[b]? = some (.cells (bcells (putB l off n v k)) T) ∧ But b w wr) (fun i _ => n - (intOf i).toNat)
  case atStart => exact ⟨0, by omega, rfl, HG.out, But.refl _ _⟩
  case round =>
    clear HG
    obtain ⟨k, hk, rfl, hg, hb⟩ := hrel
    have HG := Lib.hid hg
    clear hg
    by_cases hlt : k < n
    · have hd : decide ((k : Int) < (n : Int)) = true := by simp; omega
      have hj : off + (n - 1 - k) < (putB l off n v k).length := by rw [putB_length]; omega
      have hx : wr.cell? ⟨b, off + (n - 1 - k), none⟩ = some (.int .u8 ((putB l off n v k)[off + (n - 1 - k)].toNat : Int)) := by rw [cell_of_row wr _ _ _ _ _ HG.out]; exact bcells_get _ _ _ (List.getElem?_eq_getElem hj)
      have hf : wr.frozen? ⟨b, off + (n - 1 - k), none⟩ = false := frozen_of_row wr _ _ _ _ HG.out
      generalize ((putB l off n v k)[off + (n - 1 - k)].toNat : Int) = x at hx
      have HS := Lib.hid (show ∀ x : Int, x = (v : Int) / 2 ^ (8 * k) % 256 → (wr.setCell ⟨b, off + (n - 1 - k), none⟩ (.int .u8 x)).heap[b]? = some (.cells (bcells (putB l off n v (k + 1))) T) from by
        rintro x rfl
        rw [← wbyte_toNat (v : Int) (8 * k), ← putB_succ l off n v k hlt ho, ← bcells_set]
        exact Go.heap_setCell_same _ _ _ _ _ _ HG.out)
      have e8 : (8 * (k : Int)).toNat = 8 * k := by omega
      have n8 : (0 : Int) ≤ 8 * (k : Int) := by omega
      have e9 : IntKind.i64.wrap ((n : Int) - 1) = (n : Int) - 1 := IntWalk.i64_in _ (by omega)
      have e10 : IntKind.i64.wrap ((n : Int) - 1 - (k : Int)) = (n : Int) - 1 - (k : Int) := IntWalk.i64_in _ (by omega)
      have e11 : ((n : Int) - 1 - (k : Int)).toNat = n - 1 - k := by omega
      have e12 : (0 : Int) ≤ (n : Int) - 1 - (k : Int) := by omega
      have e13 : (n : Int) - 1 - (k : Int) < (n : Int) := by omega
      go_wp2_with fail
      go_roundw
      case rel => exact ⟨k + 1, by omega, by go_num, HS.out _ (by simp), hb.trans (But.setCell _ _ _ _ rfl)⟩
      case measure => simp [intOf]; omega
    · have hd : decide ((k : Int) < (n : Int)) = false := by simp; omega
      obtain rfl : k = n := by omega
      go_wp2_with fail
      go_end0
      exact ⟨rfl, HG.out, hb⟩

def gzeros : Array Value := bcells zeroB
theorem infoB : (Tryd.prog.info? 35).map (fun i => (i.zero, i.size)) = some (some (.agg gzeros), 16) := by kernel_rfl
theorem sizeG (l : List UInt8) (h : l.length = 16) : (Tryd.prog.info? 35).map (·.size) = some (bcells l).size := by rw [bcells_size, h]; exact (zero_of_info infoB).2
theorem gzeros_size (l : List UInt8) (h : l.length = 16) : gzeros.size = (bcells l).size := by rw [bcells_size, h]; exact bcells_size _

/-- The copy of a text's beginning into a new block. -/
theorem copy_block_any (V : World) (g : Nat) (k : ByteArray) (hg : V.heap[g]? = some (.cells gzeros 35)) :
    (Builtin.copy_ #[31, 9] 3 #[.slice (some ⟨g, 0, none⟩) 16 16, .string k]).run Tryd.prog V = .ok (.int .i64 (min k.size 16 : Nat)) (V.setRow g (bcells (fitB k.data.toList))) := by
  obtain ⟨i0, hi, hz0, hz1, hz2⟩ := info_parts info_u8
  have hlen : (Lib.byteCells (k.data.toList.take 16)).length = min k.size 16 := by rw [Lib.byteCells_length, List.length_take, ← Lib.size_eq, Nat.min_comm]
  have hst := _root_.Go.run_storeCells_at Tryd.prog g 0 35 (Lib.byteCells (k.data.toList.take 16)) 0 gzeros V hg (by rw [hlen, show gzeros.size = 16 from bcells_size _]; omega) (Lib.byteCells_one _)
  have htk : List.take (min k.size 16) (List.map (fun b : UInt8 => Value.int IntKind.u8 (b.toNat : Int)) k.data.toList) = Lib.byteCells (k.data.toList.take 16) := by
    rw [Lib.byteCells, List.map_take]
    rcases Nat.le_total k.size 16 with h | h
    · rw [Nat.min_eq_left h, List.take_of_length_le (by rw [List.length_map, ← Lib.size_eq]; exact Nat.le_refl _), List.take_of_length_le (by rw [List.length_map, ← Lib.size_eq]; exact h)]
    · rw [Nat.min_eq_right h]
  have hfin : (List.take 0 gzeros.toList ++ Lib.byteCells (k.data.toList.take 16) ++ List.drop (0 + (min k.size 16)) gzeros.toList).toArray = bcells (fitB k.data.toList) := by
    have : (k.data.toList.take 16) ++ List.replicate (16 - min k.size 16) 0 = fitB k.data.toList := bytes_ext (n := 16) (by rw [List.length_append, List.length_take, List.length_replicate, ← Lib.size_eq]; omega) (fitB_length _) fun i hi' => by
      rw [fitB, range_getD _ _ _ hi', List.getD_eq_getElem?_getD, List.getD_eq_getElem?_getD]
      by_cases h : i < k.size
      · rw [List.getElem?_append_left (by rw [List.length_take, ← Lib.size_eq]; omega), List.getElem?_take, if_pos hi']
      · rw [List.getElem?_append_right (by rw [List.length_take, ← Lib.size_eq]; omega), List.getElem?_replicate, List.getElem?_eq_none (show k.data.toList.length ≤ i by rw [← Lib.size_eq]; omega)]
        split <;> rfl
    rw [← this, show gzeros.toList = List.replicate 16 (Value.int IntKind.u8 0) from rfl, Nat.zero_add, List.drop_replicate]
    simp [bcells, Lib.byteCells]
  rw [hlen] at hst
  simp only [Nat.add_zero, Nat.zero_add, List.take_zero, List.nil_append] at hst hfin
  have hq := hi
  simp [Builtin.copy_, run_underlying Tryd.underlying31, Builtin.lenOf, Builtin.firstCells, sizeOf, typeInfo, hq, hz1]
  rw [show k.size.min 16 = min k.size 16 from rfl, htk, hst, hfin]
  rfl

set_option maxHeartbeats 1000000 in
theorem blockOf_any (s : ByteArray) (w : World) :
    Calls Tryd.prog 19 #[.string s] w fun e w' => e = .returned (.agg (bcells (fitB s.data.toList))) ∧ Below w.heap.size w w' := by
  obtain ⟨hz, hi⟩ := zero_of_info infoB
  have hl := fitB_length s.data.toList
  have HI := Lib.hid (sizeG _ hl)
  have HO := Lib.hid (gzeros_size _ hl)
  have H1 := Lib.hid (arr_one (fitB s.data.toList))
  have hB : (w.alloc (.cells gzeros 35)).heap.size = w.heap.size + 1 := by simp
  have HG0 := blk_new2 w (.cells gzeros 35) (.cells gzeros 35)
  have HR0 := blk_old (o := .cells gzeros 35) (blk_new w (.cells gzeros 35))
  have hc0 := copy_block_any ((w.alloc (.cells gzeros 35)).alloc (.cells gzeros 35)) (w.heap.size + 1) s HG0
  have sl := arr_sliced_all 35 16 (w.heap.size + 1) (by kernel_rfl) (by kernel_rfl) (by kernel_rfl) (by omega)
  have HG := Lib.hid (setRow_heap _ (w.heap.size + 1) _ (bcells (fitB s.data.toList)) _ _ HG0)
  have HR := Lib.hid (show (((w.alloc (.cells gzeros 35)).alloc (.cells gzeros 35)).setRow (w.heap.size + 1) (bcells (fitB s.data.toList))).heap[w.heap.size]? = some (.cells gzeros 35) from by rw [setRow_other _ _ _ _ (by omega)]; exact HR0)
  have hb2 : Below w.heap.size w (((w.alloc (.cells gzeros 35)).alloc (.cells gzeros 35)).setRow (w.heap.size + 1) (bcells (fitB s.data.toList))) := below_setRow (below_new2 w _ _) (by omega) _
  clear hi hl HR0 hB HG0
  generalize hrow : fitB s.data.toList = row at *
  have HROW := Lib.hid hrow
  clear hrow
  go_enter Tryd.func19, Tryd.ntmps19
  go_wp2_with (first
    | (with_reducible refine wpList_load_row rfl 35 _ rfl (w.heap.size + 1) rfl 35 _ (0, 0) _ HG.out Tryd.underlying35 rfl HI.out ?_)
    | (with_reducible refine wpList_store_row rfl 35 _ _ rfl w.heap.size (bcells row) rfl rfl 35 _ HR.out HI.out HO.out H1.out ?_))
  exact bodyPost_ret (v := .agg (bcells row)) (results_cell_row (by rfl) _ _ w.heap.size 35 _ (0, 0) _ rfl (setRow_heap _ _ _ _ _ _ HR.out) Tryd.underlying35 rfl HI.out) rfl ⟨rfl, below_setRow hb2 (Nat.le_refl _) _⟩

theorem take_cells {W : World} {B : Nat} {s : List UInt8} {T : TypeId} {fr : Nat × Nat} (h : W.heap[B]? = some (.cells (bcells s) T fr)) (k : Nat) : ∀ j x, (s.take k)[j]? = some x → W.cell? ⟨B, 0 + j, none⟩ = some (.int .u8 (x.toNat : Int)) := fun j x hx => by
  rw [List.getElem?_take] at hx
  split at hx
  · rw [Nat.zero_add]; exact cells_of_bcells h j x hx
  · cases hx
theorem drop_cells {W : World} {B : Nat} {s : List UInt8} {T : TypeId} {fr : Nat × Nat} (h : W.heap[B]? = some (.cells (bcells s) T fr)) (k : Nat) : ∀ j x, (s.drop k)[j]? = some x → W.cell? ⟨B, k + j, none⟩ = some (.int .u8 (x.toNat : Int)) := fun j x hx => by
  rw [List.getElem?_drop] at hx
  exact cells_of_bcells h _ x hx
/-- 'b[:8]', 'b[k:]' of a block in memory. -/
theorem gsl_first (B : Nat) (w : World) : (Instr.sliceAt 35 (.pointer (some ⟨B, 0, none⟩)) none (some (.int .i64 8)) none).run Tryd.prog w = .ok (.slice (some ⟨B, 0, none⟩) 8 16) w := by
  have hn : Tryd.prog.arrayLen 35 = 16 := by kernel_rfl
  rw [run_sliceAt_array_h w 35 ⟨B, 0, none⟩ (by kernel_rfl) .i64 8 (by omega) (by rw [hn]; omega), arr_sizeOf (by kernel_rfl), hn]
  simp [slicedAt, Addr.add_lit]
theorem gsl_from (B k : Nat) (hk : k < 16) (w : World) : (Instr.sliceAt 35 (.pointer (some ⟨B, 0, none⟩)) (some (.int .i64 (k : Int))) none none).run Tryd.prog w = .ok (.slice (some ⟨B, k, none⟩) (16 - k) (16 - k)) w := by
  have hn : Tryd.prog.arrayLen 35 = 16 := by kernel_rfl
  rw [run_sliceAt_array_l w 35 ⟨B, 0, none⟩ (by kernel_rfl) .i64 (k : Int) (by omega) (by rw [hn]; omega), arr_sizeOf (by kernel_rfl), hn]
  simp only [Result.andThen_ok, slicedAt, Int.toNat_natCast, Nat.mul_one]
  rw [if_neg (by omega), Addr.add_lit, Nat.zero_add]

theorem pzn : (pzero = #[]) = False := by simp [pzero, pw2]
theorem pzs : pzero.size = 2 := rfl
set_option maxHeartbeats 1000000 in
theorem polyOf_any (s : List UInt8) (w : World) (hs : s.length = 16) :
    Calls Tryd.prog 28 #[.agg (bcells s)] w fun e w' => e = .returned (.agg (pw2 (wd s 0) (wd s 1))) ∧ Below w.heap.size w w' := by
  obtain ⟨hz, hi⟩ := zero_of_info infoP
  have HG0 := Lib.hid (blk_old (o := .cells pzero 51) (blk_new w (.cells (bcells s) 35)))
  have HR0 := Lib.hid (blk_new2 w (.cells (bcells s) 35) (.cells pzero 51))
  have hb0 := below_new2 w (.cells (bcells s) 35) (.cells pzero 51)
  have HN1 := Lib.hid (fun W (h : W.heap[w.heap.size]? = some (.cells (bcells s) 35)) => number_any (s.take 8) w.heap.size 0 8 16 W (by rw [List.length_take, hs]; rfl) (by omega) (take_cells h 8))
  have HN2 := Lib.hid (fun W (h : W.heap[w.heap.size]? = some (.cells (bcells s) 35)) => number_any (s.drop 8) w.heap.size 8 8 8 W (by rw [List.length_drop, hs]) (by omega) (drop_cells h 8))
  rw [nb_first] at HN1
  rw [nb_second] at HN2
  generalize wd s 0 = p at *
  generalize wd s 1 = q at *
  have HI := Lib.hid (sizeP p q)
  have HO := Lib.hid (pzero_size p q)
  have H1 := Lib.hid (pw2_one p q)
  have hbd := pw2_build p q
  have s1 := gsl_first w.heap.size
  have s2 := gsl_from w.heap.size 8 (by omega)
  clear hi
  go_enter Tryd.func28, Tryd.ntmps28
  go_wp2_with fail
  generalize hW0 : ((w.alloc _).alloc _) = W0 at *
  clear hW0
  generalize hBB : w.heap.size = B at *
  have HBB := Lib.hid hBB
  clear hBB
  refine wp_region_fresh 5 8 [.val (.slice (some ⟨B, 0, none⟩) 8 16) [(1, .pointer (some ⟨B, 0, none⟩))], .val (.int .u64 (p : Int)) [(3, .slice (some ⟨B, 0, none⟩) 8 16)], .val (.slice (some ⟨B, 8, none⟩) 8 8) [(1, .pointer (some ⟨B, 0, none⟩))],
    .val (.int .u64 (q : Int)) [(5, .slice (some ⟨B, 8, none⟩) 8 8)], .val (.agg (pw2 p q)) [(4, .int .u64 (p : Int)), (6, .int .u64 (q : Int))]]
    (by kernel_rfl) (by kernel_rfl) rfl ?_ ?_ ?_
  · simp only [List.take_succ_cons, List.take_zero, headObl, specObl, HeadSpec.val, HeadSpec.fresh, and_true]
    refine ⟨?_, ?_, ?_, ?_, ?_⟩
    · intro a w hb h
      have e := h (1, .pointer (some ⟨B, 0, none⟩)) (by simp)
      simp only [Array.getD_eq_getD_getElem?] at e
      simp [go_sem, e, sQuiet, s1]
    · intro a w hb h
      have e := h (3, .slice (some ⟨B, 0, none⟩) 8 16) (by simp)
      simp only [Array.getD_eq_getD_getElem?] at e
      simp [go_sem, e, sQuiet]
      exact (HN1.out w (blk_below hb (blk_lt HG0.out) HG0.out)).mono fun e w' ⟨h, hw⟩ => ⟨h, hw ▸ Below.refl _ _⟩
    · intro a w hb h
      have e := h (1, .pointer (some ⟨B, 0, none⟩)) (by simp)
      simp only [Array.getD_eq_getD_getElem?] at e
      first | (simp [go_sem, e, sQuiet, s2]; done) | (simp [go_sem, e, sQuiet]; exact s2 w)
    · intro a w hb h
      have e := h (5, .slice (some ⟨B, 8, none⟩) 8 8) (by simp)
      simp only [Array.getD_eq_getD_getElem?] at e
      simp [go_sem, e, sQuiet]
      exact (HN2.out w (blk_below hb (blk_lt HG0.out) HG0.out)).mono fun e w' ⟨h, hw⟩ => ⟨h, hw ▸ Below.refl _ _⟩
    · intro a w hb h
      have e0 := h (4, .int .u64 (p : Int)) (by simp)
      have e1 := h (6, .int .u64 (q : Int)) (by simp)
      simp only [Array.getD_eq_getD_getElem?] at e0 e1
      simp [go_sem, e0, e1, sQuiet, hz, hbd, pzn, pzs]
  · simp [headReads, headPut, specV, HeadSpec.val, HeadSpec.fresh, Act.put]
  · simp only [List.take_succ_cons, List.take_zero, List.drop_succ_cons, List.drop_zero, headEnd, HeadSpec.val, HeadSpec.fresh, Act.put, List.setIfInBounds_toArray, List.set_cons_succ, List.set_cons_zero]
    intro w1 hb1 hgs
    have HR1 := Lib.hid (blk_below hb1 (blk_lt HR0.out) HR0.out)
    have hb2 := hb0.trans (hb1.mono (HBB.out ▸ hb0.size))
    go_wp2_with (with_reducible refine wpList_store_row rfl 51 _ _ rfl (B + 1) (pw2 p q) rfl rfl 51 _ HR1.out HI.out HO.out H1.out ?_)
    exact bodyPost_ret (v := .agg (pw2 p q)) (results_cell_row (by rfl) _ _ (B + 1) 51 _ (0, 0) _ rfl (setRow_heap _ _ _ _ _ _ HR1.out) Tryd.underlying51 rfl HI.out) rfl ⟨rfl, by rw [HBB.out]; exact below_setRow hb2 (by omega) _⟩

set_option maxHeartbeats 1000000 in
theorem twoOf_any (x y : Nat) (w : World) :
    Calls Tryd.prog 35 #[.int .u64 (x : Int), .int .u64 (y : Int)] w fun e w' => e = .returned (.agg (bcells (twoB x y))) ∧ Below w.heap.size w w' := by
  obtain ⟨hz, hi⟩ := zero_of_info infoB
  have HR0 := Lib.hid (blk_old (o := .cells gzeros 35) (blk_new w (.cells gzeros 35)))
  have HG0 := Lib.hid (blk_new2 w (.cells gzeros 35) (.cells gzeros 35))
  have hb0 := below_new2 w (.cells gzeros 35) (.cells gzeros 35)
  have s1 := gsl_first (w.heap.size + 1)
  have s2 := gsl_from (w.heap.size + 1) 8 (by omega)
  clear hi
  go_enter Tryd.func35, Tryd.ntmps35
  go_wp2_with fail
  generalize ((w.alloc _).alloc _) = W0 at *
  generalize hBB : w.heap.size = B at *
  have HBB := Lib.hid hBB
  clear hBB
  have hl1 := blk_lt HG0.out
  refine (put_any zeroB (B + 1) 0 8 16 35 x W0 HG0.out List.length_replicate (by omega) (by omega)).mono ?_
  rintro e W1 ⟨rfl, hg1, hbut1⟩
  have HG1 := Lib.hid hg1
  have HR1 := Lib.hid ((hbut1.block B (by omega) (by omega)).trans HR0.out)
  have hb1 : Below B w W1 := hb0.trans (hbut1.below (by omega) (by omega))
  clear hg1 HG0 HR0 hb0 hbut1 hl1
  have hl1 := blk_lt HG1.out
  go_wp2_with fail
  refine (put_any (putB zeroB 0 8 x 8) (B + 1) 8 8 8 35 y W1 HG1.out (putB_length _ _ _ _ _) (by omega) (by omega)).mono ?_
  rintro e W2 ⟨rfl, hg2, hbut2⟩
  have HG2 := Lib.hid (show W2.heap[B + 1]? = some (.cells (bcells (twoB x y)) 35) from hg2)
  have HR2 := Lib.hid ((hbut2.block B (by omega) (by omega)).trans HR1.out)
  have hb2 : Below B w W2 := hb1.trans (hbut2.below (by omega) (by omega))
  clear hg2 HG1 HR1 hb1 hbut2 hl1
  have hl := twoB_length x y
  have HI := Lib.hid (sizeG _ hl)
  have HO := Lib.hid (gzeros_size _ hl)
  have H1 := Lib.hid (arr_one (twoB x y))
  go_wp2_with (first
    | (with_reducible refine wpList_load_row rfl 35 _ rfl (B + 1) rfl 35 _ (0, 0) _ HG2.out Tryd.underlying35 rfl HI.out ?_)
    | (with_reducible refine wpList_store_row rfl 35 _ _ rfl B (bcells (twoB x y)) rfl rfl 35 _ HR2.out HI.out HO.out H1.out ?_))
  exact bodyPost_ret (v := .agg (bcells (twoB x y))) (results_cell_row (by rfl) _ _ B 35 _ (0, 0) _ rfl (setRow_heap _ _ _ _ _ _ HR2.out) Tryd.underlying35 rfl HI.out) rfl ⟨rfl, by rw [HBB.out]; exact below_setRow hb2 (Nat.le_refl _) _⟩

set_option maxHeartbeats 1000000 in
theorem blockBack_any (s : List UInt8) (w : World) (hs : s.length = 16) :
    Calls Tryd.prog 31 #[.agg (pw2 (wd s 0) (wd s 1))] w fun e w' => e = .returned (.agg (bcells s)) ∧ Below w.heap.size w w' := by
  obtain ⟨hz, hi⟩ := zero_of_info infoB
  have HT := Lib.hid (twoOf_any (wd s 0) (wd s 1))
  rw [twoB_wd s hs] at HT
  generalize wd s 0 = x at *
  generalize wd s 1 = y at *
  have HR0 := Lib.hid (blk_new2 w (.cells (pw2 x y) 51) (.cells gzeros 35))
  have hb0 := below_new2 w (.cells (pw2 x y) 51) (.cells gzeros 35)
  obtain ⟨c0, c1⟩ := pw2_cells (blk_old (o := .cells gzeros 35) (blk_new w (.cells (pw2 x y) 51)))
  have HI := Lib.hid (sizeG s hs)
  have HO := Lib.hid (gzeros_size s hs)
  have H1 := Lib.hid (arr_one s)
  clear hi
  go_enter Tryd.func31, Tryd.ntmps31
  go_wp2_with fail
  refine (HT.out _).mono ?_
  rintro e W1 ⟨rfl, hb1⟩
  have HR1 := Lib.hid (blk_below hb1 (blk_lt HR0.out) HR0.out)
  have hb2 := hb0.trans (hb1.mono hb0.size)
  clear HT c0 c1 hb1 HR0 hb0
  go_wp2_with (with_reducible refine wpList_store_row rfl 35 _ _ rfl (w.heap.size + 1) (bcells s) rfl rfl 35 _ HR1.out HI.out HO.out H1.out ?_)
  exact bodyPost_ret (v := .agg (bcells s)) (results_cell_row (by rfl) _ _ (w.heap.size + 1) 35 _ (0, 0) _ rfl (setRow_heap _ _ _ _ _ _ HR1.out) Tryd.underlying35 rfl HI.out) rfl ⟨rfl, below_setRow hb2 (by omega) _⟩

set_option maxHeartbeats 1000000 in
theorem counterBlock_any (nonce : ByteArray) (n : Nat) (w : World) (hn : n < 4294967296) (hs : nonce.size = 12) :
    Calls Tryd.prog 33 #[.string nonce, .int .u32 (n : Int)] w fun e w' => e = .returned (.agg (bcells (ctG nonce.data.toList n))) ∧ Below w.heap.size w w' := by
  obtain ⟨hz, hi⟩ := zero_of_info infoB
  have hnl : nonce.data.toList.length = 12 := by rw [← Lib.size_eq]; exact hs
  have HR0 := Lib.hid (blk_new w (.cells gzeros 35))
  have hb0 := below_new w (.cells gzeros 35)
  have HC := Lib.hid (ctG_put nonce.data.toList n hnl)
  have hcl := ctG_length nonce.data.toList n hnl
  have e64 : (n : Int) % 18446744073709551616 = (n : Int) := by omega
  have HBO := Lib.hid (blockOf_any nonce)
  have hfl := fitB_length nonce.data.toList
  generalize fitB nonce.data.toList = fb at *
  generalize ctG nonce.data.toList n = ct at *
  have HIf := Lib.hid (sizeG fb hfl)
  have HOf := Lib.hid (gzeros_size fb hfl)
  have H1f := Lib.hid (arr_one fb)
  have HI := Lib.hid (sizeG ct hcl)
  have HO := Lib.hid (gzeros_size ct hcl)
  have H1 := Lib.hid (arr_one ct)
  clear hi hnl
  go_enter Tryd.func33, Tryd.ntmps33
  go_wp2_with fail
  generalize (w.alloc _) = W0 at *
  refine (HBO.out W0).mono ?_
  rintro e W1 ⟨rfl, hb1⟩
  have hl0 := blk_lt HR0.out
  have HR1 := Lib.hid (blk_below hb1 hl0 HR0.out)
  have hb2 := hb0.trans (hb1.mono hb0.size)
  have hl1 := blk_lt HR1.out
  have HG0 := Lib.hid (blk_new W1 (.cells gzeros 35))
  have HG1 := Lib.hid (setRow_heap _ W1.heap.size _ (bcells fb) _ _ HG0.out)
  have HR2 := Lib.hid (show ((W1.alloc (.cells gzeros 35)).setRow W1.heap.size (bcells fb)).heap[w.heap.size]? = some (.cells gzeros 35) from by rw [setRow_other _ _ _ _ (by omega)]; exact blk_old HR1.out)
  have hb3 : Below w.heap.size w ((W1.alloc (.cells gzeros 35)).setRow W1.heap.size (bcells fb)) := below_setRow (hb2.alloc (by omega) _) (by omega) _
  have s2 := gsl_from W1.heap.size 12 (by omega)
  have hlG := blk_lt HG1.out
  clear hb1 HR0 hb0 HBO HR1 hb2 hl0
  go_wp2_with (with_reducible refine wpList_store_row rfl 35 _ _ rfl W1.heap.size (bcells fb) rfl rfl 35 _ HG0.out HIf.out HOf.out H1f.out ?_)
  clear HG0
  generalize W1.heap.size = G at *
  generalize World.setRow (World.alloc W1 _) _ _ = W2 at *
  refine (put_any fb G 12 4 4 35 n W2 HG1.out hfl (by omega) (by omega)).mono ?_
  rintro e W3 ⟨rfl, hg3, hbut3⟩
  rw [HC.out] at hg3
  have HG3 := Lib.hid hg3
  have HR3 := Lib.hid ((hbut3.block w.heap.size (by omega) (by omega)).trans HR2.out)
  have hb4 : Below w.heap.size w W3 := hb3.trans (hbut3.below (by omega) (by omega))
  clear hg3 HG1 HR2 hb3 hbut3 HC s2
  go_wp2_with (first
    | (with_reducible refine wpList_load_row rfl 35 _ rfl G rfl 35 _ (0, 0) _ HG3.out Tryd.underlying35 rfl HI.out ?_)
    | (with_reducible refine wpList_store_row rfl 35 _ _ rfl w.heap.size (bcells ct) rfl rfl 35 _ HR3.out HI.out HO.out H1.out ?_))
  exact bodyPost_ret (v := .agg (bcells ct)) (results_cell_row (by rfl) _ _ w.heap.size 35 _ (0, 0) _ rfl (setRow_heap _ _ _ _ _ _ HR3.out) Tryd.underlying35 rfl HI.out) rfl ⟨rfl, below_setRow hb4 (by omega) _⟩
end Go.Proofs.YtoejkiblampecaaDoor
