/- The program's Hash, and its blocks encrypted. -/
import Derived.Test.YtoejkiblampecaaDoorGcmDig
namespace Go.Proofs.YtoejkiblampecaaDoor
open Go.RowKit Go.Sort
set_option maxRecDepth 100000
set_option linter.unusedSimpArgs false
set_option linter.unusedVariables false

set_option maxHeartbeats 1000000 in
theorem ghashKey_any (key blocks : ByteArray) (w : World) (hk : key.size ≠ 16) :
    Calls Tryd.prog 10 #[.string key, .string blocks] w fun e w' => e = .returned (.tuple #[.string ⟨#[]⟩, .int .i64 21]) ∧ Below w.heap.size w w' := by
  have hd1 : ((key.size : Int) != 16) = true := by simp; omega
  go_enter Tryd.func10, Tryd.ntmps10
  go_wp2_with fail
  go_ret2
  exact ⟨rfl, Below.refl _ _⟩
set_option maxHeartbeats 1000000 in
theorem ghashArg_any (key blocks : ByteArray) (w : World) (hk : key.size = 16) (hb : blocks.size % 16 ≠ 0) :
    Calls Tryd.prog 10 #[.string key, .string blocks] w fun e w' => e = .returned (.tuple #[.string ⟨#[]⟩, .int .i64 1]) ∧ Below w.heap.size w w' := by
  have hd1 : ((key.size : Int) != 16) = false := by simp; omega
  have hd2 : ((blocks.size : Int) % 16 != 0) = true := by simp; omega
  go_enter Tryd.func10, Tryd.ntmps10
  go_wp2_with fail
  go_ret2
  exact ⟨rfl, Below.refl _ _⟩

set_option maxHeartbeats 1000000 in
theorem ghash_any (key blocks : ByteArray) (w : World) (hk : key.size = 16) (hb : blocks.size % 16 = 0) (hs : blocks.size ≤ 1099511627776) :
    Calls Tryd.prog 10 #[.string key, .string blocks] w fun e w' => e = .returned (.tuple #[.string ⟨(hashG key.data.toList blocks.data.toList).toArray⟩, .int .i64 0]) ∧ Below w.heap.size w w' := by
  obtain ⟨hz, hi⟩ := zero_of_info infoB
  have hd1 : ((key.size : Int) != 16) = false := by simp; omega
  have hd2 : ((blocks.size : Int) % 16 != 0) = false := by simp; omega
  have HBo := Lib.hid (fun W => blockOf_any key W)
  have hkl : key.data.toList.length = 16 := by rw [← Lib.size_eq]; exact hk
  rw [fitB_self _ hkl] at HBo
  have HD := Lib.hid (fun W => digest_any key.data.toList (some ⟨W.heap.size, 0, none⟩) 1 1 (fun _ => blocks) (W.alloc (.cells #[.string blocks] 9)) hkl (by omega) (texts_one W blocks) (fun _ _ => hs))
  rw [dgA_one _ _ (by rw [← Lib.size_eq]; exact hb)] at HD
  have hhl := hashG_length key.data.toList blocks.data.toList
  have HIh := Lib.hid (sizeG _ hhl)
  have HOh := Lib.hid (gzeros_size _ hhl)
  have H1h := Lib.hid (arr_one (hashG key.data.toList blocks.data.toList))
  have HHL := Lib.hid hhl
  clear hi hk hb hkl hhl
  generalize hrow : hashG key.data.toList blocks.data.toList = row at *
  have HROW := Lib.hid hrow
  clear hrow
  go_enter Tryd.func10, Tryd.ntmps10
  go_wp2_with fail
  refine (HBo.out _).mono ?_
  rintro e W1 ⟨rfl, hb1⟩
  go_wp2_with fail
  refine (HD.out W1).mono ?_
  rintro e W2 ⟨rfl, hb2⟩
  have hb3 : Below w.heap.size w W2 := (hb1.alloc hb1.size _).trans (hb2.mono (by have := hb1.size; simp; omega))
  have hsz3 := hb3.size
  have HG := Lib.hid (blk_new W2 (.cells gzeros 35))
  have HG2 := Lib.hid (setRow_heap _ W2.heap.size _ (bcells row) _ _ HG.out)
  have hb4 : Below w.heap.size w ((W2.alloc (.cells gzeros 35)).setRow W2.heap.size (bcells row)) := below_setRow (hb3.alloc hsz3 _) hsz3 _
  have sl := arr_sliced_all 35 16 W2.heap.size (by kernel_rfl) (by kernel_rfl) (by kernel_rfl) (by omega)
  have hcv := run_string_row ((W2.alloc (.cells gzeros 35)).setRow W2.heap.size (bcells row)) W2.heap.size 16 row (cells_of_bcells HG2.out)
  rw [HHL.out] at hcv
  clear hb1 hb2 hb3 HBo HD
  go_wp2_with (with_reducible refine wpList_store_row rfl 35 _ _ rfl W2.heap.size (bcells row) rfl rfl 35 _ HG.out HIh.out HOh.out H1h.out ?_)
  go_ret2
  exact ⟨by first | rfl | (rw [HROW.out]; rfl), hb4⟩

/-- One of the blocks that lie one behind the other. -/
def blkS (l : List UInt8) (j : Nat) : ByteArray := ⟨(subL l (16 * j) 16).toArray⟩
theorem blkS_size (l : List UInt8) (n j : Nat) (h : l.length = 16 * n) (hj : j < n) : (blkS l j).size = 16 := subL_length l (16 * j) 16 (by omega)
/-- So many texts of them, the others empty. -/
def txP (f : Nat → ByteArray) (n m : Nat) : List ByteArray := (List.range n).map fun i => if i < m then f i else ⟨#[]⟩
theorem txP_length (f : Nat → ByteArray) (n m : Nat) : (txP f n m).length = n := by simp [txP]
theorem txP_zero (f : Nat → ByteArray) (n : Nat) : txP f n 0 = List.replicate n ⟨#[]⟩ := by
  apply List.ext_getElem?
  intro i
  by_cases h : i < n
  · simp [txP, h]
  · simp [txP, h]
theorem txP_get (f : Nat → ByteArray) (n i : Nat) (h : i < n) : (txP f n n)[i]? = some (f i) := by simp [txP, h]
theorem txP_succ (f : Nat → ByteArray) (n m : Nat) (h : m < n) : (txP f n m).set m (f m) = txP f n (m + 1) := by
  apply List.ext_getElem?
  intro i
  rw [List.getElem?_set]
  by_cases e : m = i
  · subst e
    rw [if_pos rfl, if_pos (by rw [txP_length]; exact h)]
    simp [txP, h]
  · rw [if_neg e]
    by_cases hi : i < n
    · by_cases hm : i < m
      · simp [txP, hi, hm, show i < m + 1 by omega]
      · simp [txP, hi, hm, show ¬ i < m + 1 by omega]
    · simp [txP, hi]
theorem texts_txP {W : World} {G n : Nat} {f : Nat → ByteArray} {T : TypeId} {fr : Nat × Nat} (h : W.heap[G]? = some (.cells (scells (txP f n n)) T fr)) : TextsAt W (some ⟨G, 0, none⟩) n f := fun j hj => ⟨G, 0, rfl, by
  rw [cell_of_row _ _ _ _ _ _ h, Nat.zero_add]; exact scells_get _ _ _ (txP_get f n j hj)⟩
theorem ansP_get (key : ByteArray) (f : Nat → ByteArray) (n i : Nat) (h : i < n) : (ansP key f n n)[i]? = some (encS key (f i)) := by simp [ansP, h]

set_option maxHeartbeats 2000000 in
theorem encrypteds_any (key : ByteArray) (l : List UInt8) (g n cap : Nat) (T : TypeId) (fr : Nat × Nat) (w : World) (hk : key.size = 16) (hn : n ≤ 1000) (hl : l.length = 16 * n) (hg : w.heap[g]? = some (.cells (bcells l) T fr)) (hT : TabQ w) :
    Calls Tryd.prog 34 #[.string key, .slice (some ⟨g, 0, none⟩) n cap] w fun e w' => (∃ G, e = .returned (.slice (some ⟨G, 0, none⟩) n n) ∧ TextsAt w' (some ⟨G, 0, none⟩) n (fun j => encS key (blkS l j))) ∧ Below w.heap.size w w' := by
  obtain ⟨hz, hib⟩ := zero_of_info infoB
  obtain ⟨i0, hi0, hz0, hz1, hz2⟩ := info_parts info_string
  have hmk : ∀ W : World, (Instr.makeSlice 41 (.int .i64 (n : Int)) (.int .i64 (n : Int))).run Tryd.prog W = .ok (.slice (some ⟨W.heap.size, 0, none⟩) n n) (W.alloc (.cells (scells (txP (blkS l) n 0)) 9)) := fun W => by
    have h := run_makeSlice W 41 9 i0 (.string ⟨#[]⟩) Tryd.underlying41 hi0 hz0 .i64 .i64 (n : Int) (n : Int) (by omega) (by omega) (by rw [hz1]; omega) (by rw [hz2]; omega) (by omega)
    rw [hz1, made_texts, Int.toNat_natCast, Nat.mul_one] at h
    rw [txP_zero]
    exact h
  have HT := Lib.hid hT
  have HL := Lib.hid hl
  have HG0 := Lib.hid hg
  have hglt := blk_lt hg
  have HX0 := Lib.hid (blk_new w (.cells (scells (txP (blkS l) n 0)) 9))
  have hb0 := below_new w (.cells (scells (txP (blkS l) n 0)) 9)
  clear hi0 hz0 hz1 hz2 hib hT hg hl
  go_enter Tryd.func34, Tryd.ntmps34
  go_wp2_with fail
  clear hmk
  generalize (w.alloc _) = W0 at *
  have HKz := Lib.hid hk
  clear hk
  go_loopw [6, 7, 15] (fun _ _ iv wr => ∃ m : Nat, m ≤ n ∧ iv = .int .i64 (m : Int) ∧ wr.heap[w.heap.size]? = some (.cells (scells (txP (blkS l) n m)) 9) ∧ Below w.heap.size w wr) (fun _ _ iv _ => n - (intOf iv).toNat)
  case atStart => exact ⟨0, by omega, rfl, HX0.out, hb0⟩
  case round =>
    clear HX0 hb0
    obtain ⟨m, hm, rfl, hx, hb⟩ := hrel
    have HX := Lib.hid hx
    clear hx
    by_cases hlt : m < n
    · have hd : decide ((m : Int) < (n : Int)) = true := by simp; omega
      have HGr := Lib.hid (blk_below hb hglt HG0.out)
      have HLe := Lib.hid (show m * 16 + 16 ≤ l.length from by rw [HL.out]; omega)
      have HI16 := Lib.hid (show (Tryd.prog.info? 35).map (·.size) = some 16 from (zero_of_info infoB).2)
      have hsl : (subL l (m * 16) 16).length = 16 := subL_length _ _ _ HLe.out
      have HSL := Lib.hid hsl
      have HIs := Lib.hid (sizeG _ hsl)
      have HOs := Lib.hid (gzeros_size _ hsl)
      have H1s := Lib.hid (arr_one (subL l (m * 16) 16))
      have HBS : Hid (blkS l m = ⟨(subL l (m * 16) 16).toArray⟩) := Lib.hid (by rw [blkS, Nat.mul_comm])
      have HSet := Lib.hid (txP_succ (blkS l) n m hlt)
      have hml : m < (txP (blkS l) n m).length := by rw [txP_length]; exact hlt
      have HN := Lib.hid (blk_new wr (.cells gzeros 35))
      have HN2 := Lib.hid (setRow_heap _ wr.heap.size _ (bcells (subL l (m * 16) 16)) _ _ HN.out)
      have HX2 := Lib.hid (show ((wr.alloc (.cells gzeros 35)).setRow wr.heap.size (bcells (subL l (m * 16) 16))).heap[w.heap.size]? = some (.cells (scells (txP (blkS l) n m)) 9) from by
        rw [setRow_other _ _ _ _ (by have := blk_lt HX.out; omega)]; exact blk_old HX.out)
      have hb2 : Below w.heap.size w ((wr.alloc (.cells gzeros 35)).setRow wr.heap.size (bcells (subL l (m * 16) 16))) := below_setRow (hb.alloc hb.size _) hb.size _
      have hcv := run_string_row ((wr.alloc (.cells gzeros 35)).setRow wr.heap.size (bcells (subL l (m * 16) 16))) wr.heap.size 16 (subL l (m * 16) 16) (cells_of_bcells HN2.out)
      rw [HSL.out, ← HBS.out] at hcv
      have sl := arr_sliced_all 35 16 wr.heap.size (by kernel_rfl) (by kernel_rfl) (by kernel_rfl) (by omega)
      have hco : ((wr.alloc (.cells gzeros 35)).setRow wr.heap.size (bcells (subL l (m * 16) 16))).cell? ⟨w.heap.size, m, none⟩ = some (.string (txP (blkS l) n m)[m]) := by rw [cell_of_row _ _ _ _ _ _ HX2.out]; exact scells_get _ _ _ (List.getElem?_eq_getElem hml)
      have hfo := frozen_of_row _ w.heap.size m _ _ HX2.out
      generalize (txP (blkS l) n m)[m] = old at hco
      have HX3 := Lib.hid (show (((wr.alloc (.cells gzeros 35)).setRow wr.heap.size (bcells (subL l (m * 16) 16))).setCell ⟨w.heap.size, m, none⟩ (.string (blkS l m))).heap[w.heap.size]? = some (.cells (scells (txP (blkS l) n (m + 1))) 9) from by
        rw [← HSet.out, ← scells_set]; exact Go.heap_setCell_same _ _ _ _ _ _ HX2.out)
      have hb3 : Below w.heap.size w (((wr.alloc (.cells gzeros 35)).setRow wr.heap.size (bcells (subL l (m * 16) 16))).setCell ⟨w.heap.size, m, none⟩ (.string (blkS l m))) := hb2.setCell (by simp) _
      generalize blkS l m = bs at *
      generalize hsub : subL l (m * 16) 16 = sub at *
      clear hsl hml
      go_wp2_with (first
        | (with_reducible refine wpList_load_sub rfl 35 _ rfl g (m * 16) rfl _ l 16 _ _ HGr.out Tryd.underlying35 rfl HI16.out HLe.out ?_)
        | (with_reducible refine wpList_store_row rfl 35 _ _ rfl wr.heap.size (bcells sub) rfl rfl 35 _ HN.out HIs.out HOs.out H1s.out ?_))
      go_roundw
      case rel => exact ⟨m + 1, by omega, by go_num, HX3.out, hb3⟩
      case measure => simp [intOf]; omega
    · have hd : decide ((m : Int) < (n : Int)) = false := by simp; omega
      obtain rfl : m = n := by omega
      have HTe := Lib.hid (texts_txP HX.out)
      have HBl := Lib.hid (blocks_any key (some ⟨w.heap.size, 0, none⟩) m m (blkS l) wr HKz.out hn HTe.out (fun i hi => blkS_size l m i HL.out hi) (HT.out.step hb))
      go_wp2_with fail
      refine HBl.out.mono ?_
      rintro e W3 ⟨⟨G, rfl, hG, hcs⟩, hb3⟩
      have HCs := Lib.hid hcs
      have hb4 := hb.trans (hb3.mono hb.size)
      clear hcs hb3 HBl
      go_wp2_with fail
      go_ret
      exact ⟨⟨G, rfl, fun j hj => ⟨G, 0, rfl, by rw [cell_of_row _ _ _ _ _ _ HCs.out, Nat.zero_add]; exact scells_get _ _ _ (ansP_get key (blkS l) _ j hj)⟩⟩, hb4⟩
end Go.Proofs.YtoejkiblampecaaDoor
