/- The program's Blocks, Block and Keys. -/
import Derived.Test.YtoejkiblampecaaDoorAesEnc
import Derived.Test.YtoejkiblampecaaDoorFresh
namespace Go.Proofs.YtoejkiblampecaaDoor
open Go.RowKit Go.Sort
set_option maxRecDepth 100000
set_option linter.unusedSimpArgs false
set_option linter.unusedVariables false

def encS (key b : ByteArray) : ByteArray := ⟨(enL key.data.toList b.data.toList).toArray⟩
theorem encS_size (key b : ByteArray) : (encS key b).size = 16 := by
  have := enL_length key.data.toList b.data.toList
  simpa [encS, ByteArray.size] using this
theorem info_string : (Tryd.prog.info? 9).map (fun i => (i.zero, i.size, i.bytes)) = some (some (.string ⟨#[]⟩), 1, 16) := by kernel_rfl
/-- The cells of texts. -/
def scells (l : List ByteArray) : Array Value := (l.map Value.string).toArray
theorem scells_size (l : List ByteArray) : (scells l).size = l.length := by simp [scells]
theorem scells_get (l : List ByteArray) (j : Nat) (x : ByteArray) (h : l[j]? = some x) : (scells l)[j]? = some (.string x) := by simp [scells, h]
theorem scells_set (l : List ByteArray) (j : Nat) (x : ByteArray) : (scells l).setIfInBounds j (.string x) = scells (l.set j x) := by simp [scells, List.map_set]
theorem made_texts (n : Nat) : madeCells (Value.string ⟨#[]⟩).cells n = scells (List.replicate n ⟨#[]⟩) := by
  apply Array.ext_getElem?
  intro i
  by_cases h : i < n
  · simp [madeCells, scells, Value.cells, h, Nat.mod_one]
  · simp [madeCells, scells, Value.cells, h]
/-- A slice's texts. -/
def TextsAt (W : World) (ao : Option Addr) (n : Nat) (f : Nat → ByteArray) : Prop := ∀ j, j < n → ∃ g off, ao = some ⟨g, off, none⟩ ∧ W.cell? ⟨g, off + j, none⟩ = some (.string (f j))
theorem TextsAt.step {W W' : World} {ao : Option Addr} {n : Nat} {f : Nat → ByteArray} (h : TextsAt W ao n f) (hb : Below W.heap.size W W') : TextsAt W' ao n f := fun j hj => by
  obtain ⟨g, off, ha, hc⟩ := h j hj
  exact ⟨g, off, ha, (hb.cell (block_lt_of_cell hc)).trans hc⟩

set_option maxHeartbeats 1000000 in
theorem blocksKey_any (key : ByteArray) (ao : Option Addr) (n cap : Nat) (w : World) (hk : key.size ≠ 16) :
    Calls Tryd.prog 27 #[.string key, .slice ao n cap] w fun e w' => e = .returned (.tuple #[.slice none 0 0, .int .i64 21]) ∧ Below w.heap.size w w' := by
  have hd1 : ((key.size : Int) != 16) = true := by simp; omega
  go_enter Tryd.func27, Tryd.ntmps27
  go_wp2_with fail
  go_ret2
  exact ⟨rfl, Below.refl _ _⟩

set_option maxHeartbeats 1000000 in
theorem blocksArg_any (key : ByteArray) (ao : Option Addr) (n cap : Nat) (f : Nat → ByteArray) (j0 : Nat) (w : World) (hk : key.size = 16) (hn : n ≤ 1000) (hc : TextsAt w ao n f) (hj : j0 < n) (hbad : (f j0).size ≠ 16) (hok : ∀ i, i < j0 → (f i).size = 16) :
    Calls Tryd.prog 27 #[.string key, .slice ao n cap] w fun e w' => e = .returned (.tuple #[.slice none 0 0, .int .i64 1]) ∧ Below w.heap.size w w' := by
  have hd1 : ((key.size : Int) != 16) = false := by simp [hk]
  have HC := Lib.hid hc
  have HB := Lib.hid hbad
  have HO := Lib.hid hok
  clear hc hbad hok hk
  go_enter Tryd.func27, Tryd.ntmps27
  go_wp2_with fail
  go_loopw [18] (fun i wr => ∃ k : Nat, k ≤ j0 ∧ i = .int .i64 (k : Int) ∧ w = wr) (fun i _ => n - (intOf i).toNat)
  case atStart => exact ⟨0, by omega, rfl, rfl⟩
  case round =>
    obtain ⟨k, hk, rfl, rfl⟩ := hrel
    have hd : decide ((k : Int) < (n : Int)) = true := by simp; omega
    have hkn : k < n := by omega
    obtain ⟨g, off, rfl, hcell⟩ := HC.out k hkn
    by_cases hlt : k < j0
    · have hd2 : (((f k).size : Int) != 16) = false := by simp [HO.out k hlt]
      go_wp2_with fail
      go_roundw
      case rel => exact ⟨k + 1, by omega, by go_num, by first | rfl | trivial⟩
      case measure => simp [intOf]; omega
    · obtain rfl : k = j0 := by omega
      have hd2 : (((f k).size : Int) != 16) = true := by have := HB.out; simp; omega
      go_wp2_with fail
      go_ret2
      exact ⟨rfl, Below.refl _ _⟩

/-- The answers while they are laid. -/
def ansP (key : ByteArray) (f : Nat → ByteArray) (n m : Nat) : List ByteArray := (List.range n).map fun j => if j < m then encS key (f j) else ⟨#[]⟩
theorem ansP_length (key : ByteArray) (f : Nat → ByteArray) (n m : Nat) : (ansP key f n m).length = n := by simp [ansP]
theorem ansP_zero (key : ByteArray) (f : Nat → ByteArray) (n : Nat) : ansP key f n 0 = List.replicate n ⟨#[]⟩ := by
  apply List.ext_getElem?
  intro i
  by_cases h : i < n
  · simp [ansP, h]
  · simp [ansP, h]
theorem ansP_succ (key : ByteArray) (f : Nat → ByteArray) (n m : Nat) (h : m < n) : (ansP key f n m).set m (encS key (f m)) = ansP key f n (m + 1) := by
  apply List.ext_getElem?
  intro i
  rw [List.getElem?_set]
  by_cases e : m = i
  · subst e
    rw [if_pos rfl, if_pos (by rw [ansP_length]; exact h)]
    simp [ansP, h]
  · rw [if_neg e]
    by_cases hi : i < n
    · by_cases hm : i < m
      · simp [ansP, hi, hm, show i < m + 1 by omega]
      · simp [ansP, hi, hm, show ¬ i < m + 1 by omega]
    · simp [ansP, hi]

set_option maxHeartbeats 2000000 in
theorem blocks_any (key : ByteArray) (ao : Option Addr) (n cap : Nat) (f : Nat → ByteArray) (w : World) (hk : key.size = 16) (hn : n ≤ 1000) (hc : TextsAt w ao n f) (hok : ∀ i, i < n → (f i).size = 16) (hT : TabQ w) :
    Calls Tryd.prog 27 #[.string key, .slice ao n cap] w fun e w' => (∃ g, e = .returned (.tuple #[.slice (some ⟨g, 0, none⟩) n n, .int .i64 0]) ∧ w.heap.size ≤ g ∧ w'.heap[g]? = some (.cells (scells (ansP key f n n)) 9)) ∧ Below w.heap.size w w' := by
  have hd1 : ((key.size : Int) != 16) = false := by simp [hk]
  have HC := Lib.hid hc
  have HO := Lib.hid hok
  have HK := Lib.hid hk
  have HT := Lib.hid hT
  have HT0 := Lib.hid hT
  have HC0 := Lib.hid hc
  have HR := Lib.hid (roundKeys_any key w hk hT)
  clear hc hok hk hT
  go_enter Tryd.func27, Tryd.ntmps27
  go_wp2_with fail
  go_loopw [18] (fun i wr => ∃ k : Nat, k ≤ n ∧ i = .int .i64 (k : Int) ∧ w = wr) (fun i _ => n - (intOf i).toNat)
  case atStart => exact ⟨0, by omega, rfl, rfl⟩
  case round =>
    obtain ⟨k, hk, rfl, rfl⟩ := hrel
    by_cases hlt : k < n
    · have hd : decide ((k : Int) < (n : Int)) = true := by simp; omega
      obtain ⟨g, off, rfl, hcell⟩ := HC.out k hlt
      have hd2 : (((f k).size : Int) != 16) = false := by simp [HO.out k hlt]
      go_wp2_with fail
      go_roundw
      case rel => exact ⟨k + 1, by omega, by go_num, by first | rfl | trivial⟩
      case measure => simp [intOf]; omega
    · have hd : decide ((k : Int) < (n : Int)) = false := by simp; omega
      obtain rfl : k = n := by omega
      obtain ⟨hzs, his⟩ := zero_of_info infoSch
      go_wp2_with fail
      refine HR.out.mono ?_
      rintro e W1 ⟨rfl, hb1⟩
      have hkl := ksL_length key.data.toList 11
      have HIs := Lib.hid (sizeSch _ hkl)
      have HOs := Lib.hid (kzeros_size _ hkl)
      have H1s := Lib.hid (arr_one (ksL key.data.toList 11))
      have HS0 := Lib.hid (blk_new W1 (.cells kzeros 70))
      have HS1 := Lib.hid (setRow_heap (W1.alloc (.cells kzeros 70)) W1.heap.size _ (bcells (ksL key.data.toList 11)) _ _ HS0.out)
      have hb2 : Below W1.heap.size W1 ((W1.alloc (.cells kzeros 70)).setRow W1.heap.size (bcells (ksL key.data.toList 11))) := below_setRow (below_new _ _) (Nat.le_refl _) _
      have HGE := Lib.hid (show ((W1.alloc (.cells kzeros 70)).setRow W1.heap.size (bcells (ksL key.data.toList 11))).heap.size = W1.heap.size + 1 from by simp)
      have HT1 := Lib.hid ((HT.out.step hb1).step hb2)
      have HC1 := Lib.hid ((HC.out.step hb1).step hb2)
      have hb3 := hb1.trans (hb2.mono hb1.size)
      have hlS := blk_lt HS1.out
      have hBS := hb1.size
      obtain ⟨i0, hi0, hz0, hz1, hz2⟩ := info_parts info_string
      have hmk : ∀ W : World, (Instr.makeSlice 41 (.int .i64 (k : Int)) (.int .i64 (k : Int))).run Tryd.prog W = .ok (.slice (some ⟨W.heap.size, 0, none⟩) k k) (W.alloc (.cells (scells (ansP key f k 0)) 9)) := fun W => by
        have h := run_makeSlice W 41 9 i0 (.string ⟨#[]⟩) Tryd.underlying41 hi0 hz0 .i64 .i64 (k : Int) (k : Int) (by omega) (by omega) (by rw [hz1]; omega) (by rw [hz2]; omega) (by omega)
        rw [hz1, made_texts, Int.toNat_natCast, Nat.mul_one] at h
        rw [ansP_zero]
        exact h
      clear hkl hi0 hz0 hz1 hz2 his
      have HLK := Lib.hid (show key.data.toList.length = 16 from by rw [← Lib.size_eq]; exact HK.out)
      go_wp2_with (first
        | (with_reducible refine wpList_store_row rfl 70 _ _ rfl W1.heap.size (bcells (ksL key.data.toList 11)) rfl rfl 70 _ HS0.out HIs.out HOs.out H1s.out ?_))
      generalize W1.heap.size = S at *
      generalize World.setRow (World.alloc W1 _) _ _ = W2 at *
      clear hmk hb1 hb2 HS0 HOs H1s HR HT HC hzs
      have HG2 := Lib.hid (blk_new W2 (.cells (scells (ansP key f k 0)) 9))
      have HS2 := Lib.hid (blk_old (o := .cells (scells (ansP key f k 0)) 9) HS1.out)
      have hb4 := below_new W2 (.cells (scells (ansP key f k 0)) 9)
      have HT2 := Lib.hid (HT1.out.step hb4)
      have HC2 := Lib.hid (HC1.out.step hb4)
      have hb5 := hb3.trans (hb4.mono hb3.size)
      rw [HGE.out] at HG2
      clear HS1 HT1 HC1 hb3 hb4 hlS HGE
      generalize (W2.alloc _) = W3 at *
      go_loopw [33] (fun i wr => ∃ m : Nat, m ≤ k ∧ i = .int .i64 (m : Int) ∧ wr.heap[S]? = some (.cells (bcells (ksL key.data.toList 11)) 70) ∧ wr.heap[S + 1]? = some (.cells (scells (ansP key f k m)) 9) ∧ TabQ wr ∧ TextsAt wr ao k f ∧ Below w.heap.size w wr) (fun i _ => k - (intOf i).toNat)
      case atStart => exact ⟨0, by omega, rfl, HS2.out, HG2.out, HT2.out, HC2.out, hb5⟩
      case round =>
        clear HS2 HG2 HT2 HC2 hb5
        obtain ⟨m, hm, rfl, hs, hg, hT, hC, hb⟩ := hrel
        have HSr := Lib.hid hs; have HGr := Lib.hid hg; have HTr := Lib.hid hT; have HCr := Lib.hid hC
        clear hs hg hT hC
        by_cases hlt : m < k
        · have hd3 : decide ((m : Int) < (k : Int)) = true := by simp; omega
          obtain ⟨g, off, rfl, hcell⟩ := HCr.out m hlt
          have hbl : (f m).data.toList.length = 16 := by rw [← Lib.size_eq]; exact HO.out m hlt
          have HF1 := Lib.hid (fun W => stateOf_any (f m) W (HO.out m hlt))
          have HF2 := Lib.hid (fun W hT => encrypted_any key.data.toList (f m).data.toList W HLK.out hbl hT)
          have hel := enL_length key.data.toList (f m).data.toList
          have HIe := Lib.hid (sizeAes _ hel)
          have HOe := Lib.hid (szeros_size _ hel)
          have H1e := Lib.hid (arr_one (enL key.data.toList (f m).data.toList))
          have HEL := Lib.hid hel
          have HES : Hid (encS key (f m) = ⟨(enL key.data.toList (f m).data.toList).toArray⟩) := Lib.hid rfl
          have HN := Lib.hid (ansP_succ key f k m hlt)
          clear hel hbl
          obtain ⟨hzA, hiA⟩ := zero_of_info infoAes
          go_wp2_with fail
          generalize f m = t at *
          generalize enL key.data.toList t.data.toList = el at *
          refine wp_region_fresh 5 49 [.val (.string t) [(11, .string t)], .val (.agg (bcells t.data.toList)) [(38, .string t)], .val (.agg (bcells (ksL key.data.toList 11))) [(8, .pointer (some ⟨S, 0, none⟩))],
            .val (.agg (bcells el)) [(39, .agg (bcells t.data.toList)), (40, .agg (bcells (ksL key.data.toList 11)))], .fresh (.cells szeros 68)]
            (by kernel_rfl) (by kernel_rfl) rfl ?_ ?_ ?_
          · simp only [List.take_succ_cons, List.take_zero, headObl, specObl, HeadSpec.val, HeadSpec.fresh, and_true]
            refine ⟨?_, ?_, ?_, ?_, ?_⟩
            · intro a w hb h
              have e := h (11, .string t) (by simp)
              simp only [Array.getD_eq_getD_getElem?] at e
              simp [go_sem, e, sQuiet]
            · intro a w hb h
              have e := h (38, .string t) (by simp)
              simp only [Array.getD_eq_getD_getElem?] at e
              simp [go_sem, e, sQuiet]
              exact HF1.out w
            · intro a w hb h
              have e0 := h (8, .pointer (some ⟨S, 0, none⟩)) (by simp)
              exact sQuiet_load_row 70 (.tmp 8) rfl S e0 70 _ (0, 0) _ (blk_below hb (blk_lt HSr.out) HSr.out) Tryd.underlying70 rfl HIs.out
            · intro a w hb h
              have e0 := h (39, .agg (bcells t.data.toList)) (by simp)
              have e1 := h (40, .agg (bcells (ksL key.data.toList 11))) (by simp)
              simp only [Array.getD_eq_getD_getElem?] at e0 e1
              simp [go_sem, e0, e1, sQuiet]
              exact HF2.out w (HTr.out.step hb)
            · intro a w hb
              simp [go_sem, hzA]
          · simp [headReads, headPut, specV, HeadSpec.val, HeadSpec.fresh, Act.put]
          · simp only [List.take_succ_cons, List.take_zero, List.drop_succ_cons, List.drop_zero, headEnd, HeadSpec.val, HeadSpec.fresh, Act.put, List.setIfInBounds_toArray, List.set_cons_succ, List.set_cons_zero]
            intro g4 hg4 _ w1 hb1 hgs
            have HG4 := Lib.hid (show w1.heap[g4]? = some (.cells szeros 68) from hgs (g4, .cells szeros 68) (by simp))
            clear hgs
            have HR4 := Lib.hid (setRow_heap w1 g4 _ (bcells el) _ _ HG4.out)
            have hlw := blk_lt HGr.out
            have hbr : Below wr.heap.size wr (w1.setRow g4 (bcells el)) := below_setRow hb1 hg4 _
            have HGn := Lib.hid (blk_below hbr hlw HGr.out)
            have HSn := Lib.hid (blk_below hbr (blk_lt HSr.out) HSr.out)
            have HTn := Lib.hid (HTr.out.step hbr)
            have HCn := Lib.hid (HCr.out.step hbr)
            have hbn := hb.trans (hbr.mono hb.size)
            have sl := arr_sliced_all 68 16 g4 (by kernel_rfl) (by kernel_rfl) (by kernel_rfl) (by omega)
            have hcv := run_string_row (w1.setRow g4 (bcells el)) g4 16 el (cells_of_bcells HR4.out)
            rw [HEL.out] at hcv
            have hml : m < (ansP key f k m).length := by rw [ansP_length]; exact hlt
            have hco : (w1.setRow g4 (bcells el)).cell? ⟨S + 1, m, none⟩ = some (.string (ansP key f k m)[m]) := by rw [cell_of_row _ _ _ _ _ _ HGn.out]; exact scells_get _ _ _ (List.getElem?_eq_getElem hml)
            have hfo := frozen_of_row _ (S + 1) m _ _ HGn.out
            generalize (ansP key f k m)[m] = old at hco
            have HGs := Lib.hid (show ((w1.setRow g4 (bcells el)).setCell ⟨S + 1, m, none⟩ (.string ⟨el.toArray⟩)).heap[S + 1]? = some (.cells (scells (ansP key f k (m + 1))) 9) from by
              rw [← HN.out, HES.out, ← scells_set]; exact Go.heap_setCell_same _ _ _ _ _ _ HGn.out)
            have HSs := Lib.hid (show ((w1.setRow g4 (bcells el)).setCell ⟨S + 1, m, none⟩ (.string ⟨el.toArray⟩)).heap[S]? = some (.cells (bcells (ksL key.data.toList 11)) 70) from by rw [heap_setCell_other _ _ _ _ (by simp <;> omega)]; exact HSn.out)
            have hbs : Below w.heap.size w ((w1.setRow g4 (bcells el)).setCell ⟨S + 1, m, none⟩ (.string ⟨el.toArray⟩)) := hbn.setCell (by simp <;> omega) _
            have HTs := Lib.hid (show TabQ ((w1.setRow g4 (bcells el)).setCell ⟨S + 1, m, none⟩ (.string ⟨el.toArray⟩)) from HT0.out.step hbs)
            have HCs := Lib.hid (show TextsAt ((w1.setRow g4 (bcells el)).setCell ⟨S + 1, m, none⟩ (.string ⟨el.toArray⟩)) (some ⟨g, off, none⟩) k f from HC0.out.step hbs)
            clear HSr HGr HTr HCr hb hb1 hbr hlw HF1 HF2 HGn HSn HTn HCn hbn HR4
            go_wp2_with (with_reducible refine wpList_store_row rfl 68 _ _ rfl g4 (bcells el) rfl rfl 68 _ HG4.out HIe.out HOe.out H1e.out ?_)
            go_roundw
            case rel => exact ⟨m + 1, by omega, by go_num, HSs.out, HGs.out, HTs.out, HCs.out, hbs⟩
            case measure => simp [intOf]; omega
        · have hd3 : decide ((m : Int) < (k : Int)) = false := by simp; omega
          obtain rfl : m = k := by omega
          go_wp2_with fail
          go_ret2
          exact ⟨⟨S + 1, rfl, by omega, HGr.out⟩, hb⟩

theorem texts_one (w : World) (b : ByteArray) : TextsAt (w.alloc (.cells #[.string b] 9)) (some ⟨w.heap.size, 0, none⟩) 1 (fun _ => b) := fun j hj => ⟨w.heap.size, 0, rfl, by
  obtain rfl : j = 0 := by omega
  rw [cell_of_row _ _ _ _ _ _ (blk_new w _)]; rfl⟩
set_option maxHeartbeats 1000000 in
theorem blockKey_any (key b : ByteArray) (w : World) (hk : key.size ≠ 16) :
    Calls Tryd.prog 17 #[.string key, .string b] w fun e w' => e = .returned (.tuple #[.string ⟨#[]⟩, .int .i64 21]) ∧ Below w.heap.size w w' := by
  have HB := Lib.hid (fun ao n cap W => blocksKey_any key ao n cap W hk)
  clear hk
  go_enter Tryd.func17, Tryd.ntmps17
  go_wp2_with fail
  refine (HB.out _ _ _ _).mono ?_
  rintro e W1 ⟨rfl, hb1⟩
  have hb2 := (below_new w (.cells #[.string b] 9)).trans (hb1.mono (by simp))
  go_wp2_with fail
  go_ret2
  exact ⟨rfl, hb2⟩
set_option maxHeartbeats 1000000 in
theorem blockArg_any (key b : ByteArray) (w : World) (hk : key.size = 16) (hs : b.size ≠ 16) :
    Calls Tryd.prog 17 #[.string key, .string b] w fun e w' => e = .returned (.tuple #[.string ⟨#[]⟩, .int .i64 1]) ∧ Below w.heap.size w w' := by
  have HC := Lib.hid (show TextsAt (w.alloc (.cells #[.string b] 9)) (some ⟨w.heap.size, 0, none⟩) 1 (fun _ => b) from texts_one w b)
  have HB := Lib.hid (blocksArg_any key (some ⟨w.heap.size, 0, none⟩) 1 1 (fun _ => b) 0 _ hk (by omega) HC.out (by omega) hs (by omega))
  clear hk hs
  go_enter Tryd.func17, Tryd.ntmps17
  go_wp2_with fail
  refine HB.out.mono ?_
  rintro e W1 ⟨rfl, hb1⟩
  have hb2 := (below_new w (.cells #[.string b] 9)).trans (hb1.mono (by simp))
  go_wp2_with fail
  go_ret2
  exact ⟨rfl, hb2⟩
set_option maxHeartbeats 1000000 in
theorem block_enc (key b : ByteArray) (w : World) (hk : key.size = 16) (hs : b.size = 16) (hT : TabQ w) :
    Calls Tryd.prog 17 #[.string key, .string b] w fun e w' => e = .returned (.tuple #[.string (encS key b), .int .i64 0]) ∧ Below w.heap.size w w' := by
  have HC := Lib.hid (show TextsAt (w.alloc (.cells #[.string b] 9)) (some ⟨w.heap.size, 0, none⟩) 1 (fun _ => b) from texts_one w b)
  have HB := Lib.hid (blocks_any key (some ⟨w.heap.size, 0, none⟩) 1 1 (fun _ => b) _ hk (by omega) HC.out (fun _ _ => hs) (hT.step (below_new w _)))
  clear hk hs hT
  go_enter Tryd.func17, Tryd.ntmps17
  go_wp2_with fail
  refine HB.out.mono ?_
  rintro e W1 ⟨⟨g, rfl, hg, hcs⟩, hb1⟩
  have hb2 := (below_new w (.cells #[.string b] 9)).trans (hb1.mono (by simp))
  have hcell : W1.cell? ⟨g, 0, none⟩ = some (.string (encS key b)) := by rw [cell_of_row _ _ _ _ _ _ hcs]; rfl
  clear HB HC hcs hb1
  go_wp2_with fail
  go_ret2
  exact ⟨rfl, hb2⟩

theorem texts_of_own {W : World} {base n cap : Nat} {ao : Option Addr} {f : Nat → ByteArray} (h : Own W base (.slice ao n cap) ((List.range n).map fun i => Value.string (f i))) : TextsAt W ao n f := fun j hj => by
  obtain ⟨g, c, hv, ho, _⟩ := h.some (by simp; omega)
  injection hv with h1 _ _
  refine ⟨g, 0, h1, ?_⟩
  rw [Nat.zero_add]
  exact ho.cells j _ (by simp [hj])
end Go.Proofs.YtoejkiblampecaaDoor
