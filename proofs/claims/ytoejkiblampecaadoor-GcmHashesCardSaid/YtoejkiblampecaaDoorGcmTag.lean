/- The program's tag. -/
import Derived.Test.YtoejkiblampecaaDoorGcmTwo
import Derived.Test.YtoejkiblampecaaDoorMade
namespace Go.Proofs.YtoejkiblampecaaDoor
open Go.RowKit Go.Sort
set_option maxRecDepth 100000
set_option linter.unusedSimpArgs false
set_option linter.unusedVariables false

/-- The three texts that the tag is a digest of. -/
def tagF (beside hidden ls : ByteArray) (j : Nat) : ByteArray := if j = 0 then beside else if j = 1 then hidden else ls
theorem texts_three (W : World) (g : Nat) (a b c : ByteArray) (h : W.heap[g]? = some (.cells #[.string a, .string b, .string c] 9)) : TextsAt W (some ⟨g, 0, none⟩) 3 (tagF a b c) := fun j hj => ⟨g, 0, rfl, by
  rw [cell_of_row _ _ _ _ _ _ h]
  rcases (show j = 0 ∨ j = 1 ∨ j = 2 by omega) with rfl | rfl | rfl <;> rfl⟩
theorem two_first (ct : List UInt8) : (blkS (zeroB ++ ct) 0).data.toList = zeroB := by
  show subL (zeroB ++ ct) (16 * 0) 16 = _
  rw [subL, Nat.mul_zero, List.drop_zero, List.take_append_of_le_length (by rw [zeroB, List.length_replicate]; omega), List.take_of_length_le (by rw [zeroB, List.length_replicate]; omega)]
theorem two_second (ct : List UInt8) (h : ct.length = 16) : (blkS (zeroB ++ ct) 1).data.toList = ct := by
  show subL (zeroB ++ ct) (16 * 1) 16 = _
  rw [subL, List.drop_append_of_le_length (by rw [zeroB, List.length_replicate]; omega), List.drop_of_length_le (by rw [zeroB, List.length_replicate]; omega), List.nil_append, List.take_of_length_le (by omega)]

set_option maxHeartbeats 4000000 in
theorem tag_any (key nonce beside hidden : ByteArray) (w : World) (hk : key.size = 16) (hn : nonce.size = 12) (h1 : beside.size ≤ 1048576) (h2 : hidden.size ≤ 1048576) (hT : TabQ w) :
    Calls Tryd.prog 22 #[.string key, .string nonce, .string beside, .string hidden] w fun e w' => e = .returned (.string ⟨(tagG key.data.toList nonce.data.toList beside.data.toList hidden.data.toList).toArray⟩) ∧ Below w.heap.size w w' := by
  obtain ⟨hz, hi⟩ := zero_of_info infoB
  have hnl : nonce.data.toList.length = 12 := by rw [← Lib.size_eq]; exact hn
  have HC := Lib.hid (fun W => counterBlock_any nonce 1 W (by omega) hn)
  have hcl := ctG_length nonce.data.toList 1 hnl
  have HCl := Lib.hid hcl
  have HTG : Hid (tagG key.data.toList nonce.data.toList beside.data.toList hidden.data.toList = plS (hashG (enL key.data.toList zeroB) (tagD beside.data.toList hidden.data.toList)) (enL key.data.toList (ctG nonce.data.toList 1))) := Lib.hid rfl
  have HHs := Lib.hid (show dgA (enL key.data.toList zeroB) (tagF beside hidden ⟨(twoB (8 * beside.size) (8 * hidden.size)).toArray⟩) 3 = hashG (enL key.data.toList zeroB) (tagD beside.data.toList hidden.data.toList) from by
    rw [dgA_three, tagD_three, ← Lib.size_eq, ← Lib.size_eq]; rfl)
  have HE := Lib.hid (fun (W : World) (hq : TabQ W) => encrypteds_any key (zeroB ++ ctG nonce.data.toList 1) W.heap.size 2 2 35 (0, 0) (W.alloc (.cells (bcells (zeroB ++ ctG nonce.data.toList 1)) 35)) hk (by omega) (by rw [List.length_append, hcl, zeroB, List.length_replicate]) (blk_new W _) (hq.step (below_new W _)))
  have HK1 := Lib.hid (show (encS key (blkS (zeroB ++ ctG nonce.data.toList 1) 0)).data.toList = enL key.data.toList zeroB from by
    show enL key.data.toList (blkS (zeroB ++ ctG nonce.data.toList 1) 0).data.toList = _
    rw [two_first])
  have HK2 := Lib.hid (show (encS key (blkS (zeroB ++ ctG nonce.data.toList 1) 1)).data.toList = enL key.data.toList (ctG nonce.data.toList 1) from by
    show enL key.data.toList (blkS (zeroB ++ ctG nonce.data.toList 1) 1).data.toList = _
    rw [two_second _ hcl])
  have hTk := enL_length key.data.toList zeroB
  have hTe := enL_length key.data.toList (ctG nonce.data.toList 1)
  have HT := Lib.hid hT
  clear hi hT hk hn hnl hcl
  generalize ctG nonce.data.toList 1 = ct at *
  generalize enL key.data.toList zeroB = hkey at *
  generalize enL key.data.toList ct = eb at *
  generalize hs0 : encS key (blkS (zeroB ++ ct) 0) = s0 at *
  have HS0 := Lib.hid hs0
  clear hs0
  go_enter Tryd.func22, Tryd.ntmps22
  go_wp2_with fail
  refine (HC.out w).mono ?_
  rintro e W1 ⟨rfl, hb1⟩
  go_wp2_with (with_reducible refine wpList_two rfl (.tmp 15) (.tmp 17) rfl ct HCl.out rfl rfl ?_)
  refine (HE.out W1 (HT.out.step hb1)).mono ?_
  rintro e W2 ⟨⟨G, rfl, hG⟩, hb2⟩
  have HG := Lib.hid hG
  have hb3 : Below w.heap.size w W2 := (hb1.alloc hb1.size _).trans (hb2.mono (by have := hb1.size; simp; omega))
  clear hG hb2 hb1 HE HC
  go_wp2_with fail
  refine (gbits_any beside W2 (by omega)).mono ?_
  rintro e W ⟨rfl, rfl⟩
  go_wp2_with fail
  refine (gbits_any hidden W2 (by omega)).mono ?_
  rintro e W ⟨rfl, rfl⟩
  go_wp2_with fail
  have HTw := Lib.hid (twoOf_any (8 * beside.size) (8 * hidden.size))
  have htl := twoB_length (8 * beside.size) (8 * hidden.size)
  generalize twoB (8 * beside.size) (8 * hidden.size) = tw at *
  refine (HTw.out W2).mono ?_
  rintro e W3 ⟨rfl, hb4⟩
  have HG3 := Lib.hid (HG.out.step hb4)
  have hb5 := hb3.trans (hb4.mono hb3.size)
  have HN := Lib.hid (blk_new W3 (.cells gzeros 35))
  have HN2 := Lib.hid (setRow_heap _ W3.heap.size _ (bcells tw) _ _ HN.out)
  have hsz3 := hb5.size
  have hb6 : Below w.heap.size w ((W3.alloc (.cells gzeros 35)).setRow W3.heap.size (bcells tw)) := below_setRow (hb5.alloc hsz3 _) hsz3 _
  have HG4 := Lib.hid (HG3.out.step (show Below W3.heap.size W3 ((W3.alloc (.cells gzeros 35)).setRow W3.heap.size (bcells tw)) from below_setRow (below_new W3 _) (Nat.le_refl _) _))
  have HIt := Lib.hid (sizeG tw htl)
  have HOt := Lib.hid (gzeros_size tw htl)
  have H1t := Lib.hid (arr_one tw)
  have HTL := Lib.hid htl
  clear HG HTw hb4 HG3 hb3 hb5 htl
  go_wp2_with (with_reducible refine wpList_store_row rfl 35 _ _ rfl W3.heap.size (bcells tw) rfl rfl 35 _ HN.out HIt.out HOt.out H1t.out ?_)
  simp only [Act.put]
  have HBo0 := Lib.hid (fun W => blockOf_any s0 W)
  have hH1 := HK1.out; have hH2 := HK2.out
  rw [hH1, fitB_self _ hTk] at HBo0
  have HBo1 := Lib.hid (fun W => blockOf_any (encS key (blkS (zeroB ++ ct) 1)) W)
  rw [hH2, fitB_self _ hTe] at HBo1
  obtain ⟨g0, o0, hgo0, c0⟩ := HG4.out 0 (by omega)
  cases hgo0
  obtain ⟨g1, o1, hgo1, c1⟩ := HG4.out 1 (by omega)
  cases hgo1
  rw [Nat.zero_add] at c0 c1
  have c0' := c0.trans (show some (Value.string (encS key (blkS (zeroB ++ ct) 0))) = some (Value.string s0) by rw [HS0.out])
  have c1' : ((W3.alloc (.cells gzeros 35)).setRow W3.heap.size (bcells tw)).cell? ⟨G, 1, none⟩ = some (.string (encS key (blkS (zeroB ++ ct) 1))) := c1
  have hl0 := HTL.out
  have hcv := cells_of_bcells HN2.out
  have sl := arr_sliced_all 35 16 W3.heap.size (by kernel_rfl) (by kernel_rfl) (by kernel_rfl) (by omega)
  have HHs' : Hid (dgA hkey (tagF beside hidden ⟨tw.toArray⟩) 3 = hashG hkey (tagD beside.data.toList hidden.data.toList)) := HHs
  have hhl := hashG_length hkey (tagD beside.data.toList hidden.data.toList)
  have HTG' : Hid (tagG key.data.toList nonce.data.toList beside.data.toList hidden.data.toList = plS (hashG hkey (tagD beside.data.toList hidden.data.toList)) eb) := HTG
  have HFs := Lib.hid (show ∀ i, i < 3 → (tagF beside hidden ⟨tw.toArray⟩ i).size ≤ 1099511627776 from fun i hi => by
    rcases (show i = 0 ∨ i = 1 ∨ i = 2 by omega) with rfl | rfl | rfl
    · show beside.size ≤ _; omega
    · show hidden.size ≤ _; omega
    · show tw.length ≤ _; omega)
  have HD := Lib.hid (fun (g : Nat) (W : World) (h : W.heap[g]? = some (.cells #[.string beside, .string hidden, .string ⟨tw.toArray⟩] 9)) => digest_any hkey (some ⟨g, 0, none⟩) 3 3 (tagF beside hidden ⟨tw.toArray⟩) W hTk (by omega) (texts_three W g beside hidden ⟨tw.toArray⟩ h) HFs.out)
  rw [HHs'.out] at HD
  generalize hashG hkey (tagD beside.data.toList hidden.data.toList) = hh at *
  generalize encS key (blkS (zeroB ++ ct) 1) = s1 at *
  have HN3 := Lib.hid HN2.out
  clear c0 c1 HTG HHs HHs' HFs
  generalize hW4 : (W3.alloc (.cells gzeros 35)).setRow W3.heap.size (bcells tw) = W4 at *
  clear hW4
  generalize W3.heap.size = T at *
  have HHL := Lib.hid hhl
  have HIh := Lib.hid (sizeG hh hhl)
  have HOh := Lib.hid (gzeros_size hh hhl)
  have H1h := Lib.hid (arr_one hh)
  have HIe := Lib.hid (sizeG eb hTe)
  have HOe := Lib.hid (gzeros_size eb hTe)
  have H1e := Lib.hid (arr_one eb)
  have HEL := Lib.hid hTe
  clear HN HN2 HIt HOt H1t hhl hTe hTk HK1 HK2 hH1 hH2 HCl HS0 HG4 hl0 h1 h2
  have hOb : (Obj.cells #[Value.string beside, Value.string hidden, Value.string ⟨tw.toArray⟩] 9) = (Obj.cells #[Value.string beside, Value.string hidden, Value.string ⟨tw.toArray⟩] 9) := rfl
  refine wp_region_made 16 53 [
    .val (.slice (some ⟨G, 0, none⟩) 2 2) [(9, .slice (some ⟨G, 0, none⟩) 2 2)],
    .val (.pointer (some ⟨G, 0, none⟩)) [(25, .slice (some ⟨G, 0, none⟩) 2 2)],
    .val (.string s0) [(26, .pointer (some ⟨G, 0, none⟩))],
    .val (.agg (bcells hkey)) [(27, .string s0)],
    .val (.string beside) [(2, .string beside)],
    .val (.string hidden) [(3, .string hidden)],
    .val (.slice (some ⟨T, 0, none⟩) 16 16) [(10, .pointer (some ⟨T, 0, none⟩))],
    .val (.string ⟨tw.toArray⟩) [(31, .slice (some ⟨T, 0, none⟩) 16 16)],
    .new (.cells #[.string beside, .string hidden, .string ⟨tw.toArray⟩] 9) (mkS 3 3) [(29, .string beside), (30, .string hidden), (32, .string ⟨tw.toArray⟩)],
    .from (.agg (bcells hh)) [(28, .agg (bcells hkey))] [(8, 33, .cells #[.string beside, .string hidden, .string ⟨tw.toArray⟩] 9, mkS 3 3)],
    .val (.slice (some ⟨G, 0, none⟩) 2 2) [(9, .slice (some ⟨G, 0, none⟩) 2 2)],
    .val (.pointer (some ⟨G, 1, none⟩)) [(35, .slice (some ⟨G, 0, none⟩) 2 2)],
    .val (.string s1) [(36, .pointer (some ⟨G, 1, none⟩))],
    .val (.agg (bcells eb)) [(37, .string s1)],
    .new (.cells gzeros 35) mkP [],
    .new (.cells gzeros 35) mkP []]
    (by kernel_rfl) (by kernel_rfl) (by kernel_rfl) rfl ?_ ?_ ?_ ?_
  · simp [madeMk, MadeSpec.val, MadeSpec.from, MadeSpec.new]
  · simp only [List.take_succ_cons, List.take_zero, madeObl, madeSpecObl, MadeSpec.val, MadeSpec.from, MadeSpec.new, and_true]
    refine ⟨?_, ?_, ?_, ?_, ?_, ?_, ?_, ?_, ?_, ?_, ?_, ?_, ?_, ?_, ?_, ?_⟩
    · intro a w hb h _
      have e := h (9, .slice (some ⟨G, 0, none⟩) 2 2) (by simp)
      simp only [Array.getD_eq_getD_getElem?] at e
      simp [go_sem, e, sQuiet]
    · intro a w hb h _
      have e := h (25, .slice (some ⟨G, 0, none⟩) 2 2) (by simp)
      simp only [Array.getD_eq_getD_getElem?] at e
      simp [go_sem, e, sQuiet]
    · intro a w hb h _
      have e := h (26, .pointer (some ⟨G, 0, none⟩)) (by simp)
      simp only [Array.getD_eq_getD_getElem?] at e
      have c := (hb.cell (p := ⟨G, 0, none⟩) (block_lt_of_cell c0')).trans c0'
      simp [go_sem, e, sQuiet, c]
    · intro a w hb h _
      have e := h (27, .string s0) (by simp)
      simp only [Array.getD_eq_getD_getElem?] at e
      simp [go_sem, e, sQuiet]
      exact HBo0.out w
    · intro a w hb h _
      have e := h (2, .string beside) (by simp)
      simp only [Array.getD_eq_getD_getElem?] at e
      simp [go_sem, e, sQuiet]
    · intro a w hb h _
      have e := h (3, .string hidden) (by simp)
      simp only [Array.getD_eq_getD_getElem?] at e
      simp [go_sem, e, sQuiet]
    · intro a w hb h _
      have e := h (10, .pointer (some ⟨T, 0, none⟩)) (by simp)
      simp only [Array.getD_eq_getD_getElem?] at e
      simp [go_sem, e, sQuiet, sl]
    · intro a w hb h _
      have e := h (31, .slice (some ⟨T, 0, none⟩) 16 16) (by simp)
      simp only [Array.getD_eq_getD_getElem?] at e
      have hcs := run_string_row w T 16 tw (cells_of_bcells (blk_below hb (blk_lt HN3.out) HN3.out))
      rw [HTL.out] at hcs
      simp [go_sem, e, sQuiet, hcs]
    · refine ⟨fun g => rfl, ?_⟩
      intro a w hb h
      have e0 := h (29, .string beside) (by simp)
      have e1 := h (30, .string hidden) (by simp)
      have e2 := h (32, .string ⟨tw.toArray⟩) (by simp)
      simp only [Array.getD_eq_getD_getElem?] at e0 e1 e2
      simp [go_sem, e0, e1, e2, mkS]
    · intro a w hb h hm
      have e0 := h (28, .agg (bcells hkey)) (by simp)
      obtain ⟨g, e1, hgo⟩ := hm _ (List.mem_singleton.2 rfl)
      simp only [Array.getD_eq_getD_getElem?] at e0 e1
      simp [go_sem, e0, e1, sQuiet, mkS]
      exact HD.out g w hgo
    · intro a w hb h _
      have e := h (9, .slice (some ⟨G, 0, none⟩) 2 2) (by simp)
      simp only [Array.getD_eq_getD_getElem?] at e
      simp [go_sem, e, sQuiet]
    · intro a w hb h _
      have e := h (35, .slice (some ⟨G, 0, none⟩) 2 2) (by simp)
      simp only [Array.getD_eq_getD_getElem?] at e
      simp [go_sem, e, sQuiet]
    · intro a w hb h _
      have e := h (36, .pointer (some ⟨G, 1, none⟩)) (by simp)
      simp only [Array.getD_eq_getD_getElem?] at e
      have c := (hb.cell (p := ⟨G, 1, none⟩) (block_lt_of_cell c1')).trans c1'
      simp [go_sem, e, sQuiet, c]
    · intro a w hb h _
      have e := h (37, .string s1) (by simp)
      simp only [Array.getD_eq_getD_getElem?] at e
      simp [go_sem, e, sQuiet]
      exact HBo1.out w
    · refine ⟨fun g => rfl, ?_⟩
      intro a w hb h
      simp [go_sem, hz, mkP]
    · refine ⟨fun g => rfl, ?_⟩
      intro a w hb h
      simp [go_sem, hz, mkP]
  · simp [madeReads, headPut, madeV, MadeSpec.val, MadeSpec.from, MadeSpec.new, Act.put]
  · simp only [List.take_succ_cons, List.take_zero, List.drop_succ_cons, List.drop_zero, madeEnd, MadeSpec.val, MadeSpec.from, MadeSpec.new, Act.put, List.setIfInBounds_toArray, List.set_cons_succ, List.set_cons_zero]
    intro g33 hg33 _ X hX _ Y hY hXY w1 hb1 hgs
    have hXY' : X ≠ Y := hXY (X, .cells gzeros 35) (by simp)
    have HX1 := Lib.hid (show w1.heap[X]? = some (.cells gzeros 35) from hgs (X, .cells gzeros 35) (by simp))
    have HY1 := Lib.hid (show w1.heap[Y]? = some (.cells gzeros 35) from hgs (Y, .cells gzeros 35) (by simp))
    have hsz4 := hb6.size
    have hXw : w.heap.size ≤ X := by omega
    have hYw : w.heap.size ≤ Y := by omega
    have hb7 := hb6.trans (hb1.mono hsz4)
    clear hXY hgs HD HBo0 HBo1 hb1 hb6 c0' c1' HN3 hsz3 hOb hcv sl
    have HX2 := Lib.hid (setRow_heap w1 X _ (bcells hh) _ _ HX1.out)
    have HY1' := Lib.hid (show (w1.setRow X (bcells hh)).heap[Y]? = some (.cells gzeros 35) from by rw [setRow_other _ _ _ _ (Ne.symm hXY')]; exact HY1.out)
    have HY3 := Lib.hid (setRow_heap (w1.setRow X (bcells hh)) Y _ (bcells eb) _ _ HY1'.out)
    have HX3 := Lib.hid (show ((w1.setRow X (bcells hh)).setRow Y (bcells eb)).heap[X]? = some (.cells (bcells hh) 35) from by rw [setRow_other _ _ _ _ hXY']; exact HX2.out)
    have hb8 : Below w.heap.size w ((w1.setRow X (bcells hh)).setRow Y (bcells eb)) := below_setRow (below_setRow hb7 hXw _) hYw _
    simp only [mkP, mkS]
    go_wp2_with (first
      | (with_reducible refine wpList_store_row rfl 35 _ _ rfl X (bcells hh) rfl rfl 35 _ HX1.out HIh.out HOh.out H1h.out ?_)
      | (with_reducible refine wpList_store_row rfl 35 _ _ rfl Y (bcells eb) rfl rfl 35 _ HY1'.out HIe.out HOe.out H1e.out ?_))
    clear HX1 HY1 HX2 HY1' hb7
    generalize World.setRow (World.setRow _ _ _) _ _ = w2 at *
    go_loopw [13, 39] (fun _ i wr => ∃ m : Nat, m ≤ 16 ∧ i = .int .i64 (m : Int) ∧ wr.heap[X]? = some (.cells (bcells (plP hh eb m)) 35) ∧ wr.heap[Y]? = some (.cells (bcells eb) 35) ∧ Below w.heap.size w wr) (fun _ i _ => 16 - (intOf i).toNat)
    case atStart => exact ⟨0, by omega, rfl, by rw [plP_zero hh eb HHL.out]; exact HX3.out, HY3.out, hb8⟩
    case round =>
      clear HX3 HY3 hb8
      obtain ⟨m, hm, rfl, hx, hy, hb⟩ := hrel
      have HX := Lib.hid hx; have HY := Lib.hid hy
      clear hx hy
      by_cases hlt : m < 16
      · have hd : decide ((m : Int) < 16) = true := by simp; omega
        have HL := Lib.hid (plP_length hh eb m)
        have cx := bcell_at HX.out m (by rw [HL.out]; exact hlt)
        have ck := bcell_at HY.out m (by rw [HEL.out]; exact hlt)
        have HXx := Lib.hid (u8x ((plP hh eb m).getD m 0) (eb.getD m 0))
        have HSet := Lib.hid (fun (V : World) (hV : V.heap[X]? = some (.cells (bcells (plP hh eb m)) 35)) => bheap_set hV m ((plP hh eb m).getD m 0 ^^^ eb.getD m 0))
        rw [plP_succ hh eb m hlt] at HSet
        generalize (plP hh eb m).getD m 0 = x at *
        generalize eb.getD m 0 = y at *
        go_wp2_with fail
        have q1 := cell_regrown cx
        have q2 := cell_regrown ck
        refine wp_region_reads_tail 8 (by kernel_rfl) (by kernel_rfl) ?_
        simp only [List.take_succ_cons, List.take_zero, List.drop_succ_cons, List.drop_zero]
        repeat (first | go_big_quiet_step (fail) | quiet_step (fail))
        refine wpQuiet_nil ?_
        intro V hV
        have hlX : X < wr.heap.size := blk_lt HX.out
        have hlY : Y < wr.heap.size := blk_lt HY.out
        have HX2 := Lib.hid (blk_below hV hlX HX.out)
        have HY2 := Lib.hid (blk_below hV hlY HY.out)
        have hb2 : Below w.heap.size w V := hb.trans (hV.mono hb.size)
        have cy := bcell_at HX2.out m (by rw [HL.out]; exact hlt)
        have fy := frozen_of_row V X m _ _ HX2.out
        clear hV q1 q2 cx ck HX HY hb hlX hlY
        rw [HXx.out]
        go_wp2_with fail
        go_roundw
        case rel => exact ⟨m + 1, by omega, by go_num, HSet.out V HX2.out, by rw [heap_setCell_other _ _ _ _ (by simpa using (Ne.symm hXY'))]; exact HY2.out, hb2.setCell (by simpa using hXw) _⟩
        case measure => simp [intOf]; omega
      · have hd : decide ((m : Int) < 16) = false := by simp; omega
        obtain rfl : m = 16 := by omega
        have hx := HX.out
        rw [plP_full hh eb, ← HTG'.out] at hx
        have htl := tagG_length key.data.toList nonce.data.toList beside.data.toList hidden.data.toList
        have sl := arr_sliced_all 35 16 X (by kernel_rfl) (by kernel_rfl) (by kernel_rfl) (by omega)
        have hcv := run_string_row wr X 16 _ (cells_of_bcells hx)
        rw [htl] at hcv
        clear HX hx htl
        generalize hqq : tagG key.data.toList nonce.data.toList beside.data.toList hidden.data.toList = tg at *
        have HTQ := Lib.hid hqq
        clear hqq
        go_wp2_with fail
        go_ret
        exact ⟨by rw [HTQ.out]; rfl, hb⟩
end Go.Proofs.YtoejkiblampecaaDoor
