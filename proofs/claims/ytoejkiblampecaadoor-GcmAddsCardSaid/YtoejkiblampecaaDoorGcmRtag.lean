/- The reference's tag. -/
import Derived.Test.YtoejkiblampecaaDoorGcmRstr
import Derived.Test.YtoejkiblampecaaDoorGcmTag
namespace Go.Proofs.YtoejkiblampecaaDoor
open Go.RowKit Go.Sort
set_option maxRecDepth 100000
set_option linter.unusedSimpArgs false
set_option linter.unusedVariables false

theorem padG_size (s : ByteArray) : (⟨(padG s.data.toList).toArray⟩ : ByteArray).size = (s.size + 15) / 16 * 16 := by
  show (padG s.data.toList).length = _
  rw [padG_length, ← Lib.size_eq]

set_option maxHeartbeats 4000000 in
theorem rtag_any (key : List UInt8) (nonce beside sealed : ByteArray) (K kc S : Nat) (w : World) (hk : key.length = 16) (hn : nonce.size = 12) (h1 : beside.size ≤ 1100000) (h2 : sealed.size ≤ 1100000) (hK : KeysAt w K key) (hT : TabB w S) :
    Calls Tryd.prog 25 #[.agg (sheetC K kc S 256), .string nonce, .string beside, .string sealed] w fun e w' => e = .returned (.string ⟨(tagG key nonce.data.toList beside.data.toList sealed.data.toList).toArray⟩) ∧ Below w.heap.size w w' := by
  obtain ⟨i0, hi, hz0, hz1, hz2⟩ := info_parts info_u8
  have hmk : ∀ W : World, (Instr.makeSlice 31 (.int .i64 16) (.int .i64 16)).run Tryd.prog W = .ok (.slice (some ⟨W.heap.size, 0, none⟩) 16 16) (W.alloc (.cells (bcells zeroB) 5)) := fun W => by
    have h := run_makeSlice W 31 5 i0 (.int .u8 0) Tryd.underlying31 hi hz0 .i64 .i64 16 16 (by omega) (by omega) (by rw [hz1]; omega) (by rw [hz2]; omega) (by omega)
    rw [hz1, made_zero] at h
    exact h
  have hbX := below_new w (.cells (sheetC K kc S 256) 43)
  have HX0 := Lib.hid (blk_new w (.cells (sheetC K kc S 256) 43))
  have HK := Lib.hid hK; have HT := Lib.hid hT
  have hKl := hK.lt; have hTl := hT.lt
  have HIS := Lib.hid (sizeSheet K kc S 256)
  have hnl : nonce.data.toList.length = 12 := by rw [← Lib.size_eq]; exact hn
  have HU := Lib.hid (fun (b : List UInt8) (W : World) (hb : b.length = 16) (h1 : KeysAt W K key) (h2 : TabB W S) => under_any key ⟨b.toArray⟩ K kc S 256 W hk hb h1 h2)
  have HCt := Lib.hid (fun W => counter_any nonce 1 W (by omega) hn)
  have HCL := Lib.hid (ctG_length nonce.data.toList 1 hnl)
  have HTG : Hid (plS (hashG (enL key zeroB) (tagD beside.data.toList sealed.data.toList)) (enL key (ctG nonce.data.toList 1)) = tagG key nonce.data.toList beside.data.toList sealed.data.toList) := Lib.hid rfl
  have hHk := enL_length key zeroB
  have hEk := enL_length key (ctG nonce.data.toList 1)
  have hhl := hashG_length (enL key zeroB) (tagD beside.data.toList sealed.data.toList)
  have p1 := padG_size beside; have p2 := padG_size sealed
  have p3 : (⟨(longG beside.size).toArray⟩ : ByteArray).size = 8 := longG_length _
  have p4 : (⟨(longG sealed.size).toArray⟩ : ByteArray).size = 8 := longG_length _
  have HF1 := Lib.hid (fun W => filled_any beside W (by omega))
  have HF2 := Lib.hid (fun W => filled_any sealed W (by omega))
  have HL1 := Lib.hid (fun W => long_any beside.size W (by omega))
  have HL2 := Lib.hid (fun W => long_any sealed.size W (by omega))
  have HCat := Lib.hid (show ((((⟨(padG beside.data.toList).toArray⟩ : ByteArray) ++ (⟨(padG sealed.data.toList).toArray⟩ : ByteArray)) ++ (⟨(longG beside.size).toArray⟩ : ByteArray)) ++ (⟨(longG sealed.size).toArray⟩ : ByteArray)).data.toList = tagD beside.data.toList sealed.data.toList from by
    rw [append_bytes, append_bytes, append_bytes, tagD, ← Lib.size_eq, ← Lib.size_eq])
  have HHs := Lib.hid (fun W => rhash_any ⟨(enL key zeroB).toArray⟩ ((((⟨(padG beside.data.toList).toArray⟩ : ByteArray) ++ (⟨(padG sealed.data.toList).toArray⟩ : ByteArray)) ++ (⟨(longG beside.size).toArray⟩ : ByteArray)) ++ (⟨(longG sealed.size).toArray⟩ : ByteArray)) W hHk (by simp only [ByteArray.size_append, p1, p2, p3, p4]; omega) (by simp only [ByteArray.size_append, p1, p2, p3, p4]; omega))
  rw [HCat.out] at HHs
  have HHs2 : Hid (∀ W, Calls Tryd.prog 20 #[.string ⟨(enL key zeroB).toArray⟩, .string ((((⟨(padG beside.data.toList).toArray⟩ : ByteArray) ++ (⟨(padG sealed.data.toList).toArray⟩ : ByteArray)) ++ (⟨(longG beside.size).toArray⟩ : ByteArray)) ++ (⟨(longG sealed.size).toArray⟩ : ByteArray))] W fun e w' => e = .returned (.string ⟨(hashG (enL key zeroB) (tagD beside.data.toList sealed.data.toList)).toArray⟩) ∧ Below W.heap.size W w') := HHs
  have HU0 := Lib.hid (fun (W : World) (h1 : KeysAt W K key) (h2 : TabB W S) => HU.out zeroB W List.length_replicate h1 h2)
  have HU1 := Lib.hid (fun (W : World) (h1 : KeysAt W K key) (h2 : TabB W S) => HU.out (ctG nonce.data.toList 1) W HCL.out h1 h2)
  clear HCat HHs hK hT hnl hn hk HU
  generalize (⟨(padG beside.data.toList).toArray⟩ : ByteArray) = s1 at *
  generalize (⟨(padG sealed.data.toList).toArray⟩ : ByteArray) = s2 at *
  generalize (⟨(longG beside.size).toArray⟩ : ByteArray) = s3 at *
  generalize (⟨(longG sealed.size).toArray⟩ : ByteArray) = s4 at *
  have hz1' : (s1.size : Int) + (s2.size : Int) ≤ 9223372036854775807 := by omega
  have hz2' : ((s1 ++ s2).size : Int) + (s3.size : Int) ≤ 9223372036854775807 := by rw [ByteArray.size_append]; omega
  have hz3' : ((s1 ++ s2 ++ s3).size : Int) + (s4.size : Int) ≤ 9223372036854775807 := by rw [ByteArray.size_append, ByteArray.size_append]; omega
  generalize hct : ctG nonce.data.toList 1 = ct at *
  generalize hashG (enL key zeroB) (tagD beside.data.toList sealed.data.toList) = hh at *
  generalize henk : enL key zeroB = hkey at *
  generalize henc : enL key ct = eb at *
  have HEK := Lib.hid henk; have HEC := Lib.hid henc
  have HZZ := Lib.hid (show (⟨zeroB.toArray⟩ : ByteArray).data.toList = zeroB from rfl)
  have HCC := Lib.hid (show (⟨ct.toArray⟩ : ByteArray).data.toList = ct from rfl)
  try rw [HZZ.out, henk] at HU0
  try rw [HCC.out, henc] at HU1
  clear henk henc hct
  go_enter Tryd.func25, Tryd.ntmps25
  go_wp2_with fail
  generalize (w.alloc (.cells (sheetC K kc S 256) 43)) = W0 at *
  have hszX := hbX.size
  refine wp_region_made 4 53 [.val (.agg (sheetC K kc S 256)) [(4, .pointer (some ⟨w.heap.size, 0, none⟩))], .new (.cells (bcells zeroB) 5) (mkS 16 16) [],
    .from (.string ⟨zeroB.toArray⟩) [] [(1, 15, .cells (bcells zeroB) 5, mkS 16 16)], .val (.string ⟨hkey.toArray⟩) [(14, .agg (sheetC K kc S 256)), (16, .string ⟨zeroB.toArray⟩)]]
    (by kernel_rfl) (by kernel_rfl) (by kernel_rfl) rfl ?_ ?_ ?_ ?_
  · simp [madeMk, MadeSpec.val, MadeSpec.from, MadeSpec.new]
  · simp only [List.take_succ_cons, List.take_zero, madeObl, madeSpecObl, MadeSpec.val, MadeSpec.from, MadeSpec.new, and_true]
    refine ⟨?_, ?_, ?_, ?_⟩
    · intro a w1 hb h _
      have e0 := h (4, .pointer (some ⟨w.heap.size, 0, none⟩)) (by simp)
      exact sQuiet_load_row 43 (.tmp 4) rfl w.heap.size e0 43 _ (0, 0) _ (blk_below hb (blk_lt HX0.out) HX0.out) Tryd.underlying43 rfl HIS.out
    · refine ⟨fun g => rfl, ?_⟩
      intro a w1 hb h
      simp [go_sem, hmk, mkS]
    · intro a w1 hb h hm
      obtain ⟨g, e1, hgo⟩ := hm _ (List.mem_singleton.2 rfl)
      simp only [Array.getD_eq_getD_getElem?] at e1
      have hcs := run_string_row w1 g 16 zeroB (cells_of_bcells hgo)
      rw [show zeroB.length = 16 from List.length_replicate] at hcs
      simp [go_sem, e1, sQuiet, mkS, hcs]
    · intro a w1 hb h _
      have e0 := h (14, .agg (sheetC K kc S 256)) (by simp)
      have e1 := h (16, .string ⟨zeroB.toArray⟩) (by simp)
      simp only [Array.getD_eq_getD_getElem?] at e0 e1
      simp [go_sem, e0, e1, sQuiet]
      have hbw := hbX.trans (hb.mono hszX)
      exact HU0.out w1 (HK.out.below hbw hKl) (HT.out.below hbw hTl)
  · simp [madeReads, headPut, madeV, MadeSpec.val, MadeSpec.from, MadeSpec.new, Act.put]
  · simp only [List.take_succ_cons, List.take_zero, List.drop_succ_cons, List.drop_zero, madeEnd, MadeSpec.val, MadeSpec.from, MadeSpec.new, Act.put, List.setIfInBounds_toArray, List.set_cons_succ, List.set_cons_zero]
    intro g15 hg15 _ W1 hb1 hgs
    have HX1 := Lib.hid (blk_below hb1 (blk_lt HX0.out) HX0.out)
    have hb2 : Below w.heap.size w W1 := hbX.trans (hb1.mono hszX)
    clear hgs hb1 HX0 hbX hmk HU0 hg15
    simp only [mkS]
    go_wp2_with fail
    refine (HF1.out W1).mono ?_
    rintro e W ⟨rfl, rfl⟩
    go_wp2_with fail
    refine (HF2.out W1).mono ?_
    rintro e W ⟨rfl, rfl⟩
    go_wp2_with fail
    refine (HL1.out W1).mono ?_
    rintro e W2 ⟨rfl, hb3⟩
    have HX2 := Lib.hid (blk_below hb3 (blk_lt HX1.out) HX1.out)
    have hb4 := hb2.trans (hb3.mono hb2.size)
    clear hb3 HX1 hb2
    go_wp2_with fail
    refine (HL2.out W2).mono ?_
    rintro e W3 ⟨rfl, hb3⟩
    have HX3 := Lib.hid (blk_below hb3 (blk_lt HX2.out) HX2.out)
    have hb5 := hb4.trans (hb3.mono hb4.size)
    clear hb3 HX2 hb4
    go_wp2_with fail
    refine (HHs2.out W3).mono ?_
    rintro e W4 ⟨rfl, hb3⟩
    have HX4 := Lib.hid (blk_below hb3 (blk_lt HX3.out) HX3.out)
    have hb6 := hb5.trans (hb3.mono hb5.size)
    clear hb3 HX3 hb5 HHs2 HL1 HL2 HF1 HF2
    go_wp2_with fail
    have hsz6 := hb6.size
    refine wp_region_fresh 4 53 [.val (.agg (sheetC K kc S 256)) [(4, .pointer (some ⟨w.heap.size, 0, none⟩))], .val (.string nonce) [(1, .string nonce)], .val (.string ⟨ct.toArray⟩) [(34, .string nonce)],
      .val (.string ⟨eb.toArray⟩) [(33, .agg (sheetC K kc S 256)), (35, .string ⟨ct.toArray⟩)]]
      (by kernel_rfl) (by kernel_rfl) rfl ?_ ?_ ?_
    · simp only [List.take_succ_cons, List.take_zero, headObl, specObl, HeadSpec.val, HeadSpec.fresh, and_true]
      refine ⟨?_, ?_, ?_, ?_⟩
      · intro a w1 hb h
        have e0 := h (4, .pointer (some ⟨w.heap.size, 0, none⟩)) (by simp)
        exact sQuiet_load_row 43 (.tmp 4) rfl w.heap.size e0 43 _ (0, 0) _ (blk_below hb (blk_lt HX4.out) HX4.out) Tryd.underlying43 rfl HIS.out
      · intro a w1 hb h
        have e := h (1, .string nonce) (by simp)
        simp only [Array.getD_eq_getD_getElem?] at e
        simp [go_sem, e, sQuiet]
      · intro a w1 hb h
        have e := h (34, .string nonce) (by simp)
        simp only [Array.getD_eq_getD_getElem?] at e
        simp [go_sem, e, sQuiet]
        exact HCt.out w1
      · intro a w1 hb h
        have e0 := h (33, .agg (sheetC K kc S 256)) (by simp)
        have e1 := h (35, .string ⟨ct.toArray⟩) (by simp)
        simp only [Array.getD_eq_getD_getElem?] at e0 e1
        simp [go_sem, e0, e1, sQuiet]
        have hbw := hb6.trans (hb.mono hsz6)
        exact HU1.out w1 (HK.out.below hbw hKl) (HT.out.below hbw hTl)
    · simp [headReads, headPut, specV, HeadSpec.val, HeadSpec.fresh, Act.put]
    · simp only [List.take_succ_cons, List.take_zero, List.drop_succ_cons, List.drop_zero, headEnd, HeadSpec.val, HeadSpec.fresh, Act.put, List.setIfInBounds_toArray, List.set_cons_succ, List.set_cons_zero]
      intro W5 hb7 hgs
      have hb8 : Below w.heap.size w W5 := hb6.trans (hb7.mono hsz6)
      have hsz8 := hb8.size
      clear hgs hb7 hb6 HX4 HU1 HCt hsz6
      go_wp2_with fail
      obtain ⟨B, hB⟩ : ∃ B, B = w.heap.size := ⟨_, rfl⟩
      have HBB := Lib.hid hB
      rw [← hB] at hb8 hsz8
      clear hB hKl hTl hszX
      have HIa := Lib.hid (fun (j : Nat) (h : j < 16) (V : World) => index_text ⟨hh.toArray⟩ j (by show j < hh.length; rw [hhl]; exact h) V)
      have HIb := Lib.hid (fun (j : Nat) (h : j < 16) (V : World) => index_text ⟨eb.toArray⟩ j (by show j < eb.length; rw [hEk]; exact h) V)
      have q16 : (⟨hh.toArray⟩ : ByteArray).size = 16 := hhl
      have r16 : (⟨eb.toArray⟩ : ByteArray).size = 16 := hEk
      have HGen := Lib.hid (show genL (fun i => hh.getD i 0 ^^^ eb.getD i 0) 16 = tagG key nonce.data.toList beside.data.toList sealed.data.toList from by rw [← HTG.out]; rfl)
      generalize hha : (⟨hh.toArray⟩ : ByteArray) = ha at *
      generalize heb : (⟨eb.toArray⟩ : ByteArray) = ea at *
      have HHA := Lib.hid (show ha.data.toList = hh from by rw [← hha])
      have HEA := Lib.hid (show ea.data.toList = eb from by rw [← heb])
      rw [HHA.out] at HIa; rw [HEA.out] at HIb
      clear hha heb
      go_loopw [12, 13] (fun v i wr => ∃ (k : Nat) (ao : Option Addr) (cp : Nat), k ≤ 16 ∧ i = .int .i64 (k : Int) ∧ v = .slice ao k cp ∧ Own wr B (.slice ao k cp) (Lib.byteCells (genL (fun i => hh.getD i 0 ^^^ eb.getD i 0) k)) ∧ Below B w wr ∧ B ≤ wr.heap.size) (fun _ i _ => 16 - (intOf i).toNat)
      case atStart => exact ⟨0, none, 0, by omega, rfl, rfl, Own.nil _ _, hb8, hsz8⟩
      case round =>
        clear hb8 hsz8
        obtain ⟨k, ao, cp, hk, rfl, rfl, hown, hb, hsz⟩ := hrel
        have HO := Lib.hid hown
        have HL := Lib.hid (bcs_length _ _ (genL_length (fun i => hh.getD i 0 ^^^ eb.getD i 0) k))
        clear hown
        by_cases hlt : k < 16
        · have hd : decide ((k : Int) < 16) = true := by simp; omega
          have HN := Lib.hid (show Lib.byteCells (genL (fun i => hh.getD i 0 ^^^ eb.getD i 0) k) ++ [.int .u8 ((hh.getD k 0 ^^^ eb.getD k 0).toNat : Int)] = Lib.byteCells (genL (fun i => hh.getD i 0 ^^^ eb.getD i 0) (k + 1)) from by rw [bcs_snoc, genL_succ])
          have ix := HIa.out k hlt
          have iy := HIb.out k hlt
          have HX := Lib.hid (au8x (hh.getD k 0) (eb.getD k 0))
          generalize Lib.byteCells (genL (fun i => hh.getD i 0 ^^^ eb.getD i 0) k) = cu at *
          generalize hh.getD k 0 = x at *
          generalize eb.getD k 0 = y at *
          go_wp2_with fail
          refine wp_region_moves_tail 8 _ rfl rfl rfl (by kernel_rfl) (by kernel_rfl) (fun _ _ _ _ h => h) ?_
          simp only [Nat.reduceSub, List.take_succ_cons, List.take_zero, List.drop_succ_cons, List.drop_zero]
          dsimp only [Act.put, Act.eval]
          repeat (first | go_big_quiet_step (fail) | quiet_step (fail))
          refine wpQuiet_nil ?_
          intro W4 hb4
          have HO4 := Lib.hid (HO.out.below hb4)
          have hbB : Below B w W4 := hb.trans (hb4.mono hsz)
          have hsz4 := Nat.le_trans hsz hb4.size
          clear HO hb hb4
          go_wp2_with (at_builtin; refine wpList_append_sl rfl (.tmp 41) (.tmp 49) 31 rfl B 5 i0 (.int .u8 0) 1 Tryd.underlying31 hi hz0 hz1 hz2 rfl ao k cp _ rfl (HO4.out.alloc _) HL.out ⟨W4.heap.size, 0, none⟩ 1 1 [.int .u8 _] rfl rfl (cell_one_new _ _ _) ?b2 ?b3 ?b4 ?b5 ?_)
          case b2 => intro u hu; simp at hu; subst hu; rfl
          case b3 => omega
          case b4 => omega
          case b5 => simp; omega
          intro ao5 cp5 W5 hown5 hgrow5
          have hb5 : Below B w W5 := below_append (hbB.alloc hsz4 _) (by simp; omega) (HO4.out.alloc _) hgrow5
          have hsz5 : B ≤ W5.heap.size := by have := hgrow5.size; simp at this; omega
          rw [HX.out, HN.out] at hown5
          clear hgrow5 HO4 hbB hsz4
          go_wp2_with fail
          go_roundw
          case rel => exact ⟨k + 1, ao5, cp5, by omega, by go_num, rfl, hown5, hb5, hsz5⟩
          case measure => simp [intOf]; omega
        · have hd : decide ((k : Int) < 16) = false := by simp; omega
          obtain rfl : k = 16 := by omega
          have ho := HO.out
          rw [HGen.out] at ho
          have hcv := run_string_own ho (tagG_length _ _ _ _)
          clear ho HO HGen
          generalize hq : tagG key nonce.data.toList beside.data.toList sealed.data.toList = tg at *
          have HQ := Lib.hid hq
          clear hq
          go_wp2_with fail
          go_ret
          exact ⟨by first | (rw [HQ.out]; rfl) | rfl, by rw [← HBB.out]; exact hb⟩
end Go.Proofs.YtoejkiblampecaaDoor
