/- The program's Tag. -/
import Derived.Test.YtbbpgplfdodpmaaPolyAcc
import Derived.Test.YtbbpgplfdodpmaaFresh
namespace Go.Proofs.Ytbbpgplfdodpmaa
open Go.RowKit Go.Sort
set_option maxRecDepth 100000
set_option linter.unusedSimpArgs false
set_option linter.unusedVariables false

theorem ownTagKey_any (key data : ByteArray) (w : World) (hk : key.size ≠ 32) :
    Calls Try.prog 8 #[.string key, .string data] w fun e w' => e = .returned (.tuple #[.string ⟨#[]⟩, .int .i64 21]) ∧ Below w.heap.size w w' := by
  have hd1 : ((key.size : Int) != 32) = true := by simp; omega
  go_enter Try.func8, Try.ntmps8
  go_wp2_with fail
  go_ret2
  exact ⟨rfl, Below.refl _ _⟩

set_option maxHeartbeats 1000000 in
theorem ownTag_any (key data : ByteArray) (w : World) (hk : key.size = 32) (hd : data.size ≤ 1099511627776) :
    Calls Try.prog 8 #[.string key, .string data] w fun e w' => e = .returned (.tuple #[.string ⟨(polyTag key.data.toList data.data.toList).toArray⟩, .int .i64 0]) ∧ Below w.heap.size w w' := by
  obtain ⟨hz, hi⟩ := zero_of_info infoN
  obtain ⟨hz16, hi16⟩ := zero_of_info infoB16
  have hd1 : ((key.size : Int) != 32) = false := by simp [hk]
  have h16 : (16 : Int) ≤ (key.size : Int) := by omega
  have HK := Lib.hid hk
  clear hi hi16 hk
  go_enter Try.func8, Try.ntmps8
  go_wp2_with fail
  have hka : (key.extract 0 16).size = 16 := by rw [ByteArray.size_extract, HK.out]; omega
  have hkb : (key.extract 16 key.size).size = 16 := by rw [ByteArray.size_extract, Nat.min_self, HK.out]
  have hkl : key.data.toList.length = 32 := by rw [← Lib.size_eq]; exact HK.out
  have ha1 : (key.extract 0 16).data.toList = key.data.toList.take 16 := by rw [Lib.extract_data]; simp
  have ha2 : (key.extract 16 key.size).data.toList = key.data.toList.drop 16 := by rw [Lib.extract_data, List.take_of_length_le (by rw [List.length_drop, ← Lib.size_eq]; exact Nat.le_refl _)]
  have HT := Lib.hid (ownTag_eq key.data.toList data.data.toList hkl)
  have HF := Lib.hid (fun W => factor_any (key.extract 0 16) W hka)
  have HS := Lib.hid (fun W => summand_any (key.extract 16 key.size) W hkb)
  rw [ha1] at HF; rw [ha2] at HS
  have hN : leN (clampL (key.data.toList.take 16)) < 1361129467683753853853498429727072845824 := by
    have h1 := leN_lt (clampL (key.data.toList.take 16))
    have h2 : (256 : Nat) ^ 16 < 1361129467683753853853498429727072845824 := by decide
    rw [clampL_length, List.length_take, hkl, show min 16 32 = 16 from rfl] at h1
    omega
  have HA := Lib.hid (fun W => accumulated_any _ data W hN hd)
  obtain ⟨_, a2, a3⟩ := acc_spec _ hN data.data.toList ((data.size + 15) / 16)
  have hal := accL_length (numL (leN (clampL (key.data.toList.take 16)))) data.data.toList ((data.size + 15) / 16)
  have hsz : data.data.toList.length = data.size := (Lib.size_eq data).symm
  rw [hsz] at HT
  have hsl := numL_length (leN (key.data.toList.drop 16))
  have hRl := numL_length (leN (clampL (key.data.toList.take 16)))
  have hsi := numL_in (leN (key.data.toList.drop 16))
  clear hkl ha1 ha2 hN hsz hka hkb
  generalize numL (leN (clampL (key.data.toList.take 16))) = R at *
  generalize numL (leN (key.data.toList.drop 16)) = Sm at *
  generalize accL R data.data.toList ((data.size + 15) / 16) = A at *
  have HRd := Lib.hid (fun W => reduced_any A W hal (fun x hx => by obtain ⟨a, b⟩ := a2 x hx; exact ⟨a, by omega⟩) a3)
  have hrl : (reducedL A).length = 5 := by rw [reducedL_length, hal]
  have hri : digitsIn 67108863 (reducedL A) := spreadL_in _ (by simpa using hal)
  generalize reducedL A = RA at *
  have HP := Lib.hid (fun W => plus_any RA Sm W hrl hsl (fun x hx => by obtain ⟨a, b⟩ := hri x hx; exact ⟨a, by omega⟩) (fun x hx => by obtain ⟨a, b⟩ := hsi x hx; exact ⟨a, by omega⟩))
  have htl : (sumL RA Sm 5).length = 5 := by rw [sumL_length, hrl]
  have hti := sumIn _ _ hrl hsl _ _ hri hsi
  generalize sumL RA Sm 5 = T at *
  have HLo := Lib.hid (fun W => low_any T W htl (fun x hx => by obtain ⟨a, b⟩ := hti x hx; exact ⟨a, by omega⟩))
  rw [HT.out] at HLo
  have HPL := Lib.hid (show (polyTag key.data.toList data.data.toList).length = 16 from leOut_length _ _)
  generalize hpt : polyTag key.data.toList data.data.toList = pt at *
  have HPT := Lib.hid hpt
  have HIR := Lib.hid (sizeN R hRl)
  have HOR := Lib.hid (zeros5_size R hRl)
  have H1R := Lib.hid (lmc_one R)
  have HIS := Lib.hid (sizeN Sm hsl)
  have HOS := Lib.hid (zeros5_size Sm hsl)
  have H1S := Lib.hid (lmc_one Sm)
  clear hpt a2 a3 hal hsi hrl hri htl hti HT hsl
  refine wp_region_fresh 8 27 [.val (.string key) [(0, .string key)], .val (.string (key.extract 0 16)) [(12, .string key)], .val (.agg (lmc R)) [(13, .string (key.extract 0 16))],
    .val (.string key) [(0, .string key)], .val (.string (key.extract 16 key.size)) [(15, .string key)], .val (.agg (lmc Sm)) [(16, .string (key.extract 16 key.size))], .fresh (.cells zeros5 33), .fresh (.cells zeros5 33)]
    (by kernel_rfl) (by kernel_rfl) rfl ?_ ?_ ?_
  · simp only [List.take_succ_cons, List.take_zero, headObl, specObl, HeadSpec.val, HeadSpec.fresh, and_true]
    refine ⟨?_, ?_, ?_, ?_, ?_, ?_, ?_, ?_⟩
    · intro a w hb h
      have e := h (0, .string key) (by simp)
      simp only [Array.getD_eq_getD_getElem?] at e
      simp [go_sem, e, sQuiet]
    · intro a w hb h
      have e := h (12, .string key) (by simp)
      simp only [Array.getD_eq_getD_getElem?] at e
      simp [go_sem, e, sQuiet, h16]
    · intro a w hb h
      have e := h (13, .string (key.extract 0 16)) (by simp)
      simp only [Array.getD_eq_getD_getElem?] at e
      simp [go_sem, e, sQuiet]
      exact HF.out w
    · intro a w hb h
      have e := h (0, .string key) (by simp)
      simp only [Array.getD_eq_getD_getElem?] at e
      simp [go_sem, e, sQuiet]
    · intro a w hb h
      have e := h (15, .string key) (by simp)
      simp only [Array.getD_eq_getD_getElem?] at e
      simp [go_sem, e, sQuiet, h16]
    · intro a w hb h
      have e := h (16, .string (key.extract 16 key.size)) (by simp)
      simp only [Array.getD_eq_getD_getElem?] at e
      simp [go_sem, e, sQuiet]
      exact HS.out w
    · intro a w hb
      simp [go_sem, hz]
    · intro a w hb
      simp [go_sem, hz]
  · simp [headReads, headPut, specV, HeadSpec.val, HeadSpec.fresh, Act.put]
  · simp only [List.take_succ_cons, List.take_zero, List.drop_succ_cons, List.drop_zero, headEnd, HeadSpec.val, HeadSpec.fresh, Act.put, List.setIfInBounds_toArray, List.set_cons_succ, List.set_cons_zero]
    intro g6 hg6 _ g7 hg7 h67 w1 hb1 hgs
    have h67' : g6 ≠ g7 := h67 (g6, .cells zeros5 33) (by simp)
    have HG6 := Lib.hid (show w1.heap[g6]? = some (.cells zeros5 33) from hgs (g6, .cells zeros5 33) (by simp))
    have HG7 := Lib.hid (show w1.heap[g7]? = some (.cells zeros5 33) from hgs (g7, .cells zeros5 33) (by simp))
    clear h67 hgs HF HS
    have HR6 := Lib.hid (setRow_heap w1 g6 _ (lmc R) _ _ HG6.out)
    have HG7' := Lib.hid (show (w1.setRow g6 (lmc R)).heap[g7]? = some (.cells zeros5 33) from by rw [setRow_other _ _ _ _ (Ne.symm h67')]; exact HG7.out)
    have HR7 := Lib.hid (setRow_heap (w1.setRow g6 (lmc R)) g7 _ (lmc Sm) _ _ HG7'.out)
    have HR6' := Lib.hid (show ((w1.setRow g6 (lmc R)).setRow g7 (lmc Sm)).heap[g6]? = some (.cells (lmc R) 33) from by rw [setRow_other _ _ _ _ h67']; exact HR6.out)
    have hb2 : Below w.heap.size w ((w1.setRow g6 (lmc R)).setRow g7 (lmc Sm)) := below_setRow (below_setRow hb1 hg6 _) hg7 _
    go_wp2_with (first
      | (with_reducible refine wpList_store_row rfl 33 _ _ rfl g6 (lmc R) rfl rfl 33 _ HG6.out HIR.out HOR.out H1R.out ?_)
      | (with_reducible refine wpList_store_row rfl 33 _ _ rfl g7 (lmc Sm) rfl rfl 33 _ HG7'.out HIS.out HOS.out H1S.out ?_))
    clear HG6 HG7 HG7' HR6 hb1
    generalize (World.setRow (World.setRow _ _ _) _ _) = w2 at *
    simp only [Act.put]
    clear hd1 h16 HK hd
    refine wp_region_fresh 8 27 [.val (.agg (lmc R)) [(6, .pointer (some ⟨g6, 0, none⟩))], .val (.string data) [(1, .string data)], .val (.agg (lmc A)) [(18, .agg (lmc R)), (19, .string data)], .val (.agg (lmc RA)) [(20, .agg (lmc A))],
      .val (.agg (lmc Sm)) [(7, .pointer (some ⟨g7, 0, none⟩))], .val (.agg (lmc T)) [(21, .agg (lmc RA)), (22, .agg (lmc Sm))], .val (.agg (bcells pt)) [(23, .agg (lmc T))], .fresh (.cells bzeros16 35)]
      (by kernel_rfl) (by kernel_rfl) rfl ?_ ?_ ?_
    · simp only [List.take_succ_cons, List.take_zero, headObl, specObl, HeadSpec.val, HeadSpec.fresh, and_true]
      refine ⟨?_, ?_, ?_, ?_, ?_, ?_, ?_, ?_⟩
      · intro a w hb h
        have e0 := h (6, .pointer (some ⟨g6, 0, none⟩)) (by simp)
        exact sQuiet_load_row 33 (.tmp 6) rfl g6 e0 33 _ (0, 0) _ (blk_below hb (blk_lt HR6'.out) HR6'.out) Try.underlying33 rfl HIR.out
      · intro a w hb h
        have e0 := h (1, .string data) (by simp)
        simp only [Array.getD_eq_getD_getElem?] at e0
        simp [go_sem, e0, sQuiet]
      · intro a w hb h
        have e0 := h (18, .agg (lmc R)) (by simp)
        have e1 := h (19, .string data) (by simp)
        simp only [Array.getD_eq_getD_getElem?] at e0 e1
        simp [go_sem, e0, e1, sQuiet]
        exact HA.out w
      · intro a w hb h
        have e0 := h (20, .agg (lmc A)) (by simp)
        simp only [Array.getD_eq_getD_getElem?] at e0
        simp [go_sem, e0, sQuiet]
        exact HRd.out w
      · intro a w hb h
        have e0 := h (7, .pointer (some ⟨g7, 0, none⟩)) (by simp)
        exact sQuiet_load_row 33 (.tmp 7) rfl g7 e0 33 _ (0, 0) _ (blk_below hb (blk_lt HR7.out) HR7.out) Try.underlying33 rfl HIS.out
      · intro a w hb h
        have e0 := h (21, .agg (lmc RA)) (by simp)
        have e1 := h (22, .agg (lmc Sm)) (by simp)
        simp only [Array.getD_eq_getD_getElem?] at e0 e1
        simp [go_sem, e0, e1, sQuiet]
        exact HP.out w
      · intro a w hb h
        have e0 := h (23, .agg (lmc T)) (by simp)
        simp only [Array.getD_eq_getD_getElem?] at e0
        simp [go_sem, e0, sQuiet]
        exact HLo.out w
      · intro a w hb
        simp [go_sem, hz16]
    · simp [headReads, headPut, specV, HeadSpec.val, HeadSpec.fresh, Act.put]
    · simp only [List.take_succ_cons, List.take_zero, List.drop_succ_cons, List.drop_zero, headEnd, HeadSpec.val, HeadSpec.fresh, Act.put, List.setIfInBounds_toArray, List.set_cons_succ, List.set_cons_zero]
      intro g8 hg8 _ w3 hb3 hgs
      have HG8 := Lib.hid (show w3.heap[g8]? = some (.cells bzeros16 35) from hgs (g8, .cells bzeros16 35) (by simp))
      have HR8 := Lib.hid (setRow_heap w3 g8 _ (bcells pt) _ _ HG8.out)
      have hbF : Below w.heap.size w (w3.setRow g8 (bcells pt)) := below_setRow (hb2.trans (hb3.mono hb2.size)) (Nat.le_trans hb2.size hg8) _
      have HIB := Lib.hid (sizeB16 pt HPL.out)
      have HOB := Lib.hid (bzeros16_size pt HPL.out)
      have H1B := Lib.hid (bcells_one pt)
      have sl := sliced_whole 35 16 g8 (by kernel_rfl) (by kernel_rfl) (by kernel_rfl) (by omega)
      have hcv := run_string_row (w3.setRow g8 (bcells pt)) g8 16 pt (cells_of_bcells HR8.out)
      rw [HPL.out] at hcv
      clear HA HRd HP HLo HR6' HR7 hgs hb2 hb3 hg6 hg7 h67'
      go_wp2_with (with_reducible refine wpList_store_row rfl 35 _ _ rfl g8 (bcells pt) rfl rfl 35 _ HG8.out HIB.out HOB.out H1B.out ?_)
      go_ret2
      exact ⟨by rw [HPT.out]; rfl, hbF⟩
end Go.Proofs.Ytbbpgplfdodpmaa
