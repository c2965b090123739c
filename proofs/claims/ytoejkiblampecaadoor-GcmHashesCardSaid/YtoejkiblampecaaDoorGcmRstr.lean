/- The reference's stream. -/
import Derived.Test.YtoejkiblampecaaDoorGcmRhash
namespace Go.Proofs.YtoejkiblampecaaDoor
open Go.RowKit Go.Sort
set_option maxRecDepth 100000
set_option linter.unusedSimpArgs false
set_option linter.unusedVariables false

theorem grun_string_nil (w : World) : (convert 31 9 (.slice none 0 0)).run Tryd.prog w = .ok (.string ⟨#[]⟩) w := by
  rw [run_convert_bytes_string w 31 9 5 _ _ _ Tryd.underlying31 Tryd.underlying5 Tryd.underlying9]
  rfl
/-- The string of a slice of the call's own. -/
theorem run_string_own {W : World} {base n cap : Nat} {ao : Option Addr} {l : List UInt8} (h : Own W base (.slice ao n cap) (Lib.byteCells l)) (hl : l.length = n) : (convert 31 9 (.slice ao n cap)).run Tryd.prog W = .ok (.string ⟨l.toArray⟩) W := by
  rcases h with ⟨h1, h2⟩ | ⟨g, c, hv, ho⟩
  · cases h1
    have : l = [] := by cases l with
      | nil => rfl
      | cons a r => simp [Lib.byteCells] at h2
    subst this
    exact grun_string_nil W
  · injection hv with h1 _ h3
    subst h1 h3
    exact run_string_at W g 0 cap n l hl (fun j x hx => by
      rw [Nat.zero_add]
      exact ho.cells j _ (by simp [Lib.byteCells, hx]))
/-- A sheet of a key by value. -/
def sheetV (K kc S sc : Nat) : Value := .agg (sheetC K kc S sc)
theorem sizeSheet (K kc S sc : Nat) : (Tryd.prog.info? 43).map (·.size) = some (sheetC K kc S sc).size := (zero_of_info infoSheet).2
/-- The block of the key's stream that the byte i lies in. -/
def stB (key nonce : List UInt8) (i : Nat) : List UInt8 := if i = 0 then [] else enL key (ctG nonce (2 + (i - 1) / 16))
theorem stB_now (key nonce : List UInt8) (i : Nat) : enL key (ctG nonce (2 + i / 16)) = stB key nonce (i + 1) := rfl
theorem stB_keep (key nonce : List UInt8) (i : Nat) (h : i % 16 ≠ 0) : stB key nonce i = stB key nonce (i + 1) := by
  rw [stB, if_neg (by omega), stB, if_neg (by omega), show (i - 1) / 16 = (i + 1 - 1) / 16 by omega]
theorem stB_size (key nonce : List UInt8) (i : Nat) : (⟨(stB key nonce (i + 1)).toArray⟩ : ByteArray).size = 16 := enL_length _ _
theorem stB_at (key nonce data : List UInt8) (i : Nat) : data.getD i 0 ^^^ (stB key nonce (i + 1)).getD (i % 16) 0 = strF key nonce data i := rfl

set_option maxHeartbeats 4000000 in
theorem rstream_any (key : List UInt8) (nonce data : ByteArray) (K kc S : Nat) (w : World) (hk : key.length = 16) (hn : nonce.size = 12) (hs : data.size ≤ 1000000) (hK : KeysAt w K key) (hT : TabB w S) :
    Calls Tryd.prog 24 #[.agg (sheetC K kc S 256), .string nonce, .string data] w fun e w' => e = .returned (.string ⟨(strG key nonce.data.toList data.data.toList).toArray⟩) ∧ Below w.heap.size w w' := by
  obtain ⟨i0, hi, hz0, hz1, hz2⟩ := info_parts info_u8
  have hbX := below_new w (.cells (sheetC K kc S 256) 43)
  have HX0 := Lib.hid (blk_new w (.cells (sheetC K kc S 256) 43))
  have HK := Lib.hid hK; have HT := Lib.hid hT
  have hKl := hK.lt; have hTl := hT.lt
  have HIS := Lib.hid (sizeSheet K kc S 256)
  have HU := Lib.hid (fun (b : ByteArray) (W : World) (hb : b.size = 16) (h1 : KeysAt W K key) (h2 : TabB W S) => under_any key b K kc S 256 W hk hb h1 h2)
  have HCt := Lib.hid (fun (m : Nat) (hm : m < 1073741824) W => counter_any nonce m W hm hn)
  have hnl : nonce.data.toList.length = 12 := by rw [← Lib.size_eq]; exact hn
  have HNL := Lib.hid hnl
  have HDL := Lib.hid (show data.data.toList.length = data.size from (Lib.size_eq _).symm)
  have HIx := Lib.hid (fun (j : Nat) (h : j < data.size) (V : World) => index_text data j h V)
  clear hK hT hnl hn hk
  go_enter Tryd.func24, Tryd.ntmps24
  go_wp2_with fail
  generalize hnn : nonce.data.toList = nl at *
  generalize hdd : data.data.toList = dl at *
  have HNE := Lib.hid hnn; have HDE := Lib.hid hdd
  clear hnn hdd
  generalize (w.alloc _) = W0 at *
  obtain ⟨B, hBB⟩ : ∃ B, B = w.heap.size := ⟨_, rfl⟩
  have HBB := Lib.hid hBB
  have hszB : B ≤ W0.heap.size := by have := hbX.size; omega
  rw [← hBB] at hbX HX0
  have hKl' : K < B := by omega
  have hTl' : S < B := by omega
  rw [← hBB]
  clear hBB hKl hTl
  go_loopw [7, 8, 9] (fun ov sv iv wr => ∃ (i : Nat) (ao : Option Addr) (cp : Nat), i ≤ data.size ∧ iv = .int .i64 (i : Int) ∧ sv = .string ⟨(stB key nl i).toArray⟩ ∧ ov = .slice ao i cp ∧ Own wr (B + 1) (.slice ao i cp) (Lib.byteCells (genL (strF key nl dl) i)) ∧ wr.heap[B]? = some (.cells (sheetC K kc S 256) 43) ∧ Below B w wr ∧ B + 1 ≤ wr.heap.size) (fun _ _ iv _ => data.size - (intOf iv).toNat)
  case atStart => exact ⟨0, none, 0, by omega, rfl, rfl, rfl, Own.nil _ _, HX0.out, hbX, by have := blk_lt HX0.out; omega⟩
  case round =>
    clear HX0 hbX hszB
    obtain ⟨i, ao, cp, hil, rfl, rfl, rfl, hown, hx, hb, hsz⟩ := hrel
    have HO := Lib.hid hown; have HX := Lib.hid hx
    have HL := Lib.hid (bcs_length _ _ (genL_length (strF key nl dl) i))
    clear hown hx
    by_cases hlt : i < data.size
    · have hd : decide ((i : Int) < (data.size : Int)) = true := by simp; omega
      by_cases h16 : i % 16 = 0
      · have hd2 : ((i : Int) % 16 == 0) = true := by simp; omega
        have hd3 : ((i : Int).tmod 16 == 0) = true := by rw [Int.tmod_eq_emod_of_nonneg (by omega)]; exact hd2
        have e1 : (i : Int) / 16 = ((i / 16 : Nat) : Int) := by omega
        have e2 : (i : Int).tdiv 16 = ((i / 16 : Nat) : Int) := by rw [Int.tdiv_eq_ediv_of_nonneg (by omega)]; omega
        have e3 : IntKind.i64.wrap (2 + ((i / 16 : Nat) : Int)) = ((2 + i / 16 : Nat) : Int) := by rw [IntWalk.i64_in _ (by omega)]; omega
        have e4 : 2 + ((i / 16 : Nat) : Int) = ((2 + i / 16 : Nat) : Int) := by omega
        have HC2 := Lib.hid (fun W => HCt.out (2 + i / 16) (by omega) W)
        have HKr := Lib.hid (HK.out.below hb hKl'); have HTr := Lib.hid (HT.out.below hb hTl')
        have HU2 := Lib.hid (fun (W : World) (h1 : KeysAt W K key) (h2 : TabB W S) => HU.out ⟨(ctG nl (2 + i / 16)).toArray⟩ W (ctG_length nl _ HNL.out) h1 h2)
        go_wp2_with fail
        refine wp_region_fresh 7 39 [.val (.agg (sheetC K kc S 256)) [(3, .pointer (some ⟨B, 0, none⟩))], .val (.string nonce) [(1, .string nonce)], .val (.int .i64 (i : Int)) [(9, .int .i64 (i : Int))],
          .val (.int .i64 ((i / 16 : Nat) : Int)) [(21, .int .i64 (i : Int))], .val (.int .i64 ((2 + i / 16 : Nat) : Int)) [(22, .int .i64 ((i / 16 : Nat) : Int))], .val (.string ⟨(ctG nl (2 + i / 16)).toArray⟩) [(20, .string nonce), (23, .int .i64 ((2 + i / 16 : Nat) : Int))],
          .val (.string ⟨(enL key (ctG nl (2 + i / 16))).toArray⟩) [(19, .agg (sheetC K kc S 256)), (24, .string ⟨(ctG nl (2 + i / 16)).toArray⟩)]]
          (by kernel_rfl) (by kernel_rfl) rfl ?_ ?_ ?_
        · simp only [List.take_succ_cons, List.take_zero, headObl, specObl, HeadSpec.val, HeadSpec.fresh, and_true]
          refine ⟨?_, ?_, ?_, ?_, ?_, ?_, ?_⟩
          · intro a w hb h
            have e0 := h (3, .pointer (some ⟨B, 0, none⟩)) (by simp)
            exact sQuiet_load_row 43 (.tmp 3) rfl B e0 43 _ (0, 0) _ (blk_below hb (blk_lt HX.out) HX.out) Tryd.underlying43 rfl HIS.out
          · intro a w hb h
            have e := h (1, .string nonce) (by simp)
            simp only [Array.getD_eq_getD_getElem?] at e
            simp [go_sem, e, sQuiet]
          · intro a w hb h
            have e := h (9, .int .i64 (i : Int)) (by simp)
            simp only [Array.getD_eq_getD_getElem?] at e
            simp [go_sem, e, sQuiet]
          · intro a w hb h
            have e := h (21, .int .i64 (i : Int)) (by simp)
            simp only [Array.getD_eq_getD_getElem?] at e
            have ew : IntKind.i64.wrap ((i / 16 : Nat) : Int) = ((i / 16 : Nat) : Int) := IntWalk.i64_in _ (by omega)
            simp [go_sem, e, sQuiet]
            exact IntWalk.i64_in _ (by omega)
          · intro a w hb h
            have e := h (22, .int .i64 ((i / 16 : Nat) : Int)) (by simp)
            simp only [Array.getD_eq_getD_getElem?] at e
            simp [go_sem, e, sQuiet]
            first | done | omega | exact e3 | exact e4
          · intro a w hb h
            have e0 := h (20, .string nonce) (by simp)
            have e1 := h (23, .int .i64 ((2 + i / 16 : Nat) : Int)) (by simp)
            simp only [Array.getD_eq_getD_getElem?] at e0 e1
            have hc := HC2.out w
            rw [show ((2 + i / 16 : Nat) : Int) = 2 + (i : Int) / 16 from by omega] at hc
            simp [go_sem, e0, e1, sQuiet]
            exact hc
          · intro a w hb h
            have e0 := h (19, .agg (sheetC K kc S 256)) (by simp)
            have e1 := h (24, .string ⟨(ctG nl (2 + i / 16)).toArray⟩) (by simp)
            simp only [Array.getD_eq_getD_getElem?] at e0 e1
            simp [go_sem, e0, e1, sQuiet]
            exact HU2.out w (HKr.out.below hb (by omega)) (HTr.out.below hb (by omega))
        · simp [headReads, headPut, specV, HeadSpec.val, HeadSpec.fresh, Act.put]
        · simp only [List.take_succ_cons, List.take_zero, List.drop_succ_cons, List.drop_zero, headEnd, HeadSpec.val, HeadSpec.fresh, Act.put, List.setIfInBounds_toArray, List.set_cons_succ, List.set_cons_zero]
          intro w1 hb1 hgs
          have hlx := blk_lt HX.out
          have HX1 := Lib.hid (blk_below hb1 hlx HX.out)
          have HO1 := Lib.hid (HO.out.below hb1)
          have hb1' : Below B w w1 := hb.trans (hb1.mono (by omega))
          have hsz1 := Nat.le_trans hsz hb1.size
          clear HX HO hb hsz hb1 hgs hlx HU2 HC2 HKr HTr e1 e2 e3 e4
          have HX := HX1; have HO := HO1; have hb := hb1'; have hsz := hsz1
          clear HX1 HO1 hb1' hsz1 h16 hd2 hd3
          rw [stB_now]
          have hst := stB_size key nl i
          have ix := HIx.out i hlt
          have iy := index_text ⟨(stB key nl (i + 1)).toArray⟩ (i % 16) (by rw [hst]; exact Nat.mod_lt _ (by omega))
          have HXx := Lib.hid (au8x (dl.getD i 0) ((stB key nl (i + 1)).getD (i % 16) 0))
          rw [stB_at] at HXx
          have HN := Lib.hid (show Lib.byteCells (genL (strF key nl dl) i) ++ [.int .u8 ((strF key nl dl i).toNat : Int)] = Lib.byteCells (genL (strF key nl dl) (i + 1)) from by rw [bcs_snoc, genL_succ])
          have f2 : (i : Int) % 16 = ((i % 16 : Nat) : Int) := by omega
          have f4 : (i : Int).tmod 16 = ((i % 16 : Nat) : Int) := by rw [Int.tmod_eq_emod_of_nonneg (by omega)]; omega
          have HRV := Lib.hid (show (⟨(stB key nl (i + 1)).toArray⟩ : ByteArray).data.toList = stB key nl (i + 1) from rfl)
          rw [HRV.out] at iy
          have f5 : i % 16 < 16 := Nat.mod_lt _ (by omega)
          have f6 : ((i % 16 : Nat) : Int) < 16 := by omega
          generalize (stB key nl (i + 1)).getD (i % 16) 0 = y at *
          generalize dl.getD i 0 = x at *
          generalize hsb : (⟨(stB key nl (i + 1)).toArray⟩ : ByteArray) = sb1 at *
          have HSB := Lib.hid hsb
          clear hsb
          generalize i % 16 = r at *
          generalize Lib.byteCells (genL (strF key nl dl) i) = cu at *
          go_wp2_with fail
          refine wp_region_moves_tail 9 _ rfl rfl rfl (by kernel_rfl) (by kernel_rfl) (fun _ _ _ _ h => h) ?_
          simp only [Nat.reduceSub, List.take_succ_cons, List.take_zero, List.drop_succ_cons, List.drop_zero]
          dsimp only [Act.put, Act.eval]
          repeat (first | go_big_quiet_step (fail) | quiet_step (fail))
          refine wpQuiet_nil ?_
          intro W4 hb4
          have HO4 := Lib.hid (HO.out.below hb4)
          have hlx := blk_lt HX.out
          have HX4 := Lib.hid (blk_below hb4 hlx HX.out)
          have hb4' : Below B w W4 := hb.trans (hb4.mono (by omega))
          have hsz4 := Nat.le_trans hsz hb4.size
          clear HO hb hb4 hlx HX
          rw [HXx.out]
          have hb40 := below_new W4 (.cells #[.int .u8 ((strF key nl dl i).toNat : Int)] 5)
          have HX40 := Lib.hid (blk_old (o := .cells #[.int .u8 ((strF key nl dl i).toNat : Int)] 5) HX4.out)
          have hbB : Below (B + 1) W4 W4 := Below.refl _ _
          clear hb40
          go_wp2_with (at_builtin; refine wpList_append_sl rfl (.tmp 26) (.tmp 35) 31 rfl (B + 1) 5 i0 (.int .u8 0) 1 Tryd.underlying31 hi hz0 hz1 hz2 rfl ao i cp _ rfl (HO4.out.alloc _) HL.out ⟨W4.heap.size, 0, none⟩ 1 1 [.int .u8 _] rfl rfl (cell_one_new _ _ _) ?b2 ?b3 ?b4 ?b5 ?_)
          case b2 => intro u hu; simp at hu; subst hu; rfl
          case b3 => omega
          case b4 => omega
          case b5 => simp; omega
          intro ao5 cp5 W5 hown5 hgrow5
          have hb5 : Below (B + 1) W4 W5 := below_append (hbB.alloc hsz4 _) (by simp; omega) (HO4.out.alloc _) hgrow5
          have hsz5 : B + 1 ≤ W5.heap.size := by have := hgrow5.size; simp at this; omega
          have HX5 := Lib.hid (blk_below hb5 (by omega) HX4.out)
          have hb6 : Below B w W5 := hb4'.trans (hb5.mono (by omega))
          rw [HN.out] at hown5
          clear hgrow5 HO4 hbB hsz4 hb4' hb5
          go_wp2_with fail
          go_roundw
          case rel => exact ⟨i + 1, ao5, cp5, by omega, by go_num, by rw [HSB.out], rfl, hown5, HX5.out, hb6, hsz5⟩
          case measure => simp [intOf]; omega
      · have hd2 : ((i : Int) % 16 == 0) = false := by simp; omega
        have hd3 : ((i : Int).tmod 16 == 0) = false := by rw [Int.tmod_eq_emod_of_nonneg (by omega)]; exact hd2
        rw [stB_keep key nl i h16]
        have H16 := Lib.hid h16
        clear h16
        have hst := stB_size key nl i
        have ix := HIx.out i hlt
        have iy := index_text ⟨(stB key nl (i + 1)).toArray⟩ (i % 16) (by rw [hst]; exact Nat.mod_lt _ (by omega))
        have HXx := Lib.hid (au8x (dl.getD i 0) ((stB key nl (i + 1)).getD (i % 16) 0))
        rw [stB_at] at HXx
        have HN := Lib.hid (show Lib.byteCells (genL (strF key nl dl) i) ++ [.int .u8 ((strF key nl dl i).toNat : Int)] = Lib.byteCells (genL (strF key nl dl) (i + 1)) from by rw [bcs_snoc, genL_succ])
        have f2 : (i : Int) % 16 = ((i % 16 : Nat) : Int) := by omega
        have f4 : (i : Int).tmod 16 = ((i % 16 : Nat) : Int) := by rw [Int.tmod_eq_emod_of_nonneg (by omega)]; omega
        have HRV := Lib.hid (show (⟨(stB key nl (i + 1)).toArray⟩ : ByteArray).data.toList = stB key nl (i + 1) from rfl)
        rw [HRV.out] at iy
        have f5 : i % 16 < 16 := Nat.mod_lt _ (by omega)
        have f6 : ((i % 16 : Nat) : Int) < 16 := by omega
        generalize (stB key nl (i + 1)).getD (i % 16) 0 = y at *
        generalize dl.getD i 0 = x at *
        generalize hsb : (⟨(stB key nl (i + 1)).toArray⟩ : ByteArray) = sb1 at *
        have HSB := Lib.hid hsb
        clear hsb
        generalize i % 16 = r at *
        generalize Lib.byteCells (genL (strF key nl dl) i) = cu at *
        go_wp2_with fail
        refine wp_region_moves_tail 9 _ rfl rfl rfl (by kernel_rfl) (by kernel_rfl) (fun _ _ _ _ h => h) ?_
        simp only [Nat.reduceSub, List.take_succ_cons, List.take_zero, List.drop_succ_cons, List.drop_zero]
        dsimp only [Act.put, Act.eval]
        repeat (first | go_big_quiet_step (fail) | quiet_step (fail))
        refine wpQuiet_nil ?_
        intro W4 hb4
        have HO4 := Lib.hid (HO.out.below hb4)
        have hlx := blk_lt HX.out
        have HX4 := Lib.hid (blk_below hb4 hlx HX.out)
        have hb4' : Below B w W4 := hb.trans (hb4.mono (by omega))
        have hsz4 := Nat.le_trans hsz hb4.size
        clear HO hb hb4 hlx HX
        rw [HXx.out]
        have hb40 := below_new W4 (.cells #[.int .u8 ((strF key nl dl i).toNat : Int)] 5)
        have HX40 := Lib.hid (blk_old (o := .cells #[.int .u8 ((strF key nl dl i).toNat : Int)] 5) HX4.out)
        have hbB : Below (B + 1) W4 W4 := Below.refl _ _
        clear hb40
        go_wp2_with (at_builtin; refine wpList_append_sl rfl (.tmp 26) (.tmp 35) 31 rfl (B + 1) 5 i0 (.int .u8 0) 1 Tryd.underlying31 hi hz0 hz1 hz2 rfl ao i cp _ rfl (HO4.out.alloc _) HL.out ⟨W4.heap.size, 0, none⟩ 1 1 [.int .u8 _] rfl rfl (cell_one_new _ _ _) ?b2 ?b3 ?b4 ?b5 ?_)
        case b2 => intro u hu; simp at hu; subst hu; rfl
        case b3 => omega
        case b4 => omega
        case b5 => simp; omega
        intro ao5 cp5 W5 hown5 hgrow5
        have hb5 : Below (B + 1) W4 W5 := below_append (hbB.alloc hsz4 _) (by simp; omega) (HO4.out.alloc _) hgrow5
        have hsz5 : B + 1 ≤ W5.heap.size := by have := hgrow5.size; simp at this; omega
        have HX5 := Lib.hid (blk_below hb5 (by omega) HX4.out)
        have hb6 : Below B w W5 := hb4'.trans (hb5.mono (by omega))
        rw [HN.out] at hown5
        clear hgrow5 HO4 hbB hsz4 hb4' hb5
        go_wp2_with fail
        go_roundw
        case rel => exact ⟨i + 1, ao5, cp5, by omega, by go_num, by rw [HSB.out], rfl, hown5, HX5.out, hb6, hsz5⟩
        case measure => simp [intOf]; omega
    · have hd : decide ((i : Int) < (data.size : Int)) = false := by simp; omega
      obtain rfl : i = data.size := by omega
      have hrow : genL (strF key nl dl) data.size = strG key nl dl := by rw [strG, HDL.out]; rfl
      have hsl := strG_length key nl dl
      rw [HDL.out] at hsl
      have ho := HO.out
      rw [hrow] at ho
      clear HO hrow
      generalize hq : strG key nl dl = row at *
      have HQ := Lib.hid hq
      clear hq
      have hcv := run_string_own ho hsl
      clear ho hsl
      go_wp2_with fail
      go_ret
      exact ⟨by rw [HNE.out, HDE.out, HQ.out]; rfl, by rw [← HBB.out]; exact hb⟩
end Go.Proofs.YtoejkiblampecaaDoor
