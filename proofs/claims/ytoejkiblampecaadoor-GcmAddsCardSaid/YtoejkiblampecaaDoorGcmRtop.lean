/- The reference's Seal and Open. -/
import Derived.Test.YtoejkiblampecaaDoorGcmRtag
import Derived.Test.YtoejkiblampecaaDoorGcmTop
namespace Go.Proofs.YtoejkiblampecaaDoor
open Go.RowKit Go.Sort
set_option maxRecDepth 100000
set_option linter.unusedSimpArgs false
set_option linter.unusedVariables false

def sheet0 : Array Value := #[.slice none 0 0, .slice none 0 0]
theorem sheet0_size (K kc S sc : Nat) : sheet0.size = (sheetC K kc S sc).size := rfl
theorem sheet_one (K kc S sc : Nat) : (sheetC K kc S sc).all (·.oneCell') = true := by simp [sheetC, Value.oneCell']
theorem infoSheet0 : (Tryd.prog.info? 43).map (fun i => (i.zero, i.size)) = some (some (.agg sheet0), 2) := by kernel_rfl

set_option maxHeartbeats 1000000 in
theorem rSealKey_any (key nonce beside plain : ByteArray) (w : World) (hk : key.size ≠ 16 ∨ nonce.size ≠ 12) :
    Calls Tryd.prog 14 #[.string key, .string nonce, .string beside, .string plain] w fun e w' => e = .returned (.tuple #[.string ⟨#[]⟩, .int .i64 21]) ∧ w = w' := by
  by_cases h1 : key.size = 16
  · have d1 : ((key.size : Int) != 16) = false := by simp; omega
    have d2 : ((nonce.size : Int) != 12) = true := by simp; omega
    go_enter Tryd.func14, Tryd.ntmps14
    go_wp2_with fail
    go_ret2
    exact ⟨rfl, rfl⟩
  · have d1 : ((key.size : Int) != 16) = true := by simp; omega
    go_enter Tryd.func14, Tryd.ntmps14
    go_wp2_with fail
    go_ret2
    exact ⟨rfl, rfl⟩

set_option maxHeartbeats 2000000 in
theorem rSeal_any (key nonce beside plain : ByteArray) (w : World) (hk : key.size = 16) (hn : nonce.size = 12) (h1 : beside.size ≤ 15000) (h2 : plain.size ≤ 15000) :
    Calls Tryd.prog 14 #[.string key, .string nonce, .string beside, .string plain] w fun e w' => e = .returned (.tuple #[.string ⟨(sealG key.data.toList nonce.data.toList beside.data.toList plain.data.toList).toArray⟩, .int .i64 0]) ∧ Below w.heap.size w w' := by
  obtain ⟨hz, hi⟩ := zero_of_info infoSheet0
  have d1 : ((key.size : Int) != 16) = false := by simp; omega
  have d2 : ((nonce.size : Int) != 12) = false := by simp; omega
  have d3 : decide ((1048576 : Int) < (beside.size : Int)) = false := by simp; omega
  have d4 : decide ((1048576 : Int) < (plain.size : Int)) = false := by simp; omega
  have hkl : key.data.toList.length = 16 := by rw [← Lib.size_eq]; exact hk
  have HRd := Lib.hid (ready_any key w hk)
  have HSt := Lib.hid (fun K kc S W h1 h2 => rstream_any key.data.toList nonce plain K kc S W hkl hn (by omega) h1 h2)
  have hsl := strG_length key.data.toList nonce.data.toList plain.data.toList
  rw [← Lib.size_eq] at hsl
  obtain ⟨hid, hhid⟩ : ∃ s : ByteArray, s = ⟨(strG key.data.toList nonce.data.toList plain.data.toList).toArray⟩ := ⟨_, rfl⟩
  have hhs : hid.size = plain.size := by rw [hhid]; exact hsl
  have HTg := Lib.hid (fun K kc S W h3 h4 => rtag_any key.data.toList nonce beside hid K kc S W hkl hn (by omega) (by omega) h3 h4)
  have HS : Hid (hid ++ ⟨(tagG key.data.toList nonce.data.toList beside.data.toList hid.data.toList).toArray⟩ = (⟨(sealG key.data.toList nonce.data.toList beside.data.toList plain.data.toList).toArray⟩ : ByteArray)) := Lib.hid (by rw [append_bytes2, hhid]; rfl)
  have htl : (⟨(tagG key.data.toList nonce.data.toList beside.data.toList hid.data.toList).toArray⟩ : ByteArray).size = 16 := tagG_length _ _ _ _
  rw [← hhid] at HSt
  clear hhid hsl hi hkl
  generalize (⟨(tagG key.data.toList nonce.data.toList beside.data.toList hid.data.toList).toArray⟩ : ByteArray) = tg at *
  generalize key.data.toList = kl at *
  have hsz : (hid.size : Int) + (tg.size : Int) ≤ 9223372036854775807 := by omega
  go_enter Tryd.func14, Tryd.ntmps14
  go_wp2_with fail
  refine HRd.out.mono ?_
  rintro e W1 ⟨⟨K, kc, S, rfl, hKA, hTB⟩, hb1⟩
  have HG := Lib.hid (blk_new W1 (.cells sheet0 43))
  have HG2 := Lib.hid (setRow_heap _ W1.heap.size _ (sheetC K kc S 256) _ _ HG.out)
  have hbr : Below W1.heap.size W1 ((W1.alloc (.cells sheet0 43)).setRow W1.heap.size (sheetC K kc S 256)) := below_setRow (below_new W1 _) (Nat.le_refl _) _
  have HK := Lib.hid (hKA.below hbr hKA.lt); have HT := Lib.hid (hTB.below hbr hTB.lt)
  have hb2 := hb1.trans (hbr.mono hb1.size)
  have HIs := Lib.hid (sizeSheet K kc S 256)
  have HOs := Lib.hid (sheet0_size K kc S 256)
  have H1s := Lib.hid (sheet_one K kc S 256)
  have hKl := hKA.lt; have hTl := hTB.lt
  have hG1 : W1.heap.size < ((W1.alloc (.cells sheet0 43)).setRow W1.heap.size (sheetC K kc S 256)).heap.size := blk_lt HG2.out
  clear hKA hTB hb1 hbr HRd
  have hsz1 := hb2.size
  have HS2 := Lib.hid (HSt.out K kc S _ HK.out HT.out)
  clear HSt
  go_wp2_with (first
    | (with_reducible refine wpList_load_row rfl 43 _ rfl W1.heap.size rfl 43 _ (0, 0) _ HG2.out Tryd.underlying43 rfl HIs.out ?_)
    | (with_reducible refine wpList_store_row rfl 43 _ _ rfl W1.heap.size (sheetC K kc S 256) rfl rfl 43 _ HG.out HIs.out HOs.out H1s.out ?_))
  clear HG
  generalize World.setRow (World.alloc W1 _) _ _ = W2 at *
  refine HS2.out.mono ?_
  rintro e W3 ⟨rfl, hb3⟩
  have HG3 := Lib.hid (blk_below hb3 hG1 HG2.out)
  have HK3 := Lib.hid (HK.out.below hb3 (by omega))
  have HT3 := Lib.hid (HT.out.below hb3 (by omega))
  have hb4 := hb2.trans (hb3.mono hb2.size)
  have HT4 := Lib.hid (HTg.out K kc S W3 HK3.out HT3.out)
  clear HG2 HK HT hb3 hb2 HS2 HK3 HT3 HTg
  go_wp2_with (with_reducible refine wpList_load_row rfl 43 _ rfl W1.heap.size rfl 43 _ (0, 0) _ HG3.out Tryd.underlying43 rfl HIs.out ?_)
  refine HT4.out.mono ?_
  rintro e W4 ⟨rfl, hb5⟩
  go_wp2_with fail
  go_ret2
  exact ⟨by rw [← HS.out]; rfl, hb4.trans (hb5.mono hb4.size)⟩

set_option maxHeartbeats 1000000 in
theorem rOpenKey_any (key nonce beside sealed : ByteArray) (w : World) (hk : key.size ≠ 16 ∨ nonce.size ≠ 12) :
    Calls Tryd.prog 16 #[.string key, .string nonce, .string beside, .string sealed] w fun e w' => e = .returned (.tuple #[.string ⟨#[]⟩, .int .i64 21]) ∧ w = w' := by
  by_cases h1 : key.size = 16
  · have d1 : ((key.size : Int) != 16) = false := by simp; omega
    have d2 : ((nonce.size : Int) != 12) = true := by simp; omega
    go_enter Tryd.func16, Tryd.ntmps16
    go_wp2_with fail
    go_ret2
    exact ⟨rfl, rfl⟩
  · have d1 : ((key.size : Int) != 16) = true := by simp; omega
    go_enter Tryd.func16, Tryd.ntmps16
    go_wp2_with fail
    go_ret2
    exact ⟨rfl, rfl⟩
set_option maxHeartbeats 1000000 in
theorem rOpenShort_any (key nonce beside sealed : ByteArray) (w : World) (hk : key.size = 16) (hn : nonce.size = 12) (hs : sealed.size < 16) :
    Calls Tryd.prog 16 #[.string key, .string nonce, .string beside, .string sealed] w fun e w' => e = .returned (.tuple #[.string ⟨#[]⟩, .int .i64 20]) ∧ w = w' := by
  have d1 : ((key.size : Int) != 16) = false := by simp; omega
  have d2 : ((nonce.size : Int) != 12) = false := by simp; omega
  have d3 : decide ((sealed.size : Int) < 16) = true := by simp; omega
  go_enter Tryd.func16, Tryd.ntmps16
  go_wp2_with fail
  go_ret2
  exact ⟨rfl, rfl⟩

set_option maxHeartbeats 2000000 in
theorem rOpen_any (key nonce beside sealed : ByteArray) (w : World) (hk : key.size = 16) (hn : nonce.size = 12) (h1 : beside.size ≤ 15000) (h2 : sealed.size ≤ 15000) (hs : 16 ≤ sealed.size) :
    Calls Tryd.prog 16 #[.string key, .string nonce, .string beside, .string sealed] w fun e w' => e = .returned (if tagOk key.data.toList nonce.data.toList beside.data.toList sealed.data.toList then .tuple #[.string ⟨(openG key.data.toList nonce.data.toList beside.data.toList sealed.data.toList).toArray⟩, .int .i64 0] else .tuple #[.string ⟨#[]⟩, .int .i64 20]) ∧ Below w.heap.size w w' := by
  obtain ⟨hz, hi⟩ := zero_of_info infoSheet0
  have d1 : ((key.size : Int) != 16) = false := by simp; omega
  have d2 : ((nonce.size : Int) != 12) = false := by simp; omega
  have d3 : decide ((sealed.size : Int) < 16) = false := by simp; omega
  have d4 : decide ((1048576 : Int) < (beside.size : Int)) = false := by simp; omega
  have d5 : decide ((1048592 : Int) < (sealed.size : Int)) = false := by simp; omega
  obtain ⟨n, hnn⟩ : ∃ n, n = sealed.size - 16 := ⟨_, rfl⟩
  have e1 : IntKind.i64.wrap ((sealed.size : Int) - 16) = (sealed.size : Int) - 16 := IntWalk.i64_in _ (by omega)
  have e2 : (sealed.size : Int) - 16 = (n : Int) := by omega
  have e3 : (n : Int) ≤ (sealed.size : Int) := by omega
  have hkl : key.data.toList.length = 16 := by rw [← Lib.size_eq]; exact hk
  have ht1 : (sealed.extract 0 n).data.toList = sealed.data.toList.take (sealed.data.toList.length - 16) := by rw [Lib.extract_data, List.drop_zero, ← Lib.size_eq, hnn]; rfl
  have ht2 : (sealed.extract n sealed.size).data.toList = sealed.data.toList.drop (sealed.data.toList.length - 16) := by rw [Lib.extract_data, List.take_of_length_le (by rw [List.length_drop, ← Lib.size_eq]; exact Nat.le_refl _), ← Lib.size_eq, hnn]
  have hs1 : (sealed.extract 0 n).size = n := by rw [ByteArray.size_extract]; omega
  have HRd := Lib.hid (ready_any key w hk)
  have HTg := Lib.hid (fun K kc S W h3 h4 => rtag_any key.data.toList nonce beside (sealed.extract 0 n) K kc S W hkl hn (by omega) (by omega) h3 h4)
  have HX := Lib.hid (fun K kc S W h1 h2 => rstream_any key.data.toList nonce (sealed.extract 0 n) K kc S W hkl hn (by omega) h1 h2)
  have hok0 : ((⟨(tagG key.data.toList nonce.data.toList beside.data.toList (sealed.extract 0 n).data.toList).toArray⟩ : ByteArray).toList == (sealed.extract n sealed.size).toList) = tagOk key.data.toList nonce.data.toList beside.data.toList sealed.data.toList := by
    rw [Lib.toList_data, Lib.toList_data, ht2, ht1]; rfl
  have HOp : Hid ((⟨(strG key.data.toList nonce.data.toList (sealed.extract 0 n).data.toList).toArray⟩ : ByteArray) = ⟨(openG key.data.toList nonce.data.toList beside.data.toList sealed.data.toList).toArray⟩) := Lib.hid (by rw [ht1]; rfl)
  rw [HOp.out] at HX
  clear HOp ht1 ht2 hs1 hnn hi hkl
  generalize (⟨(tagG key.data.toList nonce.data.toList beside.data.toList (sealed.extract 0 n).data.toList).toArray⟩ : ByteArray) = tg at *
  generalize hok : tagOk key.data.toList nonce.data.toList beside.data.toList sealed.data.toList = ok at *
  generalize (⟨(openG key.data.toList nonce.data.toList beside.data.toList sealed.data.toList).toArray⟩ : ByteArray) = op at *
  generalize key.data.toList = kl at *
  go_enter Tryd.func16, Tryd.ntmps16
  go_wp2_with fail
  refine HRd.out.mono ?_
  rintro e W1 ⟨⟨K, kc, S, rfl, hKA, hTB⟩, hb1⟩
  have HG := Lib.hid (blk_new W1 (.cells sheet0 43))
  have HG2 := Lib.hid (setRow_heap _ W1.heap.size _ (sheetC K kc S 256) _ _ HG.out)
  have hbr : Below W1.heap.size W1 ((W1.alloc (.cells sheet0 43)).setRow W1.heap.size (sheetC K kc S 256)) := below_setRow (below_new W1 _) (Nat.le_refl _) _
  have HK := Lib.hid (hKA.below hbr hKA.lt); have HT := Lib.hid (hTB.below hbr hTB.lt)
  have hb2 := hb1.trans (hbr.mono hb1.size)
  have HIs := Lib.hid (sizeSheet K kc S 256)
  have HOs := Lib.hid (sheet0_size K kc S 256)
  have H1s := Lib.hid (sheet_one K kc S 256)
  have hKl := hKA.lt; have hTl := hTB.lt
  have hG1 : W1.heap.size < ((W1.alloc (.cells sheet0 43)).setRow W1.heap.size (sheetC K kc S 256)).heap.size := blk_lt HG2.out
  clear hKA hTB hb1 hbr HRd
  have hsz1 := hb2.size
  have HT2 := Lib.hid (fun (W : World) (h1 : KeysAt W K kl) (h2 : TabB W S) => HTg.out K kc S W h1 h2)
  clear HTg
  go_wp2_with (first
    | (with_reducible refine wpList_store_row rfl 43 _ _ rfl W1.heap.size (sheetC K kc S 256) rfl rfl 43 _ HG.out HIs.out HOs.out H1s.out ?_))
  clear HG
  generalize World.setRow (World.alloc W1 _) _ _ = W2 at *
  refine wp_region_reads (by kernel_rfl) (by kernel_rfl) ?_
  refine arr_quiet_load rfl 43 (.tmp 10) rfl ⟨W1.heap.size, 0, none⟩ rfl (sheetC K kc S 256) (arr_row_regrown 43 W1.heap.size 43 _ (0, 0) _ HG2.out Tryd.underlying43 rfl HIs.out) ?_
  simp only [Act.put, List.setIfInBounds_toArray, List.set_cons_succ, List.set_cons_zero]
  repeat (first | go_big_quiet_step (with_reducible exact Calls.regrown_of (HT2.out _ (HK.out.below (below_regrown _ _ _) (by omega)) (HT.out.below (below_regrown _ _ _) (by omega)))) | quiet_step (with_reducible exact Calls.regrown_of (HT2.out _ (HK.out.below (below_regrown _ _ _) (by omega)) (HT.out.below (below_regrown _ _ _) (by omega)))))
  refine wpQuiet_nil ?_
  intro W4 hb4
  have HG4 := Lib.hid (blk_below hb4 hG1 HG2.out)
  have HK4 := Lib.hid (HK.out.below hb4 (by omega))
  have HT4 := Lib.hid (HT.out.below hb4 (by omega))
  have hb5 := hb2.trans (hb4.mono hb2.size)
  have HX4 := Lib.hid (HX.out K kc S W4 HK4.out HT4.out)
  clear HG2 HK HT HT2 hb4 hb2 HK4 HT4 HX
  cases ok with
  | false =>
    go_wp2_with fail
    go_ret2
    exact ⟨rfl, hb5⟩
  | true =>
    go_wp2_with (with_reducible refine wpList_load_row rfl 43 _ rfl W1.heap.size rfl 43 _ (0, 0) _ HG4.out Tryd.underlying43 rfl HIs.out ?_)
    refine HX4.out.mono ?_
    rintro e W5 ⟨rfl, hb6⟩
    go_wp2_with fail
    go_ret2
    exact ⟨rfl, hb5.trans (hb6.mono hb5.size)⟩
end Go.Proofs.YtoejkiblampecaaDoor
