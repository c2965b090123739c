/- The program's xored, tag, chachaSeal and chachaOpen. -/
import Derived.Test.YtaodbhhdjehnnaaGreatDoorSealTxt
import Derived.Test.YtaodbhhdjehnnaaGreatDoorChaP
import Derived.Test.YtaodbhhdjehnnaaGreatDoorPolyP
namespace Go.Proofs.YtaodbhhdjehnnaaGreatDoor
open Go.RowKit Go.Sort
set_option maxRecDepth 100000
set_option linter.unusedSimpArgs false
set_option linter.unusedVariables false

set_option maxHeartbeats 1000000 in
theorem sxored_any (key nonce text : ByteArray) (w : World) (hk : key.size = 32) (hn : nonce.size = 12) (hs : text.size ≤ 1073741824) :
    Calls Tryz.prog 23 #[.string key, .string nonce, .string text] w fun e w' => e = .returned (.string ⟨(hidS key.data.toList nonce.data.toList text.data.toList).toArray⟩) ∧ Below w.heap.size w w' := by
  have HX := Lib.hid (ownXor_any key nonce 1 text w hk hn (by omega) hs (by omega))
  rw [show chaX key.data.toList nonce.data.toList 1 text.data.toList text.size = hidS key.data.toList nonce.data.toList text.data.toList from by rw [hidS, Lib.size_eq]] at HX
  generalize (⟨(hidS key.data.toList nonce.data.toList text.data.toList).toArray⟩ : ByteArray) = r at *
  go_enter Tryz.func23, Tryz.ntmps23
  go_wp2_with fail
  refine HX.out.mono ?_
  rintro e W1 ⟨rfl, hb1⟩
  go_wp2_with fail
  go_ret
  exact ⟨rfl, hb1⟩

set_option maxHeartbeats 1000000 in
theorem stag_any (key nonce beside hidden : ByteArray) (w : World) (hk : key.size = 32) (hn : nonce.size = 12) (h1 : beside.size ≤ 1073741824) (h2 : hidden.size ≤ 1073741824) :
    Calls Tryz.prog 24 #[.string key, .string nonce, .string beside, .string hidden] w fun e w' => e = .returned (.string ⟨(tagS key.data.toList nonce.data.toList beside.data.toList hidden.data.toList).toArray⟩) ∧ Below w.heap.size w w' := by
  have HB := Lib.hid (ownBlock_any key nonce 0 w hk hn (by omega))
  obtain ⟨bk, hbk⟩ : ∃ b : ByteArray, b = ⟨(chaB key.data.toList nonce.data.toList 0).toArray⟩ := ⟨_, rfl⟩
  have hbs : bk.size = 64 := by rw [hbk]; exact chaB_length _ _ _
  have h32 : (32 : Int) ≤ (bk.size : Int) := by omega
  have hx1 : (bk.extract 0 32).data.toList = (chaB key.data.toList nonce.data.toList 0).take 32 := by rw [Lib.extract_data, hbk]; rfl
  have hx2 : (bk.extract 0 32).size = 32 := by rw [ByteArray.size_extract]; omega
  obtain ⟨tg, htg⟩ : ∃ b : ByteArray, b = ⟨(tagT beside.data.toList hidden.data.toList).toArray⟩ := ⟨_, rfl⟩
  have htl : tg.size ≤ 1099511627776 := by rw [htg]; show (tagT _ _).length ≤ _; rw [tagT_length, ← Lib.size_eq, ← Lib.size_eq]; omega
  have HT := Lib.hid (fun W => stagged_any beside hidden W h1 h2)
  have HP := Lib.hid (fun W => ownTag_any (bk.extract 0 32) tg W hx2 htl)
  rw [hx1, show tg.data.toList = tagT beside.data.toList hidden.data.toList by rw [htg]] at HP
  rw [← hbk] at HB
  rw [← htg] at HT
  have HP2 : Hid (∀ W, Calls Tryz.prog 41 #[.string (bk.extract 0 32), .string tg] W fun e w' => e = .returned (.tuple #[.string ⟨(tagS key.data.toList nonce.data.toList beside.data.toList hidden.data.toList).toArray⟩, .int .i64 0]) ∧ Below W.heap.size W w') := HP
  clear HP hbk hx1 hx2 htg htl hbs
  generalize (⟨(tagS key.data.toList nonce.data.toList beside.data.toList hidden.data.toList).toArray⟩ : ByteArray) = r at *
  go_enter Tryz.func24, Tryz.ntmps24
  go_wp2_with fail
  refine HB.out.mono ?_
  rintro e W1 ⟨rfl, hb1⟩
  go_wp2_with fail
  refine wp_region_reads (by kernel_rfl) (by kernel_rfl) ?_
  repeat (first | go_big_quiet_step ((first | with_reducible exact Calls.regrown_of (HT.out _) | with_reducible exact Calls.regrown_of (HP2.out _))) | quiet_step ((first | with_reducible exact Calls.regrown_of (HT.out _) | with_reducible exact Calls.regrown_of (HP2.out _))))
  refine wpQuiet_nil ?_
  intro W4 hb4
  clear HT HP2 HB
  have hb5 := hb1.trans (hb4.mono hb1.size)
  clear hb1 hb4
  go_wp2_with fail
  go_ret
  exact ⟨rfl, hb5⟩

set_option maxHeartbeats 1000000 in
theorem csealKey_any (key nonce beside plain : ByteArray) (w : World) (hk : key.size ≠ 32 ∨ nonce.size ≠ 12) :
    Calls Tryz.prog 14 #[.string key, .string nonce, .string beside, .string plain] w fun e w' => e = .returned (.tuple #[.string ⟨#[]⟩, .int .i64 21]) ∧ w = w' := by
  by_cases h1 : key.size = 32
  · have d1 : ((key.size : Int) != 32) = false := by simp; omega
    have d2 : ((nonce.size : Int) != 12) = true := by simp; omega
    go_enter Tryz.func14, Tryz.ntmps14
    go_wp2_with fail
    go_ret2
    exact ⟨rfl, rfl⟩
  · have d1 : ((key.size : Int) != 32) = true := by simp; omega
    go_enter Tryz.func14, Tryz.ntmps14
    go_wp2_with fail
    go_ret2
    exact ⟨rfl, rfl⟩

theorem append_bytes3 (a : ByteArray) (l : List UInt8) : a ++ ⟨l.toArray⟩ = (⟨(a.data.toList ++ l).toArray⟩ : ByteArray) := by
  apply ByteArray.ext
  rw [ByteArray.data_append]
  simp

set_option maxHeartbeats 1000000 in
theorem cseal_any (key nonce beside plain : ByteArray) (w : World) (hk : key.size = 32) (hn : nonce.size = 12) (h1 : beside.size ≤ 1048576) (h2 : plain.size ≤ 1048576) :
    Calls Tryz.prog 14 #[.string key, .string nonce, .string beside, .string plain] w fun e w' => e = .returned (.tuple #[.string ⟨(sealS key.data.toList nonce.data.toList beside.data.toList plain.data.toList).toArray⟩, .int .i64 0]) ∧ Below w.heap.size w w' := by
  have d1 : ((key.size : Int) != 32) = false := by simp; omega
  have d2 : ((nonce.size : Int) != 12) = false := by simp; omega
  have d3 : decide ((1048576 : Int) < (beside.size : Int)) = false := by simp; omega
  have d4 : decide ((1048576 : Int) < (plain.size : Int)) = false := by simp; omega
  have HX := Lib.hid (sxored_any key nonce plain w hk hn (by omega))
  have hsl := hidS_length key.data.toList nonce.data.toList plain.data.toList
  rw [← Lib.size_eq] at hsl
  obtain ⟨hid, hhid⟩ : ∃ s : ByteArray, s = ⟨(hidS key.data.toList nonce.data.toList plain.data.toList).toArray⟩ := ⟨_, rfl⟩
  have hhs : hid.size = plain.size := by rw [hhid]; exact hsl
  have HTg := Lib.hid (fun W => stag_any key nonce beside hid W hk hn (by omega) (by omega))
  have HS : Hid (hid ++ ⟨(tagS key.data.toList nonce.data.toList beside.data.toList hid.data.toList).toArray⟩ = (⟨(sealS key.data.toList nonce.data.toList beside.data.toList plain.data.toList).toArray⟩ : ByteArray)) := Lib.hid (by rw [append_bytes3, hhid]; rfl)
  have htl : (⟨(tagS key.data.toList nonce.data.toList beside.data.toList hid.data.toList).toArray⟩ : ByteArray).size = 16 := tagS_length _ _ _ _
  rw [← hhid] at HX
  clear hhid hsl
  generalize (⟨(tagS key.data.toList nonce.data.toList beside.data.toList hid.data.toList).toArray⟩ : ByteArray) = tg at *
  have hsz : (hid.size : Int) + (tg.size : Int) ≤ 9223372036854775807 := by omega
  go_enter Tryz.func14, Tryz.ntmps14
  go_wp2_with fail
  refine HX.out.mono ?_
  rintro e W1 ⟨rfl, hb1⟩
  go_wp2_with fail
  refine (HTg.out W1).mono ?_
  rintro e W2 ⟨rfl, hb2⟩
  go_wp2_with fail
  go_ret2
  exact ⟨by rw [← HS.out]; rfl, hb1.trans (hb2.mono hb1.size)⟩

set_option maxHeartbeats 1000000 in
theorem copenKey_any (key nonce beside sealed : ByteArray) (w : World) (hk : key.size ≠ 32 ∨ nonce.size ≠ 12) :
    Calls Tryz.prog 19 #[.string key, .string nonce, .string beside, .string sealed] w fun e w' => e = .returned (.tuple #[.string ⟨#[]⟩, .int .i64 21]) ∧ w = w' := by
  by_cases h1 : key.size = 32
  · have d1 : ((key.size : Int) != 32) = false := by simp; omega
    have d2 : ((nonce.size : Int) != 12) = true := by simp; omega
    go_enter Tryz.func19, Tryz.ntmps19
    go_wp2_with fail
    go_ret2
    exact ⟨rfl, rfl⟩
  · have d1 : ((key.size : Int) != 32) = true := by simp; omega
    go_enter Tryz.func19, Tryz.ntmps19
    go_wp2_with fail
    go_ret2
    exact ⟨rfl, rfl⟩
set_option maxHeartbeats 1000000 in
theorem copenShort_any (key nonce beside sealed : ByteArray) (w : World) (hk : key.size = 32) (hn : nonce.size = 12) (hs : sealed.size < 16) :
    Calls Tryz.prog 19 #[.string key, .string nonce, .string beside, .string sealed] w fun e w' => e = .returned (.tuple #[.string ⟨#[]⟩, .int .i64 20]) ∧ w = w' := by
  have d1 : ((key.size : Int) != 32) = false := by simp; omega
  have d2 : ((nonce.size : Int) != 12) = false := by simp; omega
  have d3 : decide ((sealed.size : Int) < 16) = true := by simp; omega
  go_enter Tryz.func19, Tryz.ntmps19
  go_wp2_with fail
  go_ret2
  exact ⟨rfl, rfl⟩

set_option maxHeartbeats 1000000 in
theorem copen_any (key nonce beside sealed : ByteArray) (w : World) (hk : key.size = 32) (hn : nonce.size = 12) (h1 : beside.size ≤ 1048576) (h2 : sealed.size ≤ 1048592) (hs : 16 ≤ sealed.size) :
    Calls Tryz.prog 19 #[.string key, .string nonce, .string beside, .string sealed] w fun e w' => e = .returned (if tagOkS key.data.toList nonce.data.toList beside.data.toList sealed.data.toList then .tuple #[.string ⟨(openS key.data.toList nonce.data.toList beside.data.toList sealed.data.toList).toArray⟩, .int .i64 0] else .tuple #[.string ⟨#[]⟩, .int .i64 20]) ∧ Below w.heap.size w w' := by
  have d1 : ((key.size : Int) != 32) = false := by simp; omega
  have d2 : ((nonce.size : Int) != 12) = false := by simp; omega
  have d3 : decide ((sealed.size : Int) < 16) = false := by simp; omega
  have d4 : decide ((1048576 : Int) < (beside.size : Int)) = false := by simp; omega
  have d5 : decide ((1048592 : Int) < (sealed.size : Int)) = false := by simp; omega
  obtain ⟨n, hnn⟩ : ∃ n, n = sealed.size - 16 := ⟨_, rfl⟩
  have e1 : IntKind.i64.wrap ((sealed.size : Int) - 16) = (sealed.size : Int) - 16 := IntWalk.i64_in _ (by omega)
  have e2 : (sealed.size : Int) - 16 = (n : Int) := by omega
  have e3 : (n : Int) ≤ (sealed.size : Int) := by omega
  have ht1 : (sealed.extract 0 n).data.toList = sealed.data.toList.take (sealed.data.toList.length - 16) := by rw [Lib.extract_data, List.drop_zero, ← Lib.size_eq, hnn]; rfl
  have ht2 : (sealed.extract n sealed.size).data.toList = sealed.data.toList.drop (sealed.data.toList.length - 16) := by rw [Lib.extract_data, List.take_of_length_le (by rw [List.length_drop, ← Lib.size_eq]; exact Nat.le_refl _), ← Lib.size_eq, hnn]
  have hs1 : (sealed.extract 0 n).size = n := by rw [ByteArray.size_extract]; omega
  have hs2 : (sealed.extract n sealed.size).size = 16 := by rw [ByteArray.size_extract]; omega
  have HTg := Lib.hid (fun W => stag_any key nonce beside (sealed.extract 0 n) W hk hn (by omega) (by omega))
  have HX := Lib.hid (fun W => sxored_any key nonce (sealed.extract 0 n) W hk hn (by omega))
  have htl : (⟨(tagS key.data.toList nonce.data.toList beside.data.toList (sealed.extract 0 n).data.toList).toArray⟩ : ByteArray).size = 16 := tagS_length _ _ _ _
  have HSm := Lib.hid (fun W => gsame_any ⟨(tagS key.data.toList nonce.data.toList beside.data.toList (sealed.extract 0 n).data.toList).toArray⟩ (sealed.extract n sealed.size) W (by rw [htl]; unfold maxLen; omega) (by rw [hs2]; unfold maxLen; omega))
  have HOk : Hid (((⟨(tagS key.data.toList nonce.data.toList beside.data.toList (sealed.extract 0 n).data.toList).toArray⟩ : ByteArray).data.toList == (sealed.extract n sealed.size).data.toList) = tagOkS key.data.toList nonce.data.toList beside.data.toList sealed.data.toList) := Lib.hid (by rw [ht1, ht2]; rfl)
  have HOp : Hid ((⟨(hidS key.data.toList nonce.data.toList (sealed.extract 0 n).data.toList).toArray⟩ : ByteArray) = ⟨(openS key.data.toList nonce.data.toList beside.data.toList sealed.data.toList).toArray⟩) := Lib.hid (by rw [ht1]; rfl)
  rw [HOk.out] at HSm
  rw [HOp.out] at HX
  clear HOk HOp ht1 ht2 hs1 hs2 htl hnn
  generalize (⟨(tagS key.data.toList nonce.data.toList beside.data.toList (sealed.extract 0 n).data.toList).toArray⟩ : ByteArray) = tg at *
  generalize hok : tagOkS key.data.toList nonce.data.toList beside.data.toList sealed.data.toList = ok at *
  generalize (⟨(openS key.data.toList nonce.data.toList beside.data.toList sealed.data.toList).toArray⟩ : ByteArray) = op at *
  go_enter Tryz.func19, Tryz.ntmps19
  go_wp2_with fail
  refine wp_region_reads (by kernel_rfl) (by kernel_rfl) ?_
  repeat (first | go_big_quiet_step ((first | with_reducible exact Calls.regrown_of (HTg.out _) | with_reducible exact Calls.regrown_of (HSm.out _))) | quiet_step ((first | with_reducible exact Calls.regrown_of (HTg.out _) | with_reducible exact Calls.regrown_of (HSm.out _))))
  refine wpQuiet_nil ?_
  intro W4 hb4
  clear HTg HSm
  cases ok with
  | false =>
    go_wp2_with fail
    go_ret2
    exact ⟨rfl, hb4⟩
  | true =>
    go_wp2_with fail
    refine (HX.out W4).mono ?_
    rintro e W5 ⟨rfl, hb5⟩
    go_wp2_with fail
    go_ret2
    exact ⟨rfl, hb4.trans (hb5.mono hb4.size)⟩
end Go.Proofs.YtaodbhhdjehnnaaGreatDoor
