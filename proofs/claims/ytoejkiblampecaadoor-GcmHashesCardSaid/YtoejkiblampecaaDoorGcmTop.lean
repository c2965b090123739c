/- The program's Seal and Open. -/
import Derived.Test.YtoejkiblampecaaDoorGcmSame
namespace Go.Proofs.YtoejkiblampecaaDoor
open Go.RowKit Go.Sort
set_option maxRecDepth 100000
set_option linter.unusedSimpArgs false
set_option linter.unusedVariables false

set_option maxHeartbeats 1000000 in
theorem gsealKey_any (key nonce beside plain : ByteArray) (w : World) (hk : key.size ≠ 16 ∨ nonce.size ≠ 12) :
    Calls Tryd.prog 13 #[.string key, .string nonce, .string beside, .string plain] w fun e w' => e = .returned (.tuple #[.string ⟨#[]⟩, .int .i64 21]) ∧ w = w' := by
  by_cases h1 : key.size = 16
  · have d1 : ((key.size : Int) != 16) = false := by simp; omega
    have d2 : ((nonce.size : Int) != 12) = true := by simp; omega
    go_enter Tryd.func13, Tryd.ntmps13
    go_wp2_with fail
    go_ret2
    exact ⟨rfl, rfl⟩
  · have d1 : ((key.size : Int) != 16) = true := by simp; omega
    go_enter Tryd.func13, Tryd.ntmps13
    go_wp2_with fail
    go_ret2
    exact ⟨rfl, rfl⟩

set_option maxHeartbeats 1000000 in
theorem gseal_any (key nonce beside plain : ByteArray) (w : World) (hk : key.size = 16) (hn : nonce.size = 12) (h1 : beside.size ≤ 15000) (h2 : plain.size ≤ 15000) (hT : TabQ w) :
    Calls Tryd.prog 13 #[.string key, .string nonce, .string beside, .string plain] w fun e w' => e = .returned (.tuple #[.string ⟨(sealG key.data.toList nonce.data.toList beside.data.toList plain.data.toList).toArray⟩, .int .i64 0]) ∧ Below w.heap.size w w' := by
  have d1 : ((key.size : Int) != 16) = false := by simp; omega
  have d2 : ((nonce.size : Int) != 12) = false := by simp; omega
  have d3 : decide ((1048576 : Int) < (beside.size : Int)) = false := by simp; omega
  have d4 : decide ((1048576 : Int) < (plain.size : Int)) = false := by simp; omega
  have HX := Lib.hid (xored_any key nonce plain w hk hn h2 hT)
  have hsl := strG_length key.data.toList nonce.data.toList plain.data.toList
  rw [← Lib.size_eq] at hsl
  obtain ⟨hid, hhid⟩ : ∃ s : ByteArray, s = ⟨(strG key.data.toList nonce.data.toList plain.data.toList).toArray⟩ := ⟨_, rfl⟩
  have hhs : hid.size = plain.size := by rw [hhid]; exact hsl
  have HTg := Lib.hid (fun W hq => tag_any key nonce beside hid W hk hn (by omega) (by omega) hq)
  have HS : Hid (hid ++ ⟨(tagG key.data.toList nonce.data.toList beside.data.toList hid.data.toList).toArray⟩ = (⟨(sealG key.data.toList nonce.data.toList beside.data.toList plain.data.toList).toArray⟩ : ByteArray)) := Lib.hid (by rw [append_bytes2, hhid]; rfl)
  have htl : (⟨(tagG key.data.toList nonce.data.toList beside.data.toList hid.data.toList).toArray⟩ : ByteArray).size = 16 := tagG_length _ _ _ _
  rw [← hhid] at HX
  have HT := Lib.hid hT
  clear hhid hsl hT
  generalize (⟨(tagG key.data.toList nonce.data.toList beside.data.toList hid.data.toList).toArray⟩ : ByteArray) = tg at *
  have hsz : (hid.size : Int) + (tg.size : Int) ≤ 9223372036854775807 := by omega
  go_enter Tryd.func13, Tryd.ntmps13
  go_wp2_with fail
  refine HX.out.mono ?_
  rintro e W1 ⟨rfl, hb1⟩
  go_wp2_with fail
  refine (HTg.out W1 (HT.out.step hb1)).mono ?_
  rintro e W2 ⟨rfl, hb2⟩
  go_wp2_with fail
  go_ret2
  exact ⟨by rw [← HS.out]; rfl, hb1.trans (hb2.mono hb1.size)⟩

/-- What is opened: nothing where the tag is another one. -/
def tagOk (key nonce beside sealed : List UInt8) : Bool := tagG key nonce beside (sealed.take (sealed.length - 16)) == sealed.drop (sealed.length - 16)
def openG (key nonce beside sealed : List UInt8) : List UInt8 := strG key nonce (sealed.take (sealed.length - 16))

set_option maxHeartbeats 1000000 in
theorem gopenKey_any (key nonce beside sealed : ByteArray) (w : World) (hk : key.size ≠ 16 ∨ nonce.size ≠ 12) :
    Calls Tryd.prog 15 #[.string key, .string nonce, .string beside, .string sealed] w fun e w' => e = .returned (.tuple #[.string ⟨#[]⟩, .int .i64 21]) ∧ w = w' := by
  by_cases h1 : key.size = 16
  · have d1 : ((key.size : Int) != 16) = false := by simp; omega
    have d2 : ((nonce.size : Int) != 12) = true := by simp; omega
    go_enter Tryd.func15, Tryd.ntmps15
    go_wp2_with fail
    go_ret2
    exact ⟨rfl, rfl⟩
  · have d1 : ((key.size : Int) != 16) = true := by simp; omega
    go_enter Tryd.func15, Tryd.ntmps15
    go_wp2_with fail
    go_ret2
    exact ⟨rfl, rfl⟩
set_option maxHeartbeats 1000000 in
theorem gopenShort_any (key nonce beside sealed : ByteArray) (w : World) (hk : key.size = 16) (hn : nonce.size = 12) (hs : sealed.size < 16) :
    Calls Tryd.prog 15 #[.string key, .string nonce, .string beside, .string sealed] w fun e w' => e = .returned (.tuple #[.string ⟨#[]⟩, .int .i64 20]) ∧ w = w' := by
  have d1 : ((key.size : Int) != 16) = false := by simp; omega
  have d2 : ((nonce.size : Int) != 12) = false := by simp; omega
  have d3 : decide ((sealed.size : Int) < 16) = true := by simp; omega
  go_enter Tryd.func15, Tryd.ntmps15
  go_wp2_with fail
  go_ret2
  exact ⟨rfl, rfl⟩

set_option maxHeartbeats 1000000 in
theorem gopen_any (key nonce beside sealed : ByteArray) (w : World) (hk : key.size = 16) (hn : nonce.size = 12) (h1 : beside.size ≤ 15000) (h2 : sealed.size ≤ 15000) (hs : 16 ≤ sealed.size) (hT : TabQ w) :
    Calls Tryd.prog 15 #[.string key, .string nonce, .string beside, .string sealed] w fun e w' => e = .returned (if tagOk key.data.toList nonce.data.toList beside.data.toList sealed.data.toList then .tuple #[.string ⟨(openG key.data.toList nonce.data.toList beside.data.toList sealed.data.toList).toArray⟩, .int .i64 0] else .tuple #[.string ⟨#[]⟩, .int .i64 20]) ∧ Below w.heap.size w w' := by
  have d1 : ((key.size : Int) != 16) = false := by simp; omega
  have d2 : ((nonce.size : Int) != 12) = false := by simp; omega
  have d3 : decide ((sealed.size : Int) < 16) = false := by simp; omega
  have d4 : decide ((1048576 : Int) < (beside.size : Int)) = false := by simp; omega
  have d5 : decide ((1048592 : Int) < (sealed.size : Int)) = false := by simp; omega
  obtain ⟨n, hnn⟩ : ∃ n, n = sealed.size - 16 := ⟨_, rfl⟩
  have e1 : IntKind.i64.wrap ((sealed.size : Int) - 16) = (sealed.size : Int) - 16 := IntWalk.i64_in _ (by omega)
  have e2 : (sealed.size : Int) - 16 = (n : Int) := by omega
  have e3 : (n : Int) ≤ (sealed.size : Int) := by omega
  have ht1 : (sealed.extract 0 n).data.toList = sealed.data.toList.take (sealed.data.toList.length - 16) := by rw [Lib.extract_data, List.drop_zero, ← Lib.size_eq, hnn]; rfl
  have ht2 : (sealed.extract n sealed.size).data.toList = sealed.data.toList.drop (sealed.data.toList.length - 16) := by rw [Lib.extract_data, List.take_of_length_le (by rw [List.length_drop, ← Lib.size_eq]; exact Nat.le_refl _), ← Lib.size_eq, hnn]
  have hs1 : (sealed.extract 0 n).size = n := by rw [ByteArray.size_extract]; omega
  have hs2 : (sealed.extract n sealed.size).size = 16 := by rw [ByteArray.size_extract]; omega
  have HTg := Lib.hid (fun W hq => tag_any key nonce beside (sealed.extract 0 n) W hk hn (by omega) (by omega) hq)
  have HX := Lib.hid (fun W hq => xored_any key nonce (sealed.extract 0 n) W hk hn (by omega) hq)
  have htl : (⟨(tagG key.data.toList nonce.data.toList beside.data.toList (sealed.extract 0 n).data.toList).toArray⟩ : ByteArray).size = 16 := tagG_length _ _ _ _
  have HSm := Lib.hid (fun W => gsame_any ⟨(tagG key.data.toList nonce.data.toList beside.data.toList (sealed.extract 0 n).data.toList).toArray⟩ (sealed.extract n sealed.size) W (by rw [htl]; unfold maxLen; omega) (by rw [hs2]; unfold maxLen; omega))
  have HOk : Hid (((⟨(tagG key.data.toList nonce.data.toList beside.data.toList (sealed.extract 0 n).data.toList).toArray⟩ : ByteArray).data.toList == (sealed.extract n sealed.size).data.toList) = tagOk key.data.toList nonce.data.toList beside.data.toList sealed.data.toList) := Lib.hid (by rw [ht1, ht2]; rfl)
  have HOp : Hid ((⟨(strG key.data.toList nonce.data.toList (sealed.extract 0 n).data.toList).toArray⟩ : ByteArray) = ⟨(openG key.data.toList nonce.data.toList beside.data.toList sealed.data.toList).toArray⟩) := Lib.hid (by rw [ht1]; rfl)
  rw [HOk.out] at HSm
  rw [HOp.out] at HX
  have HT := Lib.hid hT
  clear HOk HOp ht1 ht2 hs1 hs2 htl hT hnn
  generalize (⟨(tagG key.data.toList nonce.data.toList beside.data.toList (sealed.extract 0 n).data.toList).toArray⟩ : ByteArray) = tg at *
  generalize hok : tagOk key.data.toList nonce.data.toList beside.data.toList sealed.data.toList = ok at *
  generalize (⟨(openG key.data.toList nonce.data.toList beside.data.toList sealed.data.toList).toArray⟩ : ByteArray) = op at *
  go_enter Tryd.func15, Tryd.ntmps15
  go_wp2_with fail
  refine wp_region_reads (by kernel_rfl) (by kernel_rfl) ?_
  repeat (first | go_big_quiet_step ((first | with_reducible exact Calls.regrown_of (HTg.out _ (HT.out.step (below_regrown _ _ _))) | with_reducible exact Calls.regrown_of (HSm.out _))) | quiet_step ((first | with_reducible exact Calls.regrown_of (HTg.out _ (HT.out.step (below_regrown _ _ _))) | with_reducible exact Calls.regrown_of (HSm.out _))))
  refine wpQuiet_nil ?_
  intro W4 hb4
  have HT4 := Lib.hid (HT.out.step hb4)
  clear HTg HSm
  cases ok with
  | false =>
    go_wp2_with fail
    go_ret2
    exact ⟨rfl, hb4⟩
  | true =>
    go_wp2_with fail
    refine (HX.out W4 HT4.out).mono ?_
    rintro e W5 ⟨rfl, hb5⟩
    go_wp2_with fail
    go_ret2
    exact ⟨rfl, hb4.trans (hb5.mono hb4.size)⟩
end Go.Proofs.YtoejkiblampecaaDoor
