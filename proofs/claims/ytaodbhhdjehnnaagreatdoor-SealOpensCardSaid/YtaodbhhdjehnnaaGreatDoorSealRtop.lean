/- The reference's Seal and Open of chapter 7, by whatever suite. -/
import Derived.Test.YtaodbhhdjehnnaaGreatDoorSealRef
import Derived.Test.YtaodbhhdjehnnaaGreatDoorChaR
namespace Go.Proofs.YtaodbhhdjehnnaaGreatDoor
open Go.RowKit Go.Sort
set_option maxRecDepth 100000
set_option linter.unusedSimpArgs false
set_option linter.unusedVariables false

theorem rgsealO_any (key nonce beside plain : ByteArray) (w : World) (h1 : beside.size ≤ 15000) (h2 : plain.size ≤ 15000) :
    Calls Tryz.prog 15 #[.string key, .string nonce, .string beside, .string plain] w fun e w' => e = ansO (sealO 4865 key nonce beside plain) ∧ Below w.heap.size w w' := by
  by_cases h : key.size = 16 ∧ nonce.size = 12
  · rw [sealO, if_pos rfl, if_pos h]; exact rSeal_any key nonce beside plain w h.1 h.2 h1 h2
  · rw [sealO, if_pos rfl, if_neg h]; exact below_eq (rSealKey_any key nonce beside plain w (by omega))
theorem rgopenO_any (key nonce beside sealed : ByteArray) (w : World) (h1 : beside.size ≤ 15000) (h2 : sealed.size ≤ 15000) :
    Calls Tryz.prog 20 #[.string key, .string nonce, .string beside, .string sealed] w fun e w' => e = ansO (openO 4865 key nonce beside sealed) ∧ Below w.heap.size w w' := by
  by_cases h : key.size = 16 ∧ nonce.size = 12
  · by_cases hs : sealed.size < 16
    · rw [openO, if_pos rfl, if_pos h, if_pos hs]; exact below_eq (rOpenShort_any key nonce beside sealed w h.1 h.2 hs)
    · rw [openO, if_pos rfl, if_pos h, if_neg hs, ← ite_ans _ _ _ rfl]; exact rOpen_any key nonce beside sealed w h.1 h.2 h1 h2 (by omega)
  · rw [openO, if_pos rfl, if_neg h]; exact below_eq (rOpenKey_any key nonce beside sealed w (by omega))
theorem refXorS (key nonce text : ByteArray) (w : World) (hk : key.size = 32) (hn : nonce.size = 12) (hs : text.size ≤ 1073741824) :
    Calls Tryz.prog 16 #[.string key, .string nonce, .int .i64 1, .string text] w fun e w' => e = .returned (.tuple #[.string ⟨(hidS key.data.toList nonce.data.toList text.data.toList).toArray⟩, .int .i64 0]) ∧ Below w.heap.size w w' := by
  have HX := refXor_any key nonce 1 text w hk hn (by omega) hs (by omega)
  rw [show chaX key.data.toList nonce.data.toList 1 text.data.toList text.size = hidS key.data.toList nonce.data.toList text.data.toList from by rw [hidS, Lib.size_eq]] at HX
  exact HX

set_option maxHeartbeats 2000000 in
theorem rsealO_any (suite : Int) (key nonce beside plain : ByteArray) (w : World) (h1 : beside.size ≤ 15000) (h2 : plain.size ≤ 15000) :
    Calls Tryz.prog 8 #[.int .i64 suite, .string key, .string nonce, .string beside, .string plain] w fun e w' => e = ansO (sealO suite key nonce beside plain) ∧ Below w.heap.size w w' := by
  by_cases hs1 : suite = 4865
  · subst hs1
    have HG := Lib.hid (rgsealO_any key nonce beside plain w h1 h2)
    unfold ansO at HG ⊢
    generalize sealO 4865 key nonce beside plain = x at *
    obtain ⟨x1, x2⟩ := x
    go_enter Tryz.func8, Tryz.ntmps8
    go_wp2_with fail
    refine HG.out.mono ?_
    rintro e W1 ⟨rfl, hb1⟩
    go_wp2_with fail
    go_ret2
    exact ⟨rfl, hb1⟩
  · have d1 : (suite == 4865) = false := by simpa using hs1
    by_cases hs2 : suite = 4867
    · subst hs2
      clear hs1 d1
      by_cases hg : key.size = 32 ∧ nonce.size = 12
      · rw [sealO, if_neg (by decide), if_pos rfl, if_pos hg]
        obtain ⟨hk, hn⟩ := hg
        have d1 : ((key.size : Int) != 32) = false := by simp; omega
        have d2 : ((nonce.size : Int) != 12) = false := by simp; omega
        have d3 : decide ((1048576 : Int) < (beside.size : Int)) = false := by simp; omega
        have d4 : decide ((1048576 : Int) < (plain.size : Int)) = false := by simp; omega
        have HX := Lib.hid (refXorS key nonce plain w hk hn (by omega))
        have hsl := hidS_length key.data.toList nonce.data.toList plain.data.toList
        rw [← Lib.size_eq] at hsl
        obtain ⟨hid, hhid⟩ : ∃ s : ByteArray, s = ⟨(hidS key.data.toList nonce.data.toList plain.data.toList).toArray⟩ := ⟨_, rfl⟩
        have hhs : hid.size = plain.size := by rw [hhid]; exact hsl
        have HTg := Lib.hid (fun W => rtagS_any key nonce beside hid W hk hn (by omega) (by omega))
        have HS : Hid (hid ++ ⟨(tagS key.data.toList nonce.data.toList beside.data.toList hid.data.toList).toArray⟩ = (⟨(sealS key.data.toList nonce.data.toList beside.data.toList plain.data.toList).toArray⟩ : ByteArray)) := Lib.hid (by rw [append_bytes3, hhid]; rfl)
        have htl : (⟨(tagS key.data.toList nonce.data.toList beside.data.toList hid.data.toList).toArray⟩ : ByteArray).size = 16 := tagS_length _ _ _ _
        rw [← hhid] at HX
        clear hhid hsl
        generalize (⟨(tagS key.data.toList nonce.data.toList beside.data.toList hid.data.toList).toArray⟩ : ByteArray) = tg at *
        have hsz : (hid.size : Int) + (tg.size : Int) ≤ 9223372036854775807 := by omega
        go_enter Tryz.func8, Tryz.ntmps8
        go_wp2_with fail
        refine HX.out.mono ?_
        rintro e W1 ⟨rfl, hb1⟩
        go_wp2_with fail
        refine (HTg.out W1).mono ?_
        rintro e W2 ⟨rfl, hb2⟩
        go_wp2_with fail
        go_ret2
        exact ⟨by rw [← HS.out]; rfl, hb1.trans (hb2.mono hb1.size)⟩
      · rw [sealO, if_neg (by decide), if_pos rfl, if_neg hg]
        by_cases hk : key.size = 32
        · have d1 : ((key.size : Int) != 32) = false := by simp; omega
          have d2 : ((nonce.size : Int) != 12) = true := by simp; omega
          clear hg hk
          go_enter Tryz.func8, Tryz.ntmps8
          go_wp2_with fail
          go_ret2
          exact ⟨rfl, Below.refl _ _⟩
        · have d1 : ((key.size : Int) != 32) = true := by simp; omega
          clear hg hk
          go_enter Tryz.func8, Tryz.ntmps8
          go_wp2_with fail
          go_ret2
          exact ⟨rfl, Below.refl _ _⟩
    · have d2 : (suite != 4867) = true := by simpa using hs2
      rw [sealO, if_neg hs1, if_neg hs2]
      clear hs1 hs2
      go_enter Tryz.func8, Tryz.ntmps8
      go_wp2_with fail
      go_ret2
      exact ⟨rfl, Below.refl _ _⟩

set_option maxHeartbeats 2000000 in
theorem ropenO_any (suite : Int) (key nonce beside sealed : ByteArray) (w : World) (h1 : beside.size ≤ 15000) (h2 : sealed.size ≤ 15000) :
    Calls Tryz.prog 10 #[.int .i64 suite, .string key, .string nonce, .string beside, .string sealed] w fun e w' => e = ansO (openO suite key nonce beside sealed) ∧ Below w.heap.size w w' := by
  by_cases hs1 : suite = 4865
  · subst hs1
    have HG := Lib.hid (rgopenO_any key nonce beside sealed w h1 h2)
    unfold ansO at HG ⊢
    generalize openO 4865 key nonce beside sealed = x at *
    obtain ⟨x1, x2⟩ := x
    go_enter Tryz.func10, Tryz.ntmps10
    go_wp2_with fail
    refine HG.out.mono ?_
    rintro e W1 ⟨rfl, hb1⟩
    go_wp2_with fail
    go_ret2
    exact ⟨rfl, hb1⟩
  · have d1 : (suite == 4865) = false := by simpa using hs1
    by_cases hs2 : suite = 4867
    · subst hs2
      clear hs1 d1
      by_cases hg : key.size = 32 ∧ nonce.size = 12
      · rw [openO, if_neg (by decide), if_pos rfl, if_pos hg]
        obtain ⟨hk, hn⟩ := hg
        have d1 : ((key.size : Int) != 32) = false := by simp; omega
        have d2 : ((nonce.size : Int) != 12) = false := by simp; omega
        by_cases hs : sealed.size < 16
        · rw [if_pos hs]
          have d3 : decide ((sealed.size : Int) < 16) = true := by simp; omega
          go_enter Tryz.func10, Tryz.ntmps10
          go_wp2_with fail
          go_ret2
          exact ⟨rfl, Below.refl _ _⟩
        · rw [if_neg hs, ← ite_ans _ _ _ rfl]
          have d3 : decide ((sealed.size : Int) < 16) = false := by simp; omega
          have d4 : decide ((1048576 : Int) < (beside.size : Int)) = false := by simp; omega
          have d5 : decide ((1048592 : Int) < (sealed.size : Int)) = false := by simp; omega
          obtain ⟨n, hnn⟩ : ∃ n, n = sealed.size - 16 := ⟨_, rfl⟩
          have e1 : IntKind.i64.wrap ((sealed.size : Int) - 16) = (sealed.size : Int) - 16 := IntWalk.i64_in _ (by omega)
          have e2 : (sealed.size : Int) - 16 = (n : Int) := by omega
          have e3 : (n : Int) ≤ (sealed.size : Int) := by omega
          have ht1 : (sealed.extract 0 n).data.toList = sealed.data.toList.take (sealed.data.toList.length - 16) := by rw [Lib.extract_data, List.drop_zero, ← Lib.size_eq, hnn]; rfl
          have ht2 : (sealed.extract n sealed.size).data.toList = sealed.data.toList.drop (sealed.data.toList.length - 16) := by rw [Lib.extract_data, List.take_of_length_le (by rw [List.length_drop, ← Lib.size_eq]; exact Nat.le_refl _), ← Lib.size_eq, hnn]
          have hs1 : (sealed.extract 0 n).size = n := by rw [ByteArray.size_extract]; omega
          have HTg := Lib.hid (fun W => rtagS_any key nonce beside (sealed.extract 0 n) W hk hn (by omega) (by omega))
          have HX := Lib.hid (fun W => refXorS key nonce (sealed.extract 0 n) W hk hn (by omega))
          have hok0 : ((⟨(tagS key.data.toList nonce.data.toList beside.data.toList (sealed.extract 0 n).data.toList).toArray⟩ : ByteArray).toList == (sealed.extract n sealed.size).toList) = tagOkS key.data.toList nonce.data.toList beside.data.toList sealed.data.toList := by
            rw [Lib.toList_data, Lib.toList_data, ht2, ht1]; rfl
          have HOp : Hid ((⟨(hidS key.data.toList nonce.data.toList (sealed.extract 0 n).data.toList).toArray⟩ : ByteArray) = ⟨(openS key.data.toList nonce.data.toList beside.data.toList sealed.data.toList).toArray⟩) := Lib.hid (by rw [ht1]; rfl)
          rw [HOp.out] at HX
          clear HOp ht1 ht2 hs1 hnn hs
          generalize (⟨(tagS key.data.toList nonce.data.toList beside.data.toList (sealed.extract 0 n).data.toList).toArray⟩ : ByteArray) = tg at *
          generalize hok : tagOkS key.data.toList nonce.data.toList beside.data.toList sealed.data.toList = ok at *
          generalize (⟨(openS key.data.toList nonce.data.toList beside.data.toList sealed.data.toList).toArray⟩ : ByteArray) = op at *
          go_enter Tryz.func10, Tryz.ntmps10
          go_wp2_with fail
          refine wp_region_reads (by kernel_rfl) (by kernel_rfl) ?_
          repeat (first | go_big_quiet_step (with_reducible exact Calls.regrown_of (HTg.out _)) | quiet_step (with_reducible exact Calls.regrown_of (HTg.out _)))
          refine wpQuiet_nil ?_
          intro W4 hb4
          clear HTg
          cases ok with
          | false =>
            go_wp2_with fail
            go_ret2
            exact ⟨rfl, hb4⟩
          | true =>
            go_wp2_with fail
            refine (HX.out W4).mono ?_
            rintro e W5 ⟨rfl, hb5⟩
            go_wp2_with fail
            go_ret2
            exact ⟨rfl, hb4.trans (hb5.mono hb4.size)⟩
      · rw [openO, if_neg (by decide), if_pos rfl, if_neg hg]
        by_cases hk : key.size = 32
        · have d1 : ((key.size : Int) != 32) = false := by simp; omega
          have d2 : ((nonce.size : Int) != 12) = true := by simp; omega
          clear hg hk
          go_enter Tryz.func10, Tryz.ntmps10
          go_wp2_with fail
          go_ret2
          exact ⟨rfl, Below.refl _ _⟩
        · have d1 : ((key.size : Int) != 32) = true := by simp; omega
          clear hg hk
          go_enter Tryz.func10, Tryz.ntmps10
          go_wp2_with fail
          go_ret2
          exact ⟨rfl, Below.refl _ _⟩
    · have d2 : (suite != 4867) = true := by simpa using hs2
      rw [openO, if_neg hs1, if_neg hs2]
      clear hs1 hs2
      go_enter Tryz.func10, Tryz.ntmps10
      go_wp2_with fail
      go_ret2
      exact ⟨rfl, Below.refl _ _⟩
end Go.Proofs.YtaodbhhdjehnnaaGreatDoor
