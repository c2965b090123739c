/- The reference's filled, long, tag, Seal and Open of chapter 7; The reference's Seal and Open of chapter 7, by whatever suite. -/
import Derived.Test.YtffnafikegakcaaGreatDoorSealA
import Derived.Test.YtffnafikegakcaaGreatDoorGcmR
import Derived.Test.YtffnafikegakcaaGreatDoorChaR
namespace Go.Proofs.YtffnafikegakcaaGreatDoor
section
open Go.RowKit Go.Sort
set_option maxRecDepth 100000
set_option linter.unusedSimpArgs false
set_option linter.unusedVariables false

set_option maxHeartbeats 1000000 in
theorem rfilledS0_any (s : ByteArray) (w : World) (hs : s.size ≤ 1099511627776) :
    Calls Tryz.prog 53 #[.string s] w fun e w' => e = .returned (.string ⟨(padG s.data.toList).toArray⟩) ∧ w = w' := by
  go_enter Tryz.func53, Tryz.ntmps53
  go_wp2_with fail
  go_loopw [0] (fun v wr => ∃ c : ByteArray, v = .string c ∧ c.size ≤ 1099511627776 + 16 ∧ (c.size ≤ (s.size + 15) / 16 * 16) ∧ Hid (padG c.data.toList = padG s.data.toList) ∧ w = wr) (fun v _ => (match v with | .string c => (s.size + 15) / 16 * 16 - c.size | _ => 0))
  case atStart => exact ⟨s, rfl, by omega, by omega, Lib.hid rfl, rfl⟩
  case round =>
    obtain ⟨c, rfl, hc1, hc2, HC, rfl⟩ := hrel
    by_cases h : c.size % 16 = 0
    · have hd2 : (((c.size : Int) % 16) != 0) = false := by simp; omega
      go_wp2_with fail
      go_ret
      exact ⟨by rw [← HC.out, padG_full _ (by rw [← Lib.size_eq]; exact h)]; rfl, by first | rfl | trivial⟩
    · have hd2 : (((c.size : Int) % 16) != 0) = true := by simp; omega
      have hz : (c ++ (⟨#[0]⟩ : ByteArray)).size = c.size + 1 := by rw [ByteArray.size_append]; rfl
      have HZ : Hid (padG (c ++ (⟨#[0]⟩ : ByteArray)).data.toList = padG s.data.toList) := Lib.hid (by
        rw [← HC.out, ByteArray.data_append, Array.toList_append]
        exact padG_snoc _ (by rw [← Lib.size_eq]; exact h))
      go_wp2_with fail
      go_roundw
      case rel => exact ⟨_, rfl, by omega, by omega, HZ, by first | rfl | trivial⟩
      case measure => show _ - (c ++ (⟨#[0]⟩ : ByteArray)).size < _ - c.size; omega
theorem rfilledS_any (s : ByteArray) (w : World) (hs : s.size ≤ 1099511627776) :
    Calls Tryz.prog 53 #[.string s] w fun e w' => e = .returned (.string ⟨(padG s.data.toList).toArray⟩) ∧ Below w.heap.size w w' := below_eq (rfilledS0_any s w hs)

set_option maxHeartbeats 1000000 in
theorem rlongS_any (n : Nat) (w : World) (hn : n < 1099511627776) :
    Calls Tryz.prog 54 #[.int .i64 (n : Int)] w fun e w' => e = .returned (.string ⟨(lenS n).toArray⟩) ∧ Below w.heap.size w w' := by
  obtain ⟨i0, hi, hz0, hz1, hz2⟩ := info_parts info_u8
  go_enter Tryz.func54, Tryz.ntmps54
  go_wp2_with fail
  generalize hBB : w.heap.size = B at *
  have HBB := Lib.hid hBB
  have hszB : B ≤ w.heap.size := by omega
  clear hBB
  go_loopw [3, 4] (fun v i wr => ∃ (k : Nat) (ao : Option Addr) (cp : Nat), k ≤ 8 ∧ i = .int .i64 (k : Int) ∧ v = .slice ao k cp ∧ Own wr B (.slice ao k cp) (Lib.byteCells (genL (fun i => (lenS n).getD i 0) k)) ∧ Below B w wr ∧ B ≤ wr.heap.size) (fun _ i _ => 8 - (intOf i).toNat)
  case atStart => exact ⟨0, none, 0, by omega, rfl, rfl, Own.nil _ _, Below.refl _ _, hszB⟩
  case round =>
    obtain ⟨k, ao, cp, hk, rfl, rfl, hown, hb, hsz⟩ := hrel
    have HO := Lib.hid hown
    have HL := Lib.hid (bcs_length _ _ (genL_length (fun i => (lenS n).getD i 0) k))
    clear hown
    by_cases hlt : k < 8
    · have hd : decide ((k : Int) < 8) = true := by simp; omega
      have HN := Lib.hid (show Lib.byteCells (genL (fun i => (lenS n).getD i 0) k) ++ [.int .u8 (((lenS n).getD k 0).toNat : Int)] = Lib.byteCells (genL (fun i => (lenS n).getD i 0) (k + 1)) from by rw [bcs_snoc, genL_succ])
      have HV : Hid ((n : Int) / 2 ^ (8 * k) % 256 = (((lenS n).getD k 0).toNat : Int)) := Lib.hid (by rw [lenS_getD n k hlt, wbyte_toNat])
      have e1 : (8 * (k : Int)).toNat = 8 * k := by omega
      have e2 : (0 : Int) ≤ 8 * (k : Int) := by omega
      have b0 := HO.out.alloc (.cells #[.int .u8 ((n : Int) / 2 ^ (8 * k) % 256)] 5)
      have HOA := Lib.hid b0
      clear b0
      generalize Lib.byteCells (genL (fun i => (lenS n).getD i 0) k) = cu at *
      go_wp2_with (at_builtin; refine wpList_append_sl rfl (.tmp 9) (.tmp 15) 46 rfl B 5 i0 (.int .u8 0) 1 Tryz.underlying46 hi hz0 hz1 hz2 rfl ao k cp _ rfl HOA.out HL.out ⟨wr.heap.size, 0, none⟩ 1 1 [.int .u8 _] rfl rfl (cell_one_new _ _ _) ?b2 ?b3 ?b4 ?b5 ?_)
      case b2 => intro u hu; simp at hu; subst hu; rfl
      case b3 => omega
      case b4 => omega
      case b5 => simp; omega
      intro ao5 cp5 W5 hown5 hgrow5
      have hb5 : Below B w W5 := below_append (hb.alloc hsz _) (by simp; omega) HOA.out hgrow5
      have hsz5 : B ≤ W5.heap.size := by have := hgrow5.size; simp at this; omega
      rw [HV.out, HN.out] at hown5
      clear hgrow5 HO HOA hb hsz
      go_wp2_with fail
      go_roundw
      case rel => exact ⟨k + 1, ao5, cp5, by omega, by go_num, rfl, hown5, hb5, hsz5⟩
      case measure => simp [intOf]; omega
    · have hd : decide ((k : Int) < 8) = false := by simp; omega
      obtain rfl : k = 8 := by omega
      obtain ⟨G, rfl, hG⟩ := own_bytes HO.out (genL_length _ _) (by omega)
      rw [show genL (fun i => (lenS n).getD i 0) 8 = lenS n from bytes_ext (genL_length _ _) (lenS_length n) fun i hi => by rw [genL, range_getD _ _ _ hi]] at hG
      have hl := lenS_length n
      have hcv := run_string_at wr G 0 cp 8 (lenS n) hl (fun j x hx => by
        have hj : j < 8 := by have := (List.getElem?_eq_some_iff.1 hx).1; omega
        rw [Nat.zero_add, hG j hj, List.getD_eq_getElem?_getD, hx]; rfl)
      clear hG hl HO HL
      go_wp2_with fail
      go_ret
      exact ⟨rfl, by rw [HBB.out]; exact hb⟩

theorem tagT_bytes (b h : ByteArray) : (⟨(padG b.data.toList).toArray⟩ : ByteArray) ++ ⟨(padG h.data.toList).toArray⟩ ++ ⟨(lenS b.size).toArray⟩ ++ ⟨(lenS h.size).toArray⟩ = (⟨(tagT b.data.toList h.data.toList).toArray⟩ : ByteArray) := by
  apply ByteArray.ext
  simp only [ByteArray.data_append]
  apply Array.ext'
  simp only [Array.toList_append, List.toList_toArray, tagT, ← Lib.size_eq, List.append_assoc]

set_option maxHeartbeats 2000000 in
theorem rtagS_any (key nonce beside hidden : ByteArray) (w : World) (hk : key.size = 32) (hn : nonce.size = 12) (h1 : beside.size ≤ 500000) (h2 : hidden.size ≤ 500000) :
    Calls Tryz.prog 37 #[.string key, .string nonce, .string beside, .string hidden] w fun e w' => e = .returned (.string ⟨(tagS key.data.toList nonce.data.toList beside.data.toList hidden.data.toList).toArray⟩) ∧ Below w.heap.size w w' := by
  have HB := Lib.hid (refBlock_any key nonce 0 w hk hn (by omega))
  obtain ⟨bk, hbk⟩ : ∃ b : ByteArray, b = ⟨(chaB key.data.toList nonce.data.toList 0).toArray⟩ := ⟨_, rfl⟩
  have hbs : bk.size = 64 := by rw [hbk]; exact chaB_length _ _ _
  have h32 : (32 : Int) ≤ (bk.size : Int) := by omega
  have hx1 : (bk.extract 0 32).data.toList = (chaB key.data.toList nonce.data.toList 0).take 32 := by rw [Lib.extract_data, hbk]; rfl
  have hx2 : (bk.extract 0 32).size = 32 := by rw [ByteArray.size_extract]; omega
  have HE := Lib.hid (tagT_bytes beside hidden)
  have HF1 := Lib.hid (fun W => rfilledS_any beside W (by omega))
  have HF2 := Lib.hid (fun W => rfilledS_any hidden W (by omega))
  have HL1 := Lib.hid (fun W => rlongS_any beside.size W (by omega))
  have HL2 := Lib.hid (fun W => rlongS_any hidden.size W (by omega))
  have z1 : (⟨(padG beside.data.toList).toArray⟩ : ByteArray).size ≤ 500016 := by show (padG _).length ≤ _; rw [padG_length, ← Lib.size_eq]; omega
  have z2 : (⟨(padG hidden.data.toList).toArray⟩ : ByteArray).size ≤ 500016 := by show (padG _).length ≤ _; rw [padG_length, ← Lib.size_eq]; omega
  have z3 : (⟨(lenS beside.size).toArray⟩ : ByteArray).size = 8 := lenS_length _
  have z4 : (⟨(lenS hidden.size).toArray⟩ : ByteArray).size = 8 := lenS_length _
  obtain ⟨tg, htg⟩ : ∃ b : ByteArray, b = ⟨(tagT beside.data.toList hidden.data.toList).toArray⟩ := ⟨_, rfl⟩
  have htl : tg.size ≤ 1048576 := by rw [htg]; show (tagT _ _).length ≤ _; rw [tagT_length, ← Lib.size_eq, ← Lib.size_eq]; omega
  have HP := Lib.hid (fun W => refTag_any (bk.extract 0 32) tg W hx2 htl)
  rw [hx1, show tg.data.toList = tagT beside.data.toList hidden.data.toList by rw [htg]] at HP
  rw [← hbk] at HB
  rw [← htg] at HE
  have HP2 : Hid (∀ W, Calls Tryz.prog 52 #[.string (bk.extract 0 32), .string tg] W fun e w' => e = .returned (.tuple #[.string ⟨(tagS key.data.toList nonce.data.toList beside.data.toList hidden.data.toList).toArray⟩, .int .i64 0]) ∧ Below W.heap.size W w') := HP
  clear HP hbk hx1 hx2 htg htl hbs
  generalize (⟨(tagS key.data.toList nonce.data.toList beside.data.toList hidden.data.toList).toArray⟩ : ByteArray) = r at *
  generalize (⟨(padG beside.data.toList).toArray⟩ : ByteArray) = f1 at *
  generalize (⟨(padG hidden.data.toList).toArray⟩ : ByteArray) = f2 at *
  generalize (⟨(lenS beside.size).toArray⟩ : ByteArray) = l1 at *
  generalize (⟨(lenS hidden.size).toArray⟩ : ByteArray) = l2 at *
  have q2 : (f1 ++ f2).size ≤ 1000032 := by rw [ByteArray.size_append]; omega
  have q3 : (f1 ++ f2 ++ l1).size ≤ 1000040 := by rw [ByteArray.size_append]; omega
  rw [← HE.out] at HP2
  clear HE
  go_enter Tryz.func37, Tryz.ntmps37
  go_wp2_with fail
  refine HB.out.mono ?_
  rintro e W1 ⟨rfl, hb1⟩
  go_wp2_with fail
  refine wp_region_reads (by kernel_rfl) (by kernel_rfl) ?_
  repeat (first | go_big_quiet_step ((first | with_reducible exact Calls.regrown_of (HF1.out _) | with_reducible exact Calls.regrown_of (HF2.out _) | with_reducible exact Calls.regrown_of (HL1.out _) | with_reducible exact Calls.regrown_of (HL2.out _) | with_reducible exact Calls.regrown_of (HP2.out _))) | quiet_step ((first | with_reducible exact Calls.regrown_of (HF1.out _) | with_reducible exact Calls.regrown_of (HF2.out _) | with_reducible exact Calls.regrown_of (HL1.out _) | with_reducible exact Calls.regrown_of (HL2.out _) | with_reducible exact Calls.regrown_of (HP2.out _))))
  refine wpQuiet_nil ?_
  intro W4 hb4
  clear HF1 HF2 HL1 HL2 HP2 HB
  have hb5 := hb1.trans (hb4.mono hb1.size)
  clear hb1 hb4
  go_wp2_with fail
  go_ret
  exact ⟨rfl, hb5⟩
end

section
open Go.RowKit Go.Sort
set_option maxRecDepth 100000
set_option linter.unusedSimpArgs false
set_option linter.unusedVariables false

theorem rgsealO_any (key nonce beside plain : ByteArray) (w : World) (h1 : beside.size ≤ 20000) (h2 : plain.size ≤ 20000) :
    Calls Tryz.prog 35 #[.string key, .string nonce, .string beside, .string plain] w fun e w' => e = ansO (sealO 4865 key nonce beside plain) ∧ Below w.heap.size w w' := by
  by_cases h : key.size = 16 ∧ nonce.size = 12
  · rw [sealO, if_pos rfl, if_pos h]; exact rSeal_any key nonce beside plain w h.1 h.2 h1 h2
  · rw [sealO, if_pos rfl, if_neg h]; exact below_eq (rSealKey_any key nonce beside plain w (by omega))
theorem rgopenO_any (key nonce beside sealed : ByteArray) (w : World) (h1 : beside.size ≤ 20000) (h2 : sealed.size ≤ 20000) :
    Calls Tryz.prog 47 #[.string key, .string nonce, .string beside, .string sealed] w fun e w' => e = ansO (openO 4865 key nonce beside sealed) ∧ Below w.heap.size w w' := by
  by_cases h : key.size = 16 ∧ nonce.size = 12
  · by_cases hs : sealed.size < 16
    · rw [openO, if_pos rfl, if_pos h, if_pos hs]; exact below_eq (rOpenShort_any key nonce beside sealed w h.1 h.2 hs)
    · rw [openO, if_pos rfl, if_pos h, if_neg hs, ← ite_ans _ _ _ rfl]; exact rOpen_any key nonce beside sealed w h.1 h.2 h1 h2 (by omega)
  · rw [openO, if_pos rfl, if_neg h]; exact below_eq (rOpenKey_any key nonce beside sealed w (by omega))
theorem refXorS (key nonce text : ByteArray) (w : World) (hk : key.size = 32) (hn : nonce.size = 12) (hs : text.size ≤ 1073741824) :
    Calls Tryz.prog 36 #[.string key, .string nonce, .int .i64 1, .string text] w fun e w' => e = .returned (.tuple #[.string ⟨(hidS key.data.toList nonce.data.toList text.data.toList).toArray⟩, .int .i64 0]) ∧ Below w.heap.size w w' := by
  have HX := refXor_any key nonce 1 text w hk hn (by omega) hs (by omega)
  rw [show chaX key.data.toList nonce.data.toList 1 text.data.toList text.size = hidS key.data.toList nonce.data.toList text.data.toList from by rw [hidS, Lib.size_eq]] at HX
  exact HX

set_option maxHeartbeats 2000000 in
theorem rsealO_any (suite : Int) (key nonce beside plain : ByteArray) (w : World) (h1 : beside.size ≤ 20000) (h2 : plain.size ≤ 20000) :
    Calls Tryz.prog 16 #[.int .i64 suite, .string key, .string nonce, .string beside, .string plain] w fun e w' => e = ansO (sealO suite key nonce beside plain) ∧ Below w.heap.size w w' := by
  by_cases hs1 : suite = 4865
  · subst hs1
    have HG := Lib.hid (rgsealO_any key nonce beside plain w h1 h2)
    unfold ansO at HG ⊢
    generalize sealO 4865 key nonce beside plain = x at *
    obtain ⟨x1, x2⟩ := x
    go_enter Tryz.func16, Tryz.ntmps16
    go_wp2_with fail
    refine HG.out.mono ?_
    rintro e W1 ⟨rfl, hb1⟩
    go_wp2_with fail
    go_ret2
    exact ⟨rfl, hb1⟩
  · have d1 : (suite == 4865) = false := by simpa using hs1
    by_cases hs2 : suite = 4867
    · subst hs2
      clear hs1 d1
      by_cases hg : key.size = 32 ∧ nonce.size = 12
      · rw [sealO, if_neg (by decide), if_pos rfl, if_pos hg]
        obtain ⟨hk, hn⟩ := hg
        have d1 : ((key.size : Int) != 32) = false := by simp; omega
        have d2 : ((nonce.size : Int) != 12) = false := by simp; omega
        have d3 : decide ((1048576 : Int) < (beside.size : Int)) = false := by simp; omega
        have d4 : decide ((1048576 : Int) < (plain.size : Int)) = false := by simp; omega
        have HX := Lib.hid (refXorS key nonce plain w hk hn (by omega))
        have hsl := hidS_length key.data.toList nonce.data.toList plain.data.toList
        rw [← Lib.size_eq] at hsl
        obtain ⟨hid, hhid⟩ : ∃ s : ByteArray, s = ⟨(hidS key.data.toList nonce.data.toList plain.data.toList).toArray⟩ := ⟨_, rfl⟩
        have hhs : hid.size = plain.size := by rw [hhid]; exact hsl
        have HTg := Lib.hid (fun W => rtagS_any key nonce beside hid W hk hn (by omega) (by omega))
        have HS : Hid (hid ++ ⟨(tagS key.data.toList nonce.data.toList beside.data.toList hid.data.toList).toArray⟩ = (⟨(sealS key.data.toList nonce.data.toList beside.data.toList plain.data.toList).toArray⟩ : ByteArray)) := Lib.hid (by rw [append_bytes3, hhid]; rfl)
        have htl : (⟨(tagS key.data.toList nonce.data.toList beside.data.toList hid.data.toList).toArray⟩ : ByteArray).size = 16 := tagS_length _ _ _ _
        rw [← hhid] at HX
        clear hhid hsl
        generalize (⟨(tagS key.data.toList nonce.data.toList beside.data.toList hid.data.toList).toArray⟩ : ByteArray) = tg at *
        have hsz : (hid.size : Int) + (tg.size : Int) ≤ 9223372036854775807 := by omega
        go_enter Tryz.func16, Tryz.ntmps16
        go_wp2_with fail
        refine HX.out.mono ?_
        rintro e W1 ⟨rfl, hb1⟩
        go_wp2_with fail
        refine (HTg.out W1).mono ?_
        rintro e W2 ⟨rfl, hb2⟩
        go_wp2_with fail
        go_ret2
        exact ⟨by rw [← HS.out]; rfl, hb1.trans (hb2.mono hb1.size)⟩
      · rw [sealO, if_neg (by decide), if_pos rfl, if_neg hg]
        by_cases hk : key.size = 32
        · have d1 : ((key.size : Int) != 32) = false := by simp; omega
          have d2 : ((nonce.size : Int) != 12) = true := by simp; omega
          clear hg hk
          go_enter Tryz.func16, Tryz.ntmps16
          go_wp2_with fail
          go_ret2
          exact ⟨rfl, Below.refl _ _⟩
        · have d1 : ((key.size : Int) != 32) = true := by simp; omega
          clear hg hk
          go_enter Tryz.func16, Tryz.ntmps16
          go_wp2_with fail
          go_ret2
          exact ⟨rfl, Below.refl _ _⟩
    · have d2 : (suite != 4867) = true := by simpa using hs2
      rw [sealO, if_neg hs1, if_neg hs2]
      clear hs1 hs2
      go_enter Tryz.func16, Tryz.ntmps16
      go_wp2_with fail
      go_ret2
      exact ⟨rfl, Below.refl _ _⟩

set_option maxHeartbeats 2000000 in
theorem ropenO_any (suite : Int) (key nonce beside sealed : ByteArray) (w : World) (h1 : beside.size ≤ 20000) (h2 : sealed.size ≤ 20000) :
    Calls Tryz.prog 34 #[.int .i64 suite, .string key, .string nonce, .string beside, .string sealed] w fun e w' => e = ansO (openO suite key nonce beside sealed) ∧ Below w.heap.size w w' := by
  by_cases hs1 : suite = 4865
  · subst hs1
    have HG := Lib.hid (rgopenO_any key nonce beside sealed w h1 h2)
    unfold ansO at HG ⊢
    generalize openO 4865 key nonce beside sealed = x at *
    obtain ⟨x1, x2⟩ := x
    go_enter Tryz.func34, Tryz.ntmps34
    go_wp2_with fail
    refine HG.out.mono ?_
    rintro e W1 ⟨rfl, hb1⟩
    go_wp2_with fail
    go_ret2
    exact ⟨rfl, hb1⟩
  · have d1 : (suite == 4865) = false := by simpa using hs1
    by_cases hs2 : suite = 4867
    · subst hs2
      clear hs1 d1
      by_cases hg : key.size = 32 ∧ nonce.size = 12
      · rw [openO, if_neg (by decide), if_pos rfl, if_pos hg]
        obtain ⟨hk, hn⟩ := hg
        have d1 : ((key.size : Int) != 32) = false := by simp; omega
        have d2 : ((nonce.size : Int) != 12) = false := by simp; omega
        by_cases hs : sealed.size < 16
        · rw [if_pos hs]
          have d3 : decide ((sealed.size : Int) < 16) = true := by simp; omega
          go_enter Tryz.func34, Tryz.ntmps34
          go_wp2_with fail
          go_ret2
          exact ⟨rfl, Below.refl _ _⟩
        · rw [if_neg hs, ← ite_ans _ _ _ rfl]
          have d3 : decide ((sealed.size : Int) < 16) = false := by simp; omega
          have d4 : decide ((1048576 : Int) < (beside.size : Int)) = false := by simp; omega
          have d5 : decide ((1048592 : Int) < (sealed.size : Int)) = false := by simp; omega
          obtain ⟨n, hnn⟩ : ∃ n, n = sealed.size - 16 := ⟨_, rfl⟩
          have e1 : IntKind.i64.wrap ((sealed.size : Int) - 16) = (sealed.size : Int) - 16 := IntWalk.i64_in _ (by omega)
          have e2 : (sealed.size : Int) - 16 = (n : Int) := by omega
          have e3 : (n : Int) ≤ (sealed.size : Int) := by omega
          have ht1 : (sealed.extract 0 n).data.toList = sealed.data.toList.take (sealed.data.toList.length - 16) := by rw [Lib.extract_data, List.drop_zero, ← Lib.size_eq, hnn]; rfl
          have ht2 : (sealed.extract n sealed.size).data.toList = sealed.data.toList.drop (sealed.data.toList.length - 16) := by rw [Lib.extract_data, List.take_of_length_le (by rw [List.length_drop, ← Lib.size_eq]; exact Nat.le_refl _), ← Lib.size_eq, hnn]
          have hs1 : (sealed.extract 0 n).size = n := by rw [ByteArray.size_extract]; omega
          have HTg := Lib.hid (fun W => rtagS_any key nonce beside (sealed.extract 0 n) W hk hn (by omega) (by omega))
          have HX := Lib.hid (fun W => refXorS key nonce (sealed.extract 0 n) W hk hn (by omega))
          have hok0 : ((⟨(tagS key.data.toList nonce.data.toList beside.data.toList (sealed.extract 0 n).data.toList).toArray⟩ : ByteArray).toList == (sealed.extract n sealed.size).toList) = tagOkS key.data.toList nonce.data.toList beside.data.toList sealed.data.toList := by
            rw [Lib.toList_data, Lib.toList_data, ht2, ht1]; rfl
          have HOp : Hid ((⟨(hidS key.data.toList nonce.data.toList (sealed.extract 0 n).data.toList).toArray⟩ : ByteArray) = ⟨(openS key.data.toList nonce.data.toList beside.data.toList sealed.data.toList).toArray⟩) := Lib.hid (by rw [ht1]; rfl)
          rw [HOp.out] at HX
          clear HOp ht1 ht2 hs1 hnn hs
          generalize (⟨(tagS key.data.toList nonce.data.toList beside.data.toList (sealed.extract 0 n).data.toList).toArray⟩ : ByteArray) = tg at *
          generalize hok : tagOkS key.data.toList nonce.data.toList beside.data.toList sealed.data.toList = ok at *
          generalize (⟨(openS key.data.toList nonce.data.toList beside.data.toList sealed.data.toList).toArray⟩ : ByteArray) = op at *
          go_enter Tryz.func34, Tryz.ntmps34
          go_wp2_with fail
          refine wp_region_reads (by kernel_rfl) (by kernel_rfl) ?_
          repeat (first | go_big_quiet_step (with_reducible exact Calls.regrown_of (HTg.out _)) | quiet_step (with_reducible exact Calls.regrown_of (HTg.out _)))
          refine wpQuiet_nil ?_
          intro W4 hb4
          clear HTg
          cases ok with
          | false =>
            go_wp2_with fail
            go_ret2
            exact ⟨rfl, hb4⟩
          | true =>
            go_wp2_with fail
            refine (HX.out W4).mono ?_
            rintro e W5 ⟨rfl, hb5⟩
            go_wp2_with fail
            go_ret2
            exact ⟨rfl, hb4.trans (hb5.mono hb4.size)⟩
      · rw [openO, if_neg (by decide), if_pos rfl, if_neg hg]
        by_cases hk : key.size = 32
        · have d1 : ((key.size : Int) != 32) = false := by simp; omega
          have d2 : ((nonce.size : Int) != 12) = true := by simp; omega
          clear hg hk
          go_enter Tryz.func34, Tryz.ntmps34
          go_wp2_with fail
          go_ret2
          exact ⟨rfl, Below.refl _ _⟩
        · have d1 : ((key.size : Int) != 32) = true := by simp; omega
          clear hg hk
          go_enter Tryz.func34, Tryz.ntmps34
          go_wp2_with fail
          go_ret2
          exact ⟨rfl, Below.refl _ _⟩
    · have d2 : (suite != 4867) = true := by simpa using hs2
      rw [openO, if_neg hs1, if_neg hs2]
      clear hs1 hs2
      go_enter Tryz.func34, Tryz.ntmps34
      go_wp2_with fail
      go_ret2
      exact ⟨rfl, Below.refl _ _⟩
end
end Go.Proofs.YtffnafikegakcaaGreatDoor
