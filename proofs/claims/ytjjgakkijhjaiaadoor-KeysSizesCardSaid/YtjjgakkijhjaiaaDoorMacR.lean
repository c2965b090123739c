/- The reference's padded, and Mac at SHA-256; The reference's Extract and Expand; The reference's Label. -/
import Derived.Test.YtjjgakkijhjaiaaDoorShaRs
import Derived.Test.YtjjgakkijhjaiaaDoorMacP
namespace Go.Proofs.YtjjgakkijhjaiaaDoor
section
open Go.RowKit Go.Sort
set_option maxRecDepth 100000
set_option linter.unusedSimpArgs false
set_option linter.unusedVariables false

theorem maskL_snoc (k : Nat) (c : Int) (b : List UInt8) (x : UInt8) (h : b[k]? = some x) : maskL (k + 1) c b = maskL k c b ++ [xorB c x] := by
  have hk : k < b.length := (List.getElem?_eq_some_iff.1 h).1
  have hx : b[k] = x := (List.getElem?_eq_some_iff.1 h).2
  rw [maskL, List.take_succ_eq_append_getElem hk, hx, maskL]; simp
theorem blockL_get (l : List UInt8) (k : Nat) (h : k < l.length) : (blockL l)[k]? = l[k]? := by rw [blockL, List.getElem?_append_left h]
theorem blockL_zero (l : List UInt8) (k : Nat) (h : l.length ≤ k) (h' : k < 128) : (blockL l)[k]? = some 0 := by
  rw [blockL, List.getElem?_append_right h, List.getElem?_replicate, if_pos (by omega)]

set_option maxHeartbeats 1000000 in
theorem refPadded_any (key : ByteArray) (n : Nat) (c : Int) (w : World) (hn0 : 0 < n) (hn : n ≤ 128) (hk : key.size ≤ 128) :
    Calls Tryd.prog 55 #[.string key, .int .i64 (n : Int), .int .u8 c] w fun e w' => e = .returned (.string ⟨(maskL n c (blockL key.data.toList)).toArray⟩) ∧ Below w.heap.size w w' := by
  obtain ⟨i0, hi, hz0, hz1, hz2⟩ := info_parts info_u8
  have hbl : (blockL key.data.toList).length = 128 := blockL_length _ (by rw [← Lib.size_eq]; exact hk)
  have HG1 := Lib.hid (fun k (h : k < key.size) => (blockL_get key.data.toList k (by rw [← Lib.size_eq]; exact h)).trans (show key.data.toList[k]? = some key[k] from by rw [List.getElem?_eq_getElem (by rw [← Lib.size_eq]; exact h)]; rfl))
  have HG2 := Lib.hid (fun k (h : key.size ≤ k) (h' : k < 128) => blockL_zero key.data.toList k (by rw [← Lib.size_eq]; exact h) h')
  generalize hbb : blockL key.data.toList = b at *
  have HBL := Lib.hid hbl; have HBB0 := Lib.hid hbb
  clear hbb hbl
  go_enter Tryd.func55, Tryd.ntmps55
  go_wp2_with fail
  generalize hBB : w.heap.size = B at *
  have HBB := Lib.hid hBB
  have hszB : B ≤ w.heap.size := by omega
  clear hBB
  go_loopw [7, 8] (fun v i wr => ∃ (k : Nat) (ao : Option Addr) (cap : Nat), k ≤ n ∧ i = .int .i64 k ∧ v = .slice ao k cap ∧ Own wr B (.slice ao k cap) (Lib.byteCells (maskL k c b)) ∧ Below B w wr ∧ B ≤ wr.heap.size) (fun _ i _ => n - (intOf i).toNat)
  case atStart => exact ⟨0, none, 0, by omega, rfl, rfl, Own.nil _ _, Below.refl _ _, hszB⟩
  case round =>
    obtain ⟨k, ao, cap, hkn, rfl, rfl, hown, hb, hsz⟩ := hrel
    have HO := Lib.hid hown
    have HL := Lib.hid (show (Lib.byteCells (maskL k c b)).length = k from by rw [Lib.byteCells_length, maskL_length _ _ _ (by rw [HBL.out]; omega)])
    clear hown
    by_cases hlt : k < n
    · have hd : decide ((k : Int) < (n : Int)) = true := by simp; omega
      by_cases hkk : k < key.size
      · have hd2 : decide ((k : Int) < (key.size : Int)) = true := by simp; omega
        have HS := Lib.hid (maskL_snoc k c b _ (HG1.out k hkk))
        have HX := Lib.hid (xorB_toNat c key[k])
        go_wp2_with (at_builtin; refine wpList_append_sl rfl (.tmp 22) (.tmp 26) 38 rfl B 5 i0 (.int .u8 0) 1 Tryd.underlying38 hi hz0 hz1 hz2 rfl ao k cap _ rfl (HO.out.alloc _) HL.out ⟨wr.heap.size, 0, none⟩ 1 1 [.int .u8 (bits .xor .u8 (key[k].toNat : Int) c)] rfl rfl (cell_one_new _ _ _) ?a2 ?a3 ?a4 ?a5 ?_)
        case a2 => intro u hu; simp at hu; subst hu; rfl
        case a3 => omega
        case a4 => omega
        case a5 => simp; omega
        intro ao1 cap1 W1 hown1 hgrow1
        have hb1 : Below B w W1 := below_append (hb.alloc hsz _) (by simp; omega) (HO.out.alloc _) hgrow1
        have hsz1 : B ≤ W1.heap.size := by have := hgrow1.size; simp at this; omega
        have hown2 : Own W1 B (.slice ao1 (k + 1) cap1) (Lib.byteCells (maskL (k + 1) c b)) := by
          rw [HS.out, Lib.byteCells_append]
          have e : Lib.byteCells [xorB c key[k]] = [.int .u8 (bits .xor .u8 (key[k].toNat : Int) c)] := by simp only [Lib.byteCells, List.map_cons, List.map_nil, HX.out]
          rw [e]; exact hown1
        clear hown1 hgrow1 HO hb hsz
        go_wp2_with fail
        go_roundw
        case rel => exact ⟨k + 1, ao1, cap1, by omega, by go_num, rfl, hown2, hb1, hsz1⟩
        case measure => simp [intOf]; omega
      · have hd2 : decide ((k : Int) < (key.size : Int)) = false := by simp; omega
        have HS := Lib.hid (maskL_snoc k c b _ (HG2.out k (by omega) (by omega)))
        have HX := Lib.hid (show ((xorB c 0).toNat : Int) = bits .xor .u8 0 c from xorB_toNat c 0)
        go_wp2_with (at_builtin; refine wpList_append_sl rfl (.tmp 22) (.tmp 26) 38 rfl B 5 i0 (.int .u8 0) 1 Tryd.underlying38 hi hz0 hz1 hz2 rfl ao k cap _ rfl (HO.out.alloc _) HL.out ⟨wr.heap.size, 0, none⟩ 1 1 [.int .u8 (bits .xor .u8 0 c)] rfl rfl (cell_one_new _ _ _) ?c2 ?c3 ?c4 ?c5 ?_)
        case c2 => intro u hu; simp at hu; subst hu; rfl
        case c3 => omega
        case c4 => omega
        case c5 => simp; omega
        intro ao1 cap1 W1 hown1 hgrow1
        have hb1 : Below B w W1 := below_append (hb.alloc hsz _) (by simp; omega) (HO.out.alloc _) hgrow1
        have hsz1 : B ≤ W1.heap.size := by have := hgrow1.size; simp at this; omega
        have hown2 : Own W1 B (.slice ao1 (k + 1) cap1) (Lib.byteCells (maskL (k + 1) c b)) := by
          rw [HS.out, Lib.byteCells_append]
          have e : Lib.byteCells [xorB c 0] = [.int .u8 (bits .xor .u8 0 c)] := by simp only [Lib.byteCells, List.map_cons, List.map_nil, HX.out]
          rw [e]; exact hown1
        clear hown1 hgrow1 HO hb hsz
        go_wp2_with fail
        go_roundw
        case rel => exact ⟨k + 1, ao1, cap1, by omega, by go_num, rfl, hown2, hb1, hsz1⟩
        case measure => simp [intOf]; omega
    · have hd : decide ((k : Int) < (n : Int)) = false := by simp; omega
      obtain rfl : k = n := by omega
      obtain ⟨Ob, cpO, hvv, hoO, _⟩ := HO.out.some (by rw [HL.out]; omega)
      rw [HL.out] at hvv
      cases hvv
      have hcv := run_string_row wr Ob cap (maskL k c b) (fun j x hx => hoO.cells j _ (by simp [Lib.byteCells, hx]))
      rw [maskL_length _ _ _ (by rw [HBL.out]; omega)] at hcv
      clear hoO HO HL
      go_wp2_with fail
      go_ret
      exact ⟨rfl, by rw [HBB.out]; exact hb⟩

set_option maxHeartbeats 1000000 in
theorem refMac32_any (key data : ByteArray) (w : World) (hk : key.size ≤ 1000000) (hd' : data.size ≤ 1000000) :
    Calls Tryd.prog 42 #[.int .i64 32, .string key, .string data] w fun e w' => e = .returned (.tuple #[.string ⟨(mac32 key.data.toList data.data.toList).toArray⟩, .int .i64 0]) ∧ Below w.heap.size w w' := by
  have HM : Hid (mac32 key.data.toList data.data.toList = sha256L kf hf (maskL 64 92 (blockL (keyOf32 key.data.toList)) ++ sha256L kf hf (maskL 64 54 (blockL (keyOf32 key.data.toList)) ++ data.data.toList))) := Lib.hid rfl
  have HL := Lib.hid (blockL_length _ (Nat.le_trans (keyOf32_length key.data.toList) (by omega)))
  by_cases hlong : 64 < key.size
  · have hd : decide ((64 : Int) < (key.size : Int)) = true := by simp; omega
    have HKO := Lib.hid (show keyOf32 key.data.toList = sha256L kf hf key.data.toList from by rw [keyOf32, if_pos (by rw [← Lib.size_eq]; exact hlong)])
    have HK2 := Lib.hid (refSum32_any key w (by omega))
    have HX := Lib.hid (show (sha256L kf hf key.data.toList).length = 32 from sha256L_length _ _ _)
    rw [HKO.out] at HM HL
    go_enter Tryd.func42, Tryd.ntmps42
    go_wp2_with fail
    refine HK2.out.mono ?_
    rintro e W1 ⟨rfl, hB1⟩
    clear HK2 HKO
    have hsz1 := hB1.size
    generalize sha256L kf hf key.data.toList = kl at *
    have hks : (⟨kl.toArray⟩ : ByteArray).size ≤ 128 := by rw [Lib.size_eq]; simp [HX.out]
    have HKD := Lib.hid (show (⟨kl.toArray⟩ : ByteArray).data.toList = kl from by simp)
    generalize (⟨kl.toArray⟩ : ByteArray) = key2 at *
    go_wp2_with fail
    refine (refPadded_any key2 64 54 W1 (by omega) (by omega) hks).mono ?_
    rintro e W2 ⟨rfl, hb2⟩
    rw [HKD.out]
    have hB2 : Below w.heap.size w W2 := hB1.trans (hb2.mono hsz1)
    have hsz2 := Nat.le_trans hsz1 hb2.size
    have hm1 : (⟨(maskL 64 54 (blockL kl)).toArray⟩ : ByteArray).size = 64 := by rw [Lib.size_eq]; simpa using maskL_length 64 54 (blockL kl) (by rw [HL.out]; omega)
    have HE1 := Lib.hid (show ((⟨(maskL 64 54 (blockL kl)).toArray⟩ : ByteArray) ++ data).data.toList = maskL 64 54 (blockL kl) ++ data.data.toList from by simp)
    generalize (⟨(maskL 64 54 (blockL kl)).toArray⟩ : ByteArray) = s1 at *
    go_wp2_with fail
    refine (refSum32_any (s1 ++ data) W2 (by rw [ByteArray.size_append]; omega)).mono ?_
    rintro e W3 ⟨rfl, hb3⟩
    rw [HE1.out]
    have hB3 : Below w.heap.size w W3 := hB2.trans (hb3.mono hsz2)
    have hsz3 := Nat.le_trans hsz2 hb3.size
    have hi1 : (⟨(sha256L kf hf (maskL 64 54 (blockL kl) ++ data.data.toList)).toArray⟩ : ByteArray).size = 32 := by rw [Lib.size_eq]; simpa using sha256L_length kf hf _
    generalize sha256L kf hf (maskL 64 54 (blockL kl) ++ data.data.toList) = d1 at *
    clear HE1 hm1
    go_wp2_with fail
    refine (refPadded_any key2 64 92 W3 (by omega) (by omega) hks).mono ?_
    rintro e W4 ⟨rfl, hb4⟩
    rw [HKD.out]
    have hB4 : Below w.heap.size w W4 := hB3.trans (hb4.mono hsz3)
    have hsz4 := Nat.le_trans hsz3 hb4.size
    have hm2 : (⟨(maskL 64 92 (blockL kl)).toArray⟩ : ByteArray).size = 64 := by rw [Lib.size_eq]; simpa using maskL_length 64 92 (blockL kl) (by rw [HL.out]; omega)
    have HE2 := Lib.hid (show ((⟨(maskL 64 92 (blockL kl)).toArray⟩ : ByteArray) ++ (⟨d1.toArray⟩ : ByteArray)).data.toList = maskL 64 92 (blockL kl) ++ d1 from by simp)
    generalize (⟨(maskL 64 92 (blockL kl)).toArray⟩ : ByteArray) = s2 at *
    generalize (⟨d1.toArray⟩ : ByteArray) = s3 at *
    go_wp2_with fail
    refine (refSum32_any (s2 ++ s3) W4 (by rw [ByteArray.size_append]; omega)).mono ?_
    rintro e W5 ⟨rfl, hb5⟩
    rw [HE2.out, ← HM.out]
    have hB5 : Below w.heap.size w W5 := hB4.trans (hb5.mono hsz4)
    go_wp2_with fail
    go_ret2
    exact ⟨rfl, hB5⟩
  · have hd : decide ((64 : Int) < (key.size : Int)) = false := by simp; omega
    have HKO := Lib.hid (show keyOf32 key.data.toList = key.data.toList from by rw [keyOf32, if_neg (by rw [← Lib.size_eq]; exact hlong)])
    rw [HKO.out] at HM HL
    have hks : key.size ≤ 128 := by omega
    have HKD : Hid (key.data.toList = key.data.toList) := Lib.hid rfl
    have hB1 : Below w.heap.size w w := Below.refl _ _
    have hsz1 : w.heap.size ≤ w.heap.size := Nat.le_refl _
    generalize hkl : key.data.toList = kl at *
    replace HKD := Lib.hid hkl
    clear hkl
    go_enter Tryd.func42, Tryd.ntmps42
    go_wp2_with fail
    refine (refPadded_any key 64 54 w (by omega) (by omega) hks).mono ?_
    rintro e W2 ⟨rfl, hb2⟩
    rw [HKD.out]
    have hB2 : Below w.heap.size w W2 := hB1.trans (hb2.mono hsz1)
    have hsz2 := Nat.le_trans hsz1 hb2.size
    have hm1 : (⟨(maskL 64 54 (blockL kl)).toArray⟩ : ByteArray).size = 64 := by rw [Lib.size_eq]; simpa using maskL_length 64 54 (blockL kl) (by rw [HL.out]; omega)
    have HE1 := Lib.hid (show ((⟨(maskL 64 54 (blockL kl)).toArray⟩ : ByteArray) ++ data).data.toList = maskL 64 54 (blockL kl) ++ data.data.toList from by simp)
    generalize (⟨(maskL 64 54 (blockL kl)).toArray⟩ : ByteArray) = s1 at *
    go_wp2_with fail
    refine (refSum32_any (s1 ++ data) W2 (by rw [ByteArray.size_append]; omega)).mono ?_
    rintro e W3 ⟨rfl, hb3⟩
    rw [HE1.out]
    have hB3 : Below w.heap.size w W3 := hB2.trans (hb3.mono hsz2)
    have hsz3 := Nat.le_trans hsz2 hb3.size
    have hi1 : (⟨(sha256L kf hf (maskL 64 54 (blockL kl) ++ data.data.toList)).toArray⟩ : ByteArray).size = 32 := by rw [Lib.size_eq]; simpa using sha256L_length kf hf _
    generalize sha256L kf hf (maskL 64 54 (blockL kl) ++ data.data.toList) = d1 at *
    clear HE1 hm1
    go_wp2_with fail
    refine (refPadded_any key 64 92 W3 (by omega) (by omega) hks).mono ?_
    rintro e W4 ⟨rfl, hb4⟩
    rw [HKD.out]
    have hB4 : Below w.heap.size w W4 := hB3.trans (hb4.mono hsz3)
    have hsz4 := Nat.le_trans hsz3 hb4.size
    have hm2 : (⟨(maskL 64 92 (blockL kl)).toArray⟩ : ByteArray).size = 64 := by rw [Lib.size_eq]; simpa using maskL_length 64 92 (blockL kl) (by rw [HL.out]; omega)
    have HE2 := Lib.hid (show ((⟨(maskL 64 92 (blockL kl)).toArray⟩ : ByteArray) ++ (⟨d1.toArray⟩ : ByteArray)).data.toList = maskL 64 92 (blockL kl) ++ d1 from by simp)
    generalize (⟨(maskL 64 92 (blockL kl)).toArray⟩ : ByteArray) = s2 at *
    generalize (⟨d1.toArray⟩ : ByteArray) = s3 at *
    go_wp2_with fail
    refine (refSum32_any (s2 ++ s3) W4 (by rw [ByteArray.size_append]; omega)).mono ?_
    rintro e W5 ⟨rfl, hb5⟩
    rw [HE2.out, ← HM.out]
    have hB5 : Below w.heap.size w W5 := hB4.trans (hb5.mono hsz4)
    go_wp2_with fail
    go_ret2
    exact ⟨rfl, hB5⟩
end

section
open Go.RowKit Go.Sort
set_option maxRecDepth 100000
set_option linter.unusedSimpArgs false
set_option linter.unusedVariables false

theorem mac32_nils (input : List UInt8) : mac32 (List.replicate 32 0) input = mac32 [] input := by
  rw [mac32, mac32, keyOf32, if_neg (by simp), keyOf32, if_neg (by simp), blockL_zeros 32 (by omega)]
set_option maxHeartbeats 1000000 in
theorem refExtract_any (salt input : ByteArray) (w : World) (hs : salt.size ≤ 1000000) (hn : input.size ≤ 1000000) :
    Calls Tryd.prog 35 #[.string salt, .string input] w fun e w' => e = .returned (.string ⟨(mac32 salt.data.toList input.data.toList).toArray⟩) ∧ Below w.heap.size w w' := by
  by_cases hz : salt.size = 0
  · have hl0 : salt.data.toList = [] := List.eq_nil_of_length_eq_zero (by rw [← Lib.size_eq]; exact hz)
    have ht : (salt.toList == []) = true := by rw [Lib.toList_data, hl0]; rfl
    obtain ⟨i0, hi, hz0, hz1, hz2⟩ := info_parts info_u8
    have hmk : ∀ W : World, (Instr.makeSlice 38 (.int .i64 32) (.int .i64 32)).run Tryd.prog W = .ok (.slice (some ⟨W.heap.size, 0, none⟩) 32 32) (W.alloc (.cells zeros32 5)) := fun W => by
      have h := run_make (P := Tryd.prog) W 38 5 i0 (.int .u8 0) Tryd.underlying38 hi hz0 .i64 .i64 32 32 (by omega) (by omega) (by rw [hz2]; omega) (by omega)
      rw [hz1, made_zero] at h
      exact h
    have hB0 := below_new w (.cells zeros32 5)
    obtain ⟨z32, hz32⟩ : ∃ z : List UInt8, z = List.replicate 32 0 := ⟨_, rfl⟩
    have hcv := run_string_row (w.alloc (.cells zeros32 5)) w.heap.size 32 z32 (by rw [hz32]; exact cells_of_bcells (blk_new w (.cells zeros32 5)))
    rw [show z32.length = 32 from by rw [hz32]; simp] at hcv
    have h1 := fun W => refMac32_any ⟨z32.toArray⟩ input W (by rw [Lib.size_eq]; simp [hz32]) hn
    simp only [List.toList_toArray] at h1
    rw [hz32, mac32_nils, ← hl0] at h1
    generalize (⟨(mac32 salt.data.toList input.data.toList).toArray⟩ : ByteArray) = x at *
    rw [← hz32] at h1
    have H1 := Lib.hid h1
    clear h1 hz32 hl0 hi hz0 hz1 hz2
    go_enter Tryd.func35, Tryd.ntmps35
    go_wp2_with fail
    have hsz0 : w.heap.size ≤ (w.alloc (.cells zeros32 5)).heap.size := by simp
    clear hmk hcv
    generalize (w.alloc (.cells zeros32 5)) = W0 at *
    refine (H1.out W0).mono ?_
    rintro e W1 ⟨rfl, hb1⟩
    go_wp2_with fail
    go_ret
    exact ⟨rfl, hB0.trans (hb1.mono hsz0)⟩
  · have hl0 : salt.data.toList ≠ [] := fun e => hz (by rw [Lib.size_eq, e]; rfl)
    have ht : (salt.toList == []) = false := by rw [Lib.toList_data]; simpa using hl0
    have h1 := refMac32_any salt input w hs hn
    generalize (⟨(mac32 salt.data.toList input.data.toList).toArray⟩ : ByteArray) = x at *
    have H1 := Lib.hid h1
    clear h1 hl0
    go_enter Tryd.func35, Tryd.ntmps35
    go_wp2_with fail
    refine H1.out.mono ?_
    rintro e W1 ⟨rfl, hb1⟩
    go_wp2_with fail
    go_ret
    exact ⟨rfl, hb1⟩

set_option maxHeartbeats 2000000 in
theorem refExpand_any (key info : ByteArray) (n : Nat) (w : World) (hk : key.size ≤ 1000000) (hs : info.size ≤ 900000) (hn : n ≤ 8160) :
    Calls Tryd.prog 48 #[.string key, .string info, .int .i64 (n : Int)] w fun e w' => e = .returned (.tuple #[.string ⟨(expL (blockL (keyOf32 key.data.toList)) info.data.toList n).toArray⟩, .int .i64 0]) ∧ Below w.heap.size w w' := by
  have hd1 : decide ((n : Int) < 0) = false := by simp
  have hd2 : decide ((8160 : Int) < (n : Int)) = false := by simp; omega
  have HM := Lib.hid (show ∀ d, mac32 key.data.toList d = code32 (blockL (keyOf32 key.data.toList)) d from fun d => rfl)
  generalize hbk : blockL (keyOf32 key.data.toList) = b at *
  have HBK := Lib.hid hbk
  clear hbk
  go_enter Tryd.func48, Tryd.ntmps48
  go_wp2_with fail
  generalize hBB : w.heap.size = B at *
  have HBB := Lib.hid hBB
  have hszB : B ≤ w.heap.size := by omega
  clear hBB
  go_loopw [8, 9, 10] (fun o t u wr => ∃ (i : Nat) (ob tb : ByteArray), 32 * i < n + 32 ∧ o = .string ob ∧ t = .string tb ∧ ob.data.toList = outL b info.data.toList i ∧ tb.data.toList = tL b info.data.toList i ∧ u = .int .i64 ((i : Int) + 1) ∧ Below B w wr ∧ B ≤ wr.heap.size) (fun _ _ u _ => 300 - (intOf u).toNat)
  case atStart => exact ⟨0, ⟨#[]⟩, ⟨#[]⟩, by omega, rfl, rfl, rfl, rfl, rfl, Below.refl _ _, hszB⟩
  case round =>
    obtain ⟨i, ob, tb, hin, rfl, rfl, hob, htb, rfl, hb, hsz⟩ := hrel
    have hos : ob.size = 32 * i := by rw [Lib.size_eq, hob, outL_length]
    have hts : tb.size ≤ 32 := by rw [Lib.size_eq, htb]; exact tL_length _ _ _
    have HOS := Lib.hid hos
    have hol : ob.size ≤ 10000 := by omega
    clear hos
    by_cases hlt : 32 * i < n
    · have hd : ob.size < n := by have := HOS.out; omega
      have hi255 : i < 255 := by omega
      have HTn : Hid (tL b info.data.toList (i + 1) = code32 b (tL b info.data.toList i ++ info.data.toList ++ [UInt8.ofNat (i + 1)])) := Lib.hid rfl
      obtain ⟨x1, hx1⟩ : ∃ x1 : ByteArray, x1 = ⟨[UInt8.ofNat (i + 1)].toArray⟩ := ⟨_, rfl⟩
      have HD := Lib.hid (show ((tb ++ info) ++ x1).data.toList = tL b info.data.toList i ++ info.data.toList ++ [UInt8.ofNat (i + 1)] from by rw [hx1]; simp [htb])
      have hx1s : x1.size = 1 := by rw [hx1, Lib.size_eq]; rfl
      have hcv := run_string_row (wr.alloc (.cells #[.int .u8 ((i : Int) + 1)] 5)) wr.heap.size 1 [UInt8.ofNat (i + 1)] (fun j x hx => by
        have hj : j = 0 := by have := (List.getElem?_eq_some_iff.1 hx).1; simpa using this
        subst hj
        obtain rfl : UInt8.ofNat (i + 1) = x := by simpa using hx
        rw [cell_of_row _ _ _ _ _ _ (blk_new wr _)]
        have : (UInt8.ofNat (i + 1)).toNat = i + 1 := by simp; omega
        rw [this]; rfl)
      simp only [List.length_cons, List.length_nil, Nat.zero_add] at hcv
      rw [← hx1] at hcv
      have hwm : ((i : Int) + 1) % 256 = (i : Int) + 1 := by omega
      have hbw : Below B w (wr.alloc (.cells #[.int .u8 ((i : Int) + 1)] 5)) := hb.alloc hsz _
      have hszw : B ≤ (wr.alloc (.cells #[.int .u8 ((i : Int) + 1)] 5)).heap.size := by simp; omega
      have HOB := Lib.hid hob
      clear hx1 hb htb hob
      go_wp2_with fail
      clear hcv
      generalize (wr.alloc _) = Wn at *
      refine (refMac32_any key (tb ++ info ++ x1) Wn hk (by rw [ByteArray.size_append, ByteArray.size_append]; omega)).mono ?_
      rintro e W5 ⟨rfl, hb5⟩
      rw [HM.out, HD.out, ← HTn.out]
      have hB5 : Below B w W5 := hbw.trans (hb5.mono hszw)
      have hsz5 := Nat.le_trans hszw hb5.size
      have HON := Lib.hid (show (ob ++ (⟨(tL b info.data.toList (i + 1)).toArray⟩ : ByteArray)).data.toList = outL b info.data.toList (i + 1) from by rw [outL]; simp [HOB.out])
      have HTT := Lib.hid (show (⟨(tL b info.data.toList (i + 1)).toArray⟩ : ByteArray).data.toList = tL b info.data.toList (i + 1) from by simp)
      generalize (⟨(tL b info.data.toList (i + 1)).toArray⟩ : ByteArray) = tn at *
      have htn : tn.size = 32 := by rw [Lib.size_eq, HTT.out, HTn.out, code32_length]
      go_wp2_with fail
      go_roundw
      case rel => exact ⟨i + 1, _, _, by omega, rfl, rfl, HON.out, HTT.out, by go_num, hB5, hsz5⟩
      case measure => simp [intOf]; omega
    · have hd : ¬ ob.size < n := by have := HOS.out; omega
      have hii : (n + 31) / 32 = i := by omega
      have HE := Lib.hid (show (ob.extract 0 n) = ⟨(expL b info.data.toList n).toArray⟩ from by
        apply ByteArray.ext
        apply Array.ext'
        rw [Lib.extract_data, hob, expL, hii]
        simp)
      have hle : (n : Int) ≤ (ob.size : Int) := by have := HOS.out; omega
      clear hob htb
      go_wp2_with fail
      go_ret2
      exact ⟨by rw [← HE.out]; rfl, by rw [HBB.out]; exact hb⟩
theorem refExpandNeg_any (key info : ByteArray) (n : Int) (w : World) (hn : n < 0) :
    Calls Tryd.prog 48 #[.string key, .string info, .int .i64 n] w fun e w' => e = .returned (.tuple #[.string ⟨#[]⟩, .int .i64 1]) ∧ Below w.heap.size w w' := by
  have hd1 : decide (n < 0) = true := by simp; omega
  go_enter Tryd.func48, Tryd.ntmps48
  go_wp2_with fail
  go_ret2
  exact ⟨rfl, Below.refl _ _⟩
theorem refExpandBig_any (key info : ByteArray) (n : Int) (w : World) (hn : 8160 < n) :
    Calls Tryd.prog 48 #[.string key, .string info, .int .i64 n] w fun e w' => e = .returned (.tuple #[.string ⟨#[]⟩, .int .i64 13]) ∧ Below w.heap.size w w' := by
  have hd1 : decide (n < 0) = false := by simp; omega
  have hd2 : decide ((8160 : Int) < n) = true := by simp; omega
  go_enter Tryd.func48, Tryd.ntmps48
  go_wp2_with fail
  go_ret2
  exact ⟨rfl, Below.refl _ _⟩
end

section
open Go.RowKit Go.Sort
set_option maxRecDepth 100000
set_option linter.unusedSimpArgs false
set_option linter.unusedVariables false

theorem refLabelNeg_any (key label ctx : ByteArray) (n : Int) (w : World) (hn : n < 0) :
    Calls Tryd.prog 30 #[.string key, .string label, .string ctx, .int .i64 n] w fun e w' => e = .returned (.tuple #[.string ⟨#[]⟩, .int .i64 1]) ∧ Below w.heap.size w w' := by
  have hd1 : decide (n < 0) = true := by simp; omega
  go_enter Tryd.func30, Tryd.ntmps30
  go_wp2_with fail
  go_ret2
  exact ⟨rfl, Below.refl _ _⟩
theorem refLabelBig_any (key label ctx : ByteArray) (n : Int) (w : World) (hn : ¬ n < 0) (hbig : 249 < label.size ∨ 255 < ctx.size ∨ 8160 < n) :
    Calls Tryd.prog 30 #[.string key, .string label, .string ctx, .int .i64 n] w fun e w' => e = .returned (.tuple #[.string ⟨#[]⟩, .int .i64 13]) ∧ Below w.heap.size w w' := by
  have hd1 : decide (n < 0) = false := by simp; omega
  by_cases h1 : 249 < label.size
  · have hd2 : decide ((249 : Int) < (label.size : Int)) = true := by simp; omega
    go_enter Tryd.func30, Tryd.ntmps30
    go_wp2_with fail
    go_ret2
    exact ⟨rfl, Below.refl _ _⟩
  have hd2 : decide ((249 : Int) < (label.size : Int)) = false := by simp; omega
  by_cases h2 : 255 < ctx.size
  · have hd3 : decide ((255 : Int) < (ctx.size : Int)) = true := by simp; omega
    go_enter Tryd.func30, Tryd.ntmps30
    go_wp2_with fail
    go_ret2
    exact ⟨rfl, Below.refl _ _⟩
  have hd3 : decide ((255 : Int) < (ctx.size : Int)) = false := by simp; omega
  have hd4 : decide ((8160 : Int) < n) = true := by simp; omega
  go_enter Tryd.func30, Tryd.ntmps30
  go_wp2_with fail
  go_ret2
  exact ⟨rfl, Below.refl _ _⟩
set_option maxHeartbeats 1000000 in
theorem refLabel_any (key label ctx : ByteArray) (n : Nat) (w : World) (hk : key.size ≤ 1000000) (hl : label.size ≤ 249) (hc : ctx.size ≤ 255) (hn : n ≤ 8160) :
    Calls Tryd.prog 30 #[.string key, .string label, .string ctx, .int .i64 (n : Int)] w fun e w' => e = .returned (.tuple #[.string ⟨(expL (blockL (keyOf32 key.data.toList)) (labelL label.data.toList ctx.data.toList n) n).toArray⟩, .int .i64 0]) ∧ Below w.heap.size w w' := by
  have hd1 : decide ((n : Int) < 0) = false := by simp
  have hd2 : decide ((249 : Int) < (label.size : Int)) = false := by simp; omega
  have hd3 : decide ((255 : Int) < (ctx.size : Int)) = false := by simp; omega
  have hd4 : decide ((8160 : Int) < (n : Int)) = false := by simp; omega
  have e1 := ofNat_cell (n / 256) (by omega); have e2 := ofNat_cell (n % 256) (by omega); have e3 := ofNat_cell (label.size + 6) (by omega); have e4 := ofNat_cell ctx.size (by omega)
  obtain ⟨x3, hx3⟩ : ∃ x3 : ByteArray, x3 = ⟨[UInt8.ofNat (n / 256), UInt8.ofNat (n % 256), UInt8.ofNat (label.size + 6)].toArray⟩ := ⟨_, rfl⟩
  obtain ⟨x1, hx1⟩ : ∃ x1 : ByteArray, x1 = ⟨[UInt8.ofNat ctx.size].toArray⟩ := ⟨_, rfl⟩
  have hcv3 := run_string_row (w.alloc (.cells #[.int .u8 ((n : Int) / 256), .int .u8 ((n : Int) % 256), .int .u8 (6 + (label.size : Int))] 5)) w.heap.size 3 [UInt8.ofNat (n / 256), UInt8.ofNat (n % 256), UInt8.ofNat (label.size + 6)] (by
    have e : #[Value.int .u8 ((n : Int) / 256), .int .u8 ((n : Int) % 256), .int .u8 (6 + (label.size : Int))] = bcells [UInt8.ofNat (n / 256), UInt8.ofNat (n % 256), UInt8.ofNat (label.size + 6)] := by
      simp only [bcells, Lib.byteCells, List.map_cons, List.map_nil, e1, e2, e3]
      simp [Int.add_comm]
    rw [e]
    exact cells_of_bcells (blk_new w _))
  have hcv1 := run_string_row ((w.alloc (.cells #[.int .u8 ((n : Int) / 256), .int .u8 ((n : Int) % 256), .int .u8 (6 + (label.size : Int))] 5)).alloc (.cells #[.int .u8 (ctx.size : Int)] 5)) (w.heap.size + 1) 1 [UInt8.ofNat ctx.size] (by
    have e : #[Value.int .u8 (ctx.size : Int)] = bcells [UInt8.ofNat ctx.size] := by
      simp only [bcells, Lib.byteCells, List.map_cons, List.map_nil, e4]
    rw [e]
    exact cells_of_bcells (blk_new2 w _ _))
  simp only [List.length_cons, List.length_nil, Nat.zero_add, Nat.reduceAdd] at hcv3 hcv1
  rw [← hx3] at hcv3
  rw [← hx1] at hcv1
  have hs3 : x3.size = 3 := by rw [hx3, Lib.size_eq]; rfl
  have hs1 : x1.size = 1 := by rw [hx1, Lib.size_eq]; rfl
  have HIL := Lib.hid (show (x3 ++ ((⟨#[116, 108, 115, 49, 51, 32]⟩ : ByteArray) ++ label) ++ x1 ++ ctx).data.toList = labelL label.data.toList ctx.data.toList n from by
    rw [hx3, hx1, labelL, ← Lib.size_eq, ← Lib.size_eq]
    simp [tlsL])
  have hsa : (x3 ++ ((⟨#[116, 108, 115, 49, 51, 32]⟩ : ByteArray) ++ label) ++ x1 ++ ctx).size ≤ 900000 := by
    rw [Lib.size_eq, HIL.out]; simp only [labelL, tlsL, List.length_append, List.length_cons, List.length_nil]; rw [← Lib.size_eq, ← Lib.size_eq]; omega
  have HSA := Lib.hid hsa
  have hB0 := below_new2 w (.cells #[.int .u8 ((n : Int) / 256), .int .u8 ((n : Int) % 256), .int .u8 (6 + (label.size : Int))] 5) (.cells #[.int .u8 (ctx.size : Int)] 5)
  have hsz0 : w.heap.size ≤ ((w.alloc (.cells #[.int .u8 ((n : Int) / 256), .int .u8 ((n : Int) % 256), .int .u8 (6 + (label.size : Int))] 5)).alloc (.cells #[.int .u8 (ctx.size : Int)] 5)).heap.size := by simp; omega
  clear hx3 hx1 e1 e2 e3 e4 hsa
  go_enter Tryd.func30, Tryd.ntmps30
  go_wp2_with fail
  clear hcv3 hcv1
  generalize ((w.alloc _).alloc _) = W0 at *
  have h2 := refExpand_any key (x3 ++ ((⟨#[116, 108, 115, 49, 51, 32]⟩ : ByteArray) ++ label) ++ x1 ++ ctx) n W0 hk HSA.out hn
  rw [HIL.out] at h2
  refine h2.mono ?_
  rintro e W1 ⟨rfl, hb1⟩
  go_wp2_with fail
  go_ret2
  exact ⟨rfl, hB0.trans (hb1.mono hsz0)⟩
end
end Go.Proofs.YtjjgakkijhjaiaaDoor
