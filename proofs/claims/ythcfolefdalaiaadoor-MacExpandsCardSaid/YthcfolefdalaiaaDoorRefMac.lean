/- The reference's padded, and Mac at SHA-256. -/
import Derived.Test.YthcfolefdalaiaaDoorRefSum32
import Derived.Test.YthcfolefdalaiaaDoorMacX
namespace Go.Proofs.YthcfolefdalaiaaDoor
open Go.RowKit Go.Sort
set_option maxRecDepth 100000
set_option linter.unusedSimpArgs false
set_option linter.unusedVariables false

theorem maskL_snoc (k : Nat) (c : Int) (b : List UInt8) (x : UInt8) (h : b[k]? = some x) : maskL (k + 1) c b = maskL k c b ++ [xorB c x] := by
  have hk : k < b.length := (List.getElem?_eq_some_iff.1 h).1
  have hx : b[k] = x := (List.getElem?_eq_some_iff.1 h).2
  rw [maskL, List.take_succ_eq_append_getElem hk, hx, maskL]; simp
theorem blockL_get (l : List UInt8) (k : Nat) (h : k < l.length) : (blockL l)[k]? = l[k]? := by rw [blockL, List.getElem?_append_left h]
theorem blockL_zero (l : List UInt8) (k : Nat) (h : l.length ≤ k) (h' : k < 128) : (blockL l)[k]? = some 0 := by
  rw [blockL, List.getElem?_append_right h, List.getElem?_replicate, if_pos (by omega)]

set_option maxHeartbeats 1000000 in
theorem refPadded_any (key : ByteArray) (n : Nat) (c : Int) (w : World) (hn0 : 0 < n) (hn : n ≤ 128) (hk : key.size ≤ 128) :
    Calls Tryd.prog 47 #[.string key, .int .i64 (n : Int), .int .u8 c] w fun e w' => e = .returned (.string ⟨(maskL n c (blockL key.data.toList)).toArray⟩) ∧ Below w.heap.size w w' := by
  obtain ⟨i0, hi, hz0, hz1, hz2⟩ := info_parts info_u8
  have hbl : (blockL key.data.toList).length = 128 := blockL_length _ (by rw [← Lib.size_eq]; exact hk)
  have HG1 := Lib.hid (fun k (h : k < key.size) => (blockL_get key.data.toList k (by rw [← Lib.size_eq]; exact h)).trans (show key.data.toList[k]? = some key[k] from by rw [List.getElem?_eq_getElem (by rw [← Lib.size_eq]; exact h)]; rfl))
  have HG2 := Lib.hid (fun k (h : key.size ≤ k) (h' : k < 128) => blockL_zero key.data.toList k (by rw [← Lib.size_eq]; exact h) h')
  generalize hbb : blockL key.data.toList = b at *
  have HBL := Lib.hid hbl; have HBB0 := Lib.hid hbb
  clear hbb hbl
  go_enter Tryd.func47, Tryd.ntmps47
  go_wp2_with fail
  generalize hBB : w.heap.size = B at *
  have HBB := Lib.hid hBB
  have hszB : B ≤ w.heap.size := by omega
  clear hBB
  go_loopw [7, 8] (fun v i wr => ∃ (k : Nat) (ao : Option Addr) (cap : Nat), k ≤ n ∧ i = .int .i64 k ∧ v = .slice ao k cap ∧ Own wr B (.slice ao k cap) (Lib.byteCells (maskL k c b)) ∧ Below B w wr ∧ B ≤ wr.heap.size) (fun _ i _ => n - (intOf i).toNat)
  case atStart => exact ⟨0, none, 0, by omega, rfl, rfl, Own.nil _ _, Below.refl _ _, hszB⟩
  case round =>
    obtain ⟨k, ao, cap, hkn, rfl, rfl, hown, hb, hsz⟩ := hrel
    have HO := Lib.hid hown
    have HL := Lib.hid (show (Lib.byteCells (maskL k c b)).length = k from by rw [Lib.byteCells_length, maskL_length _ _ _ (by rw [HBL.out]; omega)])
    clear hown
    by_cases hlt : k < n
    · have hd : decide ((k : Int) < (n : Int)) = true := by simp; omega
      by_cases hkk : k < key.size
      · have hd2 : decide ((k : Int) < (key.size : Int)) = true := by simp; omega
        have HS := Lib.hid (maskL_snoc k c b _ (HG1.out k hkk))
        have HX := Lib.hid (xorB_toNat c key[k])
        go_wp2_with (at_builtin; refine wpList_append_sl rfl (.tmp 22) (.tmp 26) 46 rfl B 5 i0 (.int .u8 0) 1 Tryd.underlying46 hi hz0 hz1 hz2 rfl ao k cap _ rfl (HO.out.alloc _) HL.out ⟨wr.heap.size, 0, none⟩ 1 1 [.int .u8 (bits .xor .u8 (key[k].toNat : Int) c)] rfl rfl (cell_one_new _ _ _) ?a2 ?a3 ?a4 ?a5 ?_)
        case a2 => intro u hu; simp at hu; subst hu; rfl
        case a3 => omega
        case a4 => omega
        case a5 => simp; omega
        intro ao1 cap1 W1 hown1 hgrow1
        have hb1 : Below B w W1 := below_append (hb.alloc hsz _) (by simp; omega) (HO.out.alloc _) hgrow1
        have hsz1 : B ≤ W1.heap.size := by have := hgrow1.size; simp at this; omega
        have hown2 : Own W1 B (.slice ao1 (k + 1) cap1) (Lib.byteCells (maskL (k + 1) c b)) := by
          rw [HS.out, Lib.byteCells_append]
          have e : Lib.byteCells [xorB c key[k]] = [.int .u8 (bits .xor .u8 (key[k].toNat : Int) c)] := by simp only [Lib.byteCells, List.map_cons, List.map_nil, HX.out]
          rw [e]; exact hown1
        clear hown1 hgrow1 HO hb hsz
        go_wp2_with fail
        go_roundw
        case rel => exact ⟨k + 1, ao1, cap1, by omega, by go_num, rfl, hown2, hb1, hsz1⟩
        case measure => simp [intOf]; omega
      · have hd2 : decide ((k : Int) < (key.size : Int)) = false := by simp; omega
        have HS := Lib.hid (maskL_snoc k c b _ (HG2.out k (by omega) (by omega)))
        have HX := Lib.hid (show ((xorB c 0).toNat : Int) = bits .xor .u8 0 c from xorB_toNat c 0)
        go_wp2_with (at_builtin; refine wpList_append_sl rfl (.tmp 22) (.tmp 26) 46 rfl B 5 i0 (.int .u8 0) 1 Tryd.underlying46 hi hz0 hz1 hz2 rfl ao k cap _ rfl (HO.out.alloc _) HL.out ⟨wr.heap.size, 0, none⟩ 1 1 [.int .u8 (bits .xor .u8 0 c)] rfl rfl (cell_one_new _ _ _) ?c2 ?c3 ?c4 ?c5 ?_)
        case c2 => intro u hu; simp at hu; subst hu; rfl
        case c3 => omega
        case c4 => omega
        case c5 => simp; omega
        intro ao1 cap1 W1 hown1 hgrow1
        have hb1 : Below B w W1 := below_append (hb.alloc hsz _) (by simp; omega) (HO.out.alloc _) hgrow1
        have hsz1 : B ≤ W1.heap.size := by have := hgrow1.size; simp at this; omega
        have hown2 : Own W1 B (.slice ao1 (k + 1) cap1) (Lib.byteCells (maskL (k + 1) c b)) := by
          rw [HS.out, Lib.byteCells_append]
          have e : Lib.byteCells [xorB c 0] = [.int .u8 (bits .xor .u8 0 c)] := by simp only [Lib.byteCells, List.map_cons, List.map_nil, HX.out]
          rw [e]; exact hown1
        clear hown1 hgrow1 HO hb hsz
        go_wp2_with fail
        go_roundw
        case rel => exact ⟨k + 1, ao1, cap1, by omega, by go_num, rfl, hown2, hb1, hsz1⟩
        case measure => simp [intOf]; omega
    · have hd : decide ((k : Int) < (n : Int)) = false := by simp; omega
      obtain rfl : k = n := by omega
      obtain ⟨Ob, cpO, hvv, hoO, _⟩ := HO.out.some (by rw [HL.out]; omega)
      rw [HL.out] at hvv
      cases hvv
      have hcv := run_string_row wr Ob cap (maskL k c b) (fun j x hx => hoO.cells j _ (by simp [Lib.byteCells, hx]))
      rw [maskL_length _ _ _ (by rw [HBL.out]; omega)] at hcv
      clear hoO HO HL
      go_wp2_with fail
      go_ret
      exact ⟨rfl, by rw [HBB.out]; exact hb⟩

set_option maxHeartbeats 1000000 in
theorem refMac32_any (key data : ByteArray) (w : World) (hk : key.size ≤ 1000000) (hd' : data.size ≤ 1000000) :
    Calls Tryd.prog 22 #[.int .i64 32, .string key, .string data] w fun e w' => e = .returned (.tuple #[.string ⟨(mac32 key.data.toList data.data.toList).toArray⟩, .int .i64 0]) ∧ Below w.heap.size w w' := by
  have HM : Hid (mac32 key.data.toList data.data.toList = sha256L kf hf (maskL 64 92 (blockL (keyOf32 key.data.toList)) ++ sha256L kf hf (maskL 64 54 (blockL (keyOf32 key.data.toList)) ++ data.data.toList))) := Lib.hid rfl
  have HL := Lib.hid (blockL_length _ (Nat.le_trans (keyOf32_length key.data.toList) (by omega)))
  by_cases hlong : 64 < key.size
  · have hd : decide ((64 : Int) < (key.size : Int)) = true := by simp; omega
    have HKO := Lib.hid (show keyOf32 key.data.toList = sha256L kf hf key.data.toList from by rw [keyOf32, if_pos (by rw [← Lib.size_eq]; exact hlong)])
    have HK2 := Lib.hid (refSum32_any key w (by omega))
    have HX := Lib.hid (show (sha256L kf hf key.data.toList).length = 32 from sha256L_length _ _ _)
    rw [HKO.out] at HM HL
    go_enter Tryd.func22, Tryd.ntmps22
    go_wp2_with fail
    refine HK2.out.mono ?_
    rintro e W1 ⟨rfl, hB1⟩
    clear HK2 HKO
    have hsz1 := hB1.size
    generalize sha256L kf hf key.data.toList = kl at *
    have hks : (⟨kl.toArray⟩ : ByteArray).size ≤ 128 := by rw [Lib.size_eq]; simp [HX.out]
    have HKD := Lib.hid (show (⟨kl.toArray⟩ : ByteArray).data.toList = kl from by simp)
    generalize (⟨kl.toArray⟩ : ByteArray) = key2 at *
    go_wp2_with fail
    refine (refPadded_any key2 64 54 W1 (by omega) (by omega) hks).mono ?_
    rintro e W2 ⟨rfl, hb2⟩
    rw [HKD.out]
    have hB2 : Below w.heap.size w W2 := hB1.trans (hb2.mono hsz1)
    have hsz2 := Nat.le_trans hsz1 hb2.size
    have hm1 : (⟨(maskL 64 54 (blockL kl)).toArray⟩ : ByteArray).size = 64 := by rw [Lib.size_eq]; simpa using maskL_length 64 54 (blockL kl) (by rw [HL.out]; omega)
    have HE1 := Lib.hid (show ((⟨(maskL 64 54 (blockL kl)).toArray⟩ : ByteArray) ++ data).data.toList = maskL 64 54 (blockL kl) ++ data.data.toList from by simp)
    generalize (⟨(maskL 64 54 (blockL kl)).toArray⟩ : ByteArray) = s1 at *
    go_wp2_with fail
    refine (refSum32_any (s1 ++ data) W2 (by rw [ByteArray.size_append]; omega)).mono ?_
    rintro e W3 ⟨rfl, hb3⟩
    rw [HE1.out]
    have hB3 : Below w.heap.size w W3 := hB2.trans (hb3.mono hsz2)
    have hsz3 := Nat.le_trans hsz2 hb3.size
    have hi1 : (⟨(sha256L kf hf (maskL 64 54 (blockL kl) ++ data.data.toList)).toArray⟩ : ByteArray).size = 32 := by rw [Lib.size_eq]; simpa using sha256L_length kf hf _
    generalize sha256L kf hf (maskL 64 54 (blockL kl) ++ data.data.toList) = d1 at *
    clear HE1 hm1
    go_wp2_with fail
    refine (refPadded_any key2 64 92 W3 (by omega) (by omega) hks).mono ?_
    rintro e W4 ⟨rfl, hb4⟩
    rw [HKD.out]
    have hB4 : Below w.heap.size w W4 := hB3.trans (hb4.mono hsz3)
    have hsz4 := Nat.le_trans hsz3 hb4.size
    have hm2 : (⟨(maskL 64 92 (blockL kl)).toArray⟩ : ByteArray).size = 64 := by rw [Lib.size_eq]; simpa using maskL_length 64 92 (blockL kl) (by rw [HL.out]; omega)
    have HE2 := Lib.hid (show ((⟨(maskL 64 92 (blockL kl)).toArray⟩ : ByteArray) ++ (⟨d1.toArray⟩ : ByteArray)).data.toList = maskL 64 92 (blockL kl) ++ d1 from by simp)
    generalize (⟨(maskL 64 92 (blockL kl)).toArray⟩ : ByteArray) = s2 at *
    generalize (⟨d1.toArray⟩ : ByteArray) = s3 at *
    go_wp2_with fail
    refine (refSum32_any (s2 ++ s3) W4 (by rw [ByteArray.size_append]; omega)).mono ?_
    rintro e W5 ⟨rfl, hb5⟩
    rw [HE2.out, ← HM.out]
    have hB5 : Below w.heap.size w W5 := hB4.trans (hb5.mono hsz4)
    go_wp2_with fail
    go_ret2
    exact ⟨rfl, hB5⟩
  · have hd : decide ((64 : Int) < (key.size : Int)) = false := by simp; omega
    have HKO := Lib.hid (show keyOf32 key.data.toList = key.data.toList from by rw [keyOf32, if_neg (by rw [← Lib.size_eq]; exact hlong)])
    rw [HKO.out] at HM HL
    have hks : key.size ≤ 128 := by omega
    have HKD : Hid (key.data.toList = key.data.toList) := Lib.hid rfl
    have hB1 : Below w.heap.size w w := Below.refl _ _
    have hsz1 : w.heap.size ≤ w.heap.size := Nat.le_refl _
    generalize hkl : key.data.toList = kl at *
    replace HKD := Lib.hid hkl
    clear hkl
    go_enter Tryd.func22, Tryd.ntmps22
    go_wp2_with fail
    refine (refPadded_any key 64 54 w (by omega) (by omega) hks).mono ?_
    rintro e W2 ⟨rfl, hb2⟩
    rw [HKD.out]
    have hB2 : Below w.heap.size w W2 := hB1.trans (hb2.mono hsz1)
    have hsz2 := Nat.le_trans hsz1 hb2.size
    have hm1 : (⟨(maskL 64 54 (blockL kl)).toArray⟩ : ByteArray).size = 64 := by rw [Lib.size_eq]; simpa using maskL_length 64 54 (blockL kl) (by rw [HL.out]; omega)
    have HE1 := Lib.hid (show ((⟨(maskL 64 54 (blockL kl)).toArray⟩ : ByteArray) ++ data).data.toList = maskL 64 54 (blockL kl) ++ data.data.toList from by simp)
    generalize (⟨(maskL 64 54 (blockL kl)).toArray⟩ : ByteArray) = s1 at *
    go_wp2_with fail
    refine (refSum32_any (s1 ++ data) W2 (by rw [ByteArray.size_append]; omega)).mono ?_
    rintro e W3 ⟨rfl, hb3⟩
    rw [HE1.out]
    have hB3 : Below w.heap.size w W3 := hB2.trans (hb3.mono hsz2)
    have hsz3 := Nat.le_trans hsz2 hb3.size
    have hi1 : (⟨(sha256L kf hf (maskL 64 54 (blockL kl) ++ data.data.toList)).toArray⟩ : ByteArray).size = 32 := by rw [Lib.size_eq]; simpa using sha256L_length kf hf _
    generalize sha256L kf hf (maskL 64 54 (blockL kl) ++ data.data.toList) = d1 at *
    clear HE1 hm1
    go_wp2_with fail
    refine (refPadded_any key 64 92 W3 (by omega) (by omega) hks).mono ?_
    rintro e W4 ⟨rfl, hb4⟩
    rw [HKD.out]
    have hB4 : Below w.heap.size w W4 := hB3.trans (hb4.mono hsz3)
    have hsz4 := Nat.le_trans hsz3 hb4.size
    have hm2 : (⟨(maskL 64 92 (blockL kl)).toArray⟩ : ByteArray).size = 64 := by rw [Lib.size_eq]; simpa using maskL_length 64 92 (blockL kl) (by rw [HL.out]; omega)
    have HE2 := Lib.hid (show ((⟨(maskL 64 92 (blockL kl)).toArray⟩ : ByteArray) ++ (⟨d1.toArray⟩ : ByteArray)).data.toList = maskL 64 92 (blockL kl) ++ d1 from by simp)
    generalize (⟨(maskL 64 92 (blockL kl)).toArray⟩ : ByteArray) = s2 at *
    generalize (⟨d1.toArray⟩ : ByteArray) = s3 at *
    go_wp2_with fail
    refine (refSum32_any (s2 ++ s3) W4 (by rw [ByteArray.size_append]; omega)).mono ?_
    rintro e W5 ⟨rfl, hb5⟩
    rw [HE2.out, ← HM.out]
    have hB5 : Below w.heap.size w W5 := hB4.trans (hb5.mono hsz4)
    go_wp2_with fail
    go_ret2
    exact ⟨rfl, hB5⟩
end Go.Proofs.YthcfolefdalaiaaDoor
