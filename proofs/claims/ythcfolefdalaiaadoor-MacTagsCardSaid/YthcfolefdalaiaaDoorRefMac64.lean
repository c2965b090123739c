/- The reference's Mac at SHA-512. -/
import Derived.Test.YthcfolefdalaiaaDoorRefSum64
import Derived.Test.YthcfolefdalaiaaDoorRefMac
namespace Go.Proofs.YthcfolefdalaiaaDoor
open Go.RowKit Go.Sort
set_option maxRecDepth 100000
set_option linter.unusedSimpArgs false
set_option linter.unusedVariables false

set_option maxHeartbeats 1000000 in
theorem refMac64_any (key data : ByteArray) (w : World) (hk : key.size ≤ 1000000) (hd' : data.size ≤ 1000000) :
    Calls Tryd.prog 22 #[.int .i64 64, .string key, .string data] w fun e w' => e = .returned (.tuple #[.string ⟨(mac64 key.data.toList data.data.toList).toArray⟩, .int .i64 0]) ∧ Below w.heap.size w w' := by
  have HM : Hid (mac64 key.data.toList data.data.toList = sha512L kf hf (maskL 128 92 (blockL (keyOf64 key.data.toList)) ++ sha512L kf hf (maskL 128 54 (blockL (keyOf64 key.data.toList)) ++ data.data.toList))) := Lib.hid rfl
  have HL := Lib.hid (blockL_length _ (keyOf64_length key.data.toList))
  by_cases hlong : 128 < key.size
  · have hd : decide ((128 : Int) < (key.size : Int)) = true := by simp; omega
    have HKO := Lib.hid (show keyOf64 key.data.toList = sha512L kf hf key.data.toList from by rw [keyOf64, if_pos (by rw [← Lib.size_eq]; exact hlong)])
    have HK2 := Lib.hid (refSum64_any key w (by omega))
    have HX := Lib.hid (show (sha512L kf hf key.data.toList).length = 64 from sha512L_length _ _ _)
    rw [HKO.out] at HM HL
    go_enter Tryd.func22, Tryd.ntmps22
    go_wp2_with fail
    refine HK2.out.mono ?_
    rintro e W1 ⟨rfl, hB1⟩
    clear HK2 HKO
    have hsz1 := hB1.size
    generalize sha512L kf hf key.data.toList = kl at *
    have hks : (⟨kl.toArray⟩ : ByteArray).size ≤ 128 := by rw [Lib.size_eq]; simp [HX.out]
    have HKD := Lib.hid (show (⟨kl.toArray⟩ : ByteArray).data.toList = kl from by simp)
    generalize (⟨kl.toArray⟩ : ByteArray) = key2 at *
    go_wp2_with fail
    refine (refPadded_any key2 128 54 W1 (by omega) (by omega) hks).mono ?_
    rintro e W2 ⟨rfl, hb2⟩
    rw [HKD.out]
    have hB2 : Below w.heap.size w W2 := hB1.trans (hb2.mono hsz1)
    have hsz2 := Nat.le_trans hsz1 hb2.size
    have hm1 : (⟨(maskL 128 54 (blockL kl)).toArray⟩ : ByteArray).size = 128 := by rw [Lib.size_eq]; simpa using maskL_length 128 54 (blockL kl) (by rw [HL.out]; omega)
    have HE1 := Lib.hid (show ((⟨(maskL 128 54 (blockL kl)).toArray⟩ : ByteArray) ++ data).data.toList = maskL 128 54 (blockL kl) ++ data.data.toList from by simp)
    generalize (⟨(maskL 128 54 (blockL kl)).toArray⟩ : ByteArray) = s1 at *
    go_wp2_with fail
    refine (refSum64_any (s1 ++ data) W2 (by rw [ByteArray.size_append]; omega)).mono ?_
    rintro e W3 ⟨rfl, hb3⟩
    rw [HE1.out]
    have hB3 : Below w.heap.size w W3 := hB2.trans (hb3.mono hsz2)
    have hsz3 := Nat.le_trans hsz2 hb3.size
    have hi1 : (⟨(sha512L kf hf (maskL 128 54 (blockL kl) ++ data.data.toList)).toArray⟩ : ByteArray).size = 64 := by rw [Lib.size_eq]; simpa using sha512L_length kf hf _
    generalize sha512L kf hf (maskL 128 54 (blockL kl) ++ data.data.toList) = d1 at *
    clear HE1 hm1
    go_wp2_with fail
    refine (refPadded_any key2 128 92 W3 (by omega) (by omega) hks).mono ?_
    rintro e W4 ⟨rfl, hb4⟩
    rw [HKD.out]
    have hB4 : Below w.heap.size w W4 := hB3.trans (hb4.mono hsz3)
    have hsz4 := Nat.le_trans hsz3 hb4.size
    have hm2 : (⟨(maskL 128 92 (blockL kl)).toArray⟩ : ByteArray).size = 128 := by rw [Lib.size_eq]; simpa using maskL_length 128 92 (blockL kl) (by rw [HL.out]; omega)
    have HE2 := Lib.hid (show ((⟨(maskL 128 92 (blockL kl)).toArray⟩ : ByteArray) ++ (⟨d1.toArray⟩ : ByteArray)).data.toList = maskL 128 92 (blockL kl) ++ d1 from by simp)
    generalize (⟨(maskL 128 92 (blockL kl)).toArray⟩ : ByteArray) = s2 at *
    generalize (⟨d1.toArray⟩ : ByteArray) = s3 at *
    go_wp2_with fail
    refine (refSum64_any (s2 ++ s3) W4 (by rw [ByteArray.size_append]; omega)).mono ?_
    rintro e W5 ⟨rfl, hb5⟩
    rw [HE2.out, ← HM.out]
    have hB5 : Below w.heap.size w W5 := hB4.trans (hb5.mono hsz4)
    go_wp2_with fail
    go_ret2
    exact ⟨rfl, hB5⟩
  · have hd : decide ((128 : Int) < (key.size : Int)) = false := by simp; omega
    have HKO := Lib.hid (show keyOf64 key.data.toList = key.data.toList from by rw [keyOf64, if_neg (by rw [← Lib.size_eq]; exact hlong)])
    rw [HKO.out] at HM HL
    have hks : key.size ≤ 128 := by omega
    have HKD : Hid (key.data.toList = key.data.toList) := Lib.hid rfl
    have hB1 : Below w.heap.size w w := Below.refl _ _
    have hsz1 : w.heap.size ≤ w.heap.size := Nat.le_refl _
    generalize hkl : key.data.toList = kl at *
    replace HKD := Lib.hid hkl
    clear hkl
    go_enter Tryd.func22, Tryd.ntmps22
    go_wp2_with fail
    refine (refPadded_any key 128 54 w (by omega) (by omega) hks).mono ?_
    rintro e W2 ⟨rfl, hb2⟩
    rw [HKD.out]
    have hB2 : Below w.heap.size w W2 := hB1.trans (hb2.mono hsz1)
    have hsz2 := Nat.le_trans hsz1 hb2.size
    have hm1 : (⟨(maskL 128 54 (blockL kl)).toArray⟩ : ByteArray).size = 128 := by rw [Lib.size_eq]; simpa using maskL_length 128 54 (blockL kl) (by rw [HL.out]; omega)
    have HE1 := Lib.hid (show ((⟨(maskL 128 54 (blockL kl)).toArray⟩ : ByteArray) ++ data).data.toList = maskL 128 54 (blockL kl) ++ data.data.toList from by simp)
    generalize (⟨(maskL 128 54 (blockL kl)).toArray⟩ : ByteArray) = s1 at *
    go_wp2_with fail
    refine (refSum64_any (s1 ++ data) W2 (by rw [ByteArray.size_append]; omega)).mono ?_
    rintro e W3 ⟨rfl, hb3⟩
    rw [HE1.out]
    have hB3 : Below w.heap.size w W3 := hB2.trans (hb3.mono hsz2)
    have hsz3 := Nat.le_trans hsz2 hb3.size
    have hi1 : (⟨(sha512L kf hf (maskL 128 54 (blockL kl) ++ data.data.toList)).toArray⟩ : ByteArray).size = 64 := by rw [Lib.size_eq]; simpa using sha512L_length kf hf _
    generalize sha512L kf hf (maskL 128 54 (blockL kl) ++ data.data.toList) = d1 at *
    clear HE1 hm1
    go_wp2_with fail
    refine (refPadded_any key 128 92 W3 (by omega) (by omega) hks).mono ?_
    rintro e W4 ⟨rfl, hb4⟩
    rw [HKD.out]
    have hB4 : Below w.heap.size w W4 := hB3.trans (hb4.mono hsz3)
    have hsz4 := Nat.le_trans hsz3 hb4.size
    have hm2 : (⟨(maskL 128 92 (blockL kl)).toArray⟩ : ByteArray).size = 128 := by rw [Lib.size_eq]; simpa using maskL_length 128 92 (blockL kl) (by rw [HL.out]; omega)
    have HE2 := Lib.hid (show ((⟨(maskL 128 92 (blockL kl)).toArray⟩ : ByteArray) ++ (⟨d1.toArray⟩ : ByteArray)).data.toList = maskL 128 92 (blockL kl) ++ d1 from by simp)
    generalize (⟨(maskL 128 92 (blockL kl)).toArray⟩ : ByteArray) = s2 at *
    generalize (⟨d1.toArray⟩ : ByteArray) = s3 at *
    go_wp2_with fail
    refine (refSum64_any (s2 ++ s3) W4 (by rw [ByteArray.size_append]; omega)).mono ?_
    rintro e W5 ⟨rfl, hb5⟩
    rw [HE2.out, ← HM.out]
    have hB5 : Below w.heap.size w W5 := hB4.trans (hb5.mono hsz4)
    go_wp2_with fail
    go_ret2
    exact ⟨rfl, hB5⟩
theorem refMacNone_any (size : Int) (key data : ByteArray) (w : World) (h1 : size ≠ 32) (h2 : size ≠ 64) :
    Calls Tryd.prog 22 #[.int .i64 size, .string key, .string data] w fun e w' => e = .returned (.tuple #[.string ⟨#[]⟩, .int .i64 1]) ∧ Below w.heap.size w w' := by
  have hd1 : (size == 32) = false := by simpa using h1
  have hd2 : (size == 64) = false := by simpa using h2
  go_enter Tryd.func22, Tryd.ntmps22
  go_wp2_with fail
  go_ret2
  exact ⟨rfl, Below.refl _ _⟩
end Go.Proofs.YthcfolefdalaiaaDoor
