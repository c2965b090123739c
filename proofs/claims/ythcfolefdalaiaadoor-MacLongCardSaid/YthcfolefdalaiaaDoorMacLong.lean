/- MacLong: for every key of at most 500 bytes and data of at most 1000 the program's Mac under a key that is longer than a block is that under its digest, under a shorter one that with a zero byte behind it, for both sizes; a code has as many bytes as its size; the chapter's examples hold. No condition; the two tables of package sha lie as the program's text lays them. -/
import Derived.Test.YthcfolefdalaiaaDoorFrame
import Derived.Test.YthcfolefdalaiaaDoorCards
import Derived.Test.YthcfolefdalaiaaDoorTie
import Derived.SevenTiedAt
import Derived.Test.YthcfolefdalaiaaDoorMacAwake
namespace Go.Proofs.YthcfolefdalaiaaDoor
open Go.ChangeShapes Go.WideShapes Go.ChangeAt Go.WideMaps Go.WideElems Go.RowKit
open Go.ChangeMaps (open_string shut_string)
set_option maxRecDepth 100000
set_option linter.unusedSimpArgs false
set_option linter.unusedVariables false

theorem mac32_long (key data : List UInt8) (h : 64 < key.length) : mac32 (sha256L kf hf key) data = mac32 key data := by
  rw [mac32, mac32, keyOf32, if_neg (by rw [sha256L_length]; omega), keyOf32, if_pos h]
theorem mac32_short (key data : List UInt8) (h : key.length < 64) : mac32 (key ++ [0]) data = mac32 key data := by
  rw [mac32, mac32, keyOf32, if_neg (by simp; omega), keyOf32, if_neg (by omega), blockL_snoc _ (by omega)]
theorem mac64_long (key data : List UInt8) (h : 128 < key.length) : mac64 (sha512L kf hf key) data = mac64 key data := by
  rw [mac64, mac64, keyOf64, if_neg (by rw [sha512L_length]; omega), keyOf64, if_pos h]
theorem mac64_short (key data : List UInt8) (h : key.length < 128) : mac64 (key ++ [0]) data = mac64 key data := by
  rw [mac64, mac64, keyOf64, if_neg (by simp; omega), keyOf64, if_neg (by omega), blockL_snoc _ (by omega)]
set_option maxHeartbeats 4000000 in
theorem macLong_any (a b : ByteArray) (w : World) (ha : a.size ≤ maxLen) (hb : b.size ≤ maxLen) (hK : TabK w kf) (hH : TabH w hf) :
    Calls Tryd.prog 11 #[.string a, .string b] w fun e w' => e = .returned (.bool true) ∧ Below w.heap.size w w' := by
  unfold maxLen at ha hb
  by_cases hsa : 500 < a.size
  · have hd : decide ((500 : Int) < (a.size : Int)) = true := by simp; omega
    go_enter Tryd.func11, Tryd.ntmps11
    go_wp2_with fail
    refine (mawake_any _ hK hH).mono ?_
    rintro e W1 ⟨rfl, hb1⟩
    go_wp2_with fail
    go_ret
    exact ⟨rfl, hb1⟩
  have hd : decide ((500 : Int) < (a.size : Int)) = false := by simp; omega
  by_cases hsb : 1000 < b.size
  · have hd2 : decide ((1000 : Int) < (b.size : Int)) = true := by simp; omega
    go_enter Tryd.func11, Tryd.ntmps11
    go_wp2_with fail
    refine (mawake_any _ hK hH).mono ?_
    rintro e W1 ⟨rfl, hb1⟩
    go_wp2_with fail
    go_ret
    exact ⟨rfl, hb1⟩
  have hd2 : decide ((1000 : Int) < (b.size : Int)) = false := by simp; omega
  have hal : a.data.toList.length = a.size := (Lib.size_eq a).symm
  have h1 := fun W hK hH => mac32_any a b W hK hH (by omega) (by omega)
  have h2 := fun W hK hH => mac64_any a b W hK hH (by omega) (by omega)
  have ES : Hid ((a ++ (⟨#[0]⟩ : ByteArray)).data.toList = a.data.toList ++ [0] ∧ (a ++ (⟨#[0]⟩ : ByteArray)).size ≤ 1000) := Lib.hid ⟨by simp, by rw [ByteArray.size_append]; show a.size + 1 ≤ 1000; omega⟩
  have s1 := fun W hK hH => sum256_any kf hf a W hK hH (by omega)
  have s2 := fun W hK hH => sum512_any kf hf a W hK hH (by omega)
  have L1 := Lib.hid (show (⟨(mac32 a.data.toList b.data.toList).toArray⟩ : ByteArray).size = 32 from by rw [Lib.size_eq]; simp [mac32, code32_length])
  have L2 := Lib.hid (show (⟨(mac64 a.data.toList b.data.toList).toArray⟩ : ByteArray).size = 64 from by rw [Lib.size_eq]; simp [mac64, code64_length])
  have H1 := Lib.hid h1; have H2 := Lib.hid h2; have S1 := Lib.hid s1; have S2 := Lib.hid s2
  clear h1 h2 s1 s2
  rcases (by omega : a.size < 64 ∨ a.size = 64 ∨ (64 < a.size ∧ a.size < 128) ∨ a.size = 128 ∨ 128 < a.size) with hc | hc | hc | hc | hc
  · have h := fun W hK hH => mac32_any (a ++ ⟨#[0]⟩) b W hK hH (by have := ES.out.2; omega) (by omega)
    rw [ES.out.1, mac32_short _ _ (by omega)] at h
    have H3 := Lib.hid h
    clear h
    have h := fun W hK hH => mac64_any (a ++ ⟨#[0]⟩) b W hK hH (by have := ES.out.2; omega) (by omega)
    rw [ES.out.1, mac64_short _ _ (by omega)] at h
    have H4 := Lib.hid h
    clear h
    have e1 : decide ((64 : Int) < (a.size : Int)) = false := by simp; omega
    have e3 : decide ((128 : Int) < (a.size : Int)) = false := by simp; omega
    have e2 : decide ((a.size : Int) < 64) = true := by simp; omega
    have e4 : decide ((a.size : Int) < 128) = true := by simp; omega
    clear ES hal
    generalize (⟨(mac32 a.data.toList b.data.toList).toArray⟩ : ByteArray) = x at *
    generalize (⟨(mac64 a.data.toList b.data.toList).toArray⟩ : ByteArray) = y at *
    have l1 : ((x.size : Int) == 32) = true := by rw [L1.out]; rfl
    have l2 : ((y.size : Int) == 64) = true := by rw [L2.out]; rfl
    have hB0 : Below w.heap.size w w := Below.refl _ _
    have hsz0 : w.heap.size ≤ w.heap.size := Nat.le_refl _
    have hK0 := hK; have hH0 := hH
    clear hK hH
    go_enter Tryd.func11, Tryd.ntmps11
    go_wp2_with fail
    refine (H1.out w hK0 hH0).mono ?_
    rintro e W1 ⟨rfl, hb1⟩
    have hK1 := hK0.below hb1 hK0.lt; have hH1 := hH0.below hb1 hH0.lt
    have hB1 : Below w.heap.size w W1 := hB0.trans (hb1.mono hsz0)
    have hsz1 := Nat.le_trans hsz0 hb1.size
    clear hK0 hH0 hB0 hb1 hsz0
    go_wp2_with fail
    refine (H2.out W1 hK1 hH1).mono ?_
    rintro e W2 ⟨rfl, hb2⟩
    have hK2 := hK1.below hb2 hK1.lt; have hH2 := hH1.below hb2 hH1.lt
    have hB2 : Below w.heap.size w W2 := hB1.trans (hb2.mono hsz1)
    have hsz2 := Nat.le_trans hsz1 hb2.size
    clear hK1 hH1 hB1 hb2 hsz1
    go_wp2_with fail
    refine (H3.out W2 hK2 hH2).mono ?_
    rintro e W3 ⟨rfl, hb3⟩
    have hK3 := hK2.below hb3 hK2.lt; have hH3 := hH2.below hb3 hH2.lt
    have hB3 : Below w.heap.size w W3 := hB2.trans (hb3.mono hsz2)
    have hsz3 := Nat.le_trans hsz2 hb3.size
    clear hK2 hH2 hB2 hb3 hsz2
    go_wp2_with fail
    refine (H4.out W3 hK3 hH3).mono ?_
    rintro e W4 ⟨rfl, hb4⟩
    have hK4 := hK3.below hb4 hK3.lt; have hH4 := hH3.below hb4 hH3.lt
    have hB4 : Below w.heap.size w W4 := hB3.trans (hb4.mono hsz3)
    have hsz4 := Nat.le_trans hsz3 hb4.size
    clear hK3 hH3 hB3 hb4 hsz3
    go_wp2_with fail
    refine (mawake_any _ hK4 hH4).mono ?_
    rintro e W5 ⟨rfl, hb5⟩
    go_wp2_with fail
    go_ret
    exact ⟨rfl, hB4.trans (hb5.mono hsz4)⟩
  · have H3 := H1
    have h := fun W hK hH => mac64_any (a ++ ⟨#[0]⟩) b W hK hH (by have := ES.out.2; omega) (by omega)
    rw [ES.out.1, mac64_short _ _ (by omega)] at h
    have H4 := Lib.hid h
    clear h
    have e1 : decide ((64 : Int) < (a.size : Int)) = false := by simp; omega
    have e3 : decide ((128 : Int) < (a.size : Int)) = false := by simp; omega
    have e2 : decide ((a.size : Int) < 64) = false := by simp; omega
    have e4 : decide ((a.size : Int) < 128) = true := by simp; omega
    clear ES hal
    generalize (⟨(mac32 a.data.toList b.data.toList).toArray⟩ : ByteArray) = x at *
    generalize (⟨(mac64 a.data.toList b.data.toList).toArray⟩ : ByteArray) = y at *
    have l1 : ((x.size : Int) == 32) = true := by rw [L1.out]; rfl
    have l2 : ((y.size : Int) == 64) = true := by rw [L2.out]; rfl
    have hB0 : Below w.heap.size w w := Below.refl _ _
    have hsz0 : w.heap.size ≤ w.heap.size := Nat.le_refl _
    have hK0 := hK; have hH0 := hH
    clear hK hH
    go_enter Tryd.func11, Tryd.ntmps11
    go_wp2_with fail
    refine (H1.out w hK0 hH0).mono ?_
    rintro e W1 ⟨rfl, hb1⟩
    have hK1 := hK0.below hb1 hK0.lt; have hH1 := hH0.below hb1 hH0.lt
    have hB1 : Below w.heap.size w W1 := hB0.trans (hb1.mono hsz0)
    have hsz1 := Nat.le_trans hsz0 hb1.size
    clear hK0 hH0 hB0 hb1 hsz0
    go_wp2_with fail
    refine (H2.out W1 hK1 hH1).mono ?_
    rintro e W2 ⟨rfl, hb2⟩
    have hK2 := hK1.below hb2 hK1.lt; have hH2 := hH1.below hb2 hH1.lt
    have hB2 : Below w.heap.size w W2 := hB1.trans (hb2.mono hsz1)
    have hsz2 := Nat.le_trans hsz1 hb2.size
    clear hK1 hH1 hB1 hb2 hsz1
    go_wp2_with fail
    refine (H3.out W2 hK2 hH2).mono ?_
    rintro e W3 ⟨rfl, hb3⟩
    have hK3 := hK2.below hb3 hK2.lt; have hH3 := hH2.below hb3 hH2.lt
    have hB3 : Below w.heap.size w W3 := hB2.trans (hb3.mono hsz2)
    have hsz3 := Nat.le_trans hsz2 hb3.size
    clear hK2 hH2 hB2 hb3 hsz2
    go_wp2_with fail
    refine (H4.out W3 hK3 hH3).mono ?_
    rintro e W4 ⟨rfl, hb4⟩
    have hK4 := hK3.below hb4 hK3.lt; have hH4 := hH3.below hb4 hH3.lt
    have hB4 : Below w.heap.size w W4 := hB3.trans (hb4.mono hsz3)
    have hsz4 := Nat.le_trans hsz3 hb4.size
    clear hK3 hH3 hB3 hb4 hsz3
    go_wp2_with fail
    refine (mawake_any _ hK4 hH4).mono ?_
    rintro e W5 ⟨rfl, hb5⟩
    go_wp2_with fail
    go_ret
    exact ⟨rfl, hB4.trans (hb5.mono hsz4)⟩
  · have h := fun W hK hH => mac32_any ⟨(sha256L kf hf a.data.toList).toArray⟩ b W hK hH (by rw [Lib.size_eq]; simp [sha256L_length]) (by omega)
    simp only [List.toList_toArray] at h
    rw [mac32_long _ _ (by omega)] at h
    have H3 := Lib.hid h
    clear h
    have h := fun W hK hH => mac64_any (a ++ ⟨#[0]⟩) b W hK hH (by have := ES.out.2; omega) (by omega)
    rw [ES.out.1, mac64_short _ _ (by omega)] at h
    have H4 := Lib.hid h
    clear h
    have e1 : decide ((64 : Int) < (a.size : Int)) = true := by simp; omega
    have e3 : decide ((128 : Int) < (a.size : Int)) = false := by simp; omega
    have e4 : decide ((a.size : Int) < 128) = true := by simp; omega
    clear ES hal
    generalize (⟨(mac32 a.data.toList b.data.toList).toArray⟩ : ByteArray) = x at *
    generalize (⟨(mac64 a.data.toList b.data.toList).toArray⟩ : ByteArray) = y at *
    have l1 : ((x.size : Int) == 32) = true := by rw [L1.out]; rfl
    have l2 : ((y.size : Int) == 64) = true := by rw [L2.out]; rfl
    generalize (⟨(sha256L kf hf a.data.toList).toArray⟩ : ByteArray) = dx at *
    have hB0 : Below w.heap.size w w := Below.refl _ _
    have hsz0 : w.heap.size ≤ w.heap.size := Nat.le_refl _
    have hK0 := hK; have hH0 := hH
    clear hK hH
    go_enter Tryd.func11, Tryd.ntmps11
    go_wp2_with fail
    refine (H1.out w hK0 hH0).mono ?_
    rintro e W1 ⟨rfl, hb1⟩
    have hK1 := hK0.below hb1 hK0.lt; have hH1 := hH0.below hb1 hH0.lt
    have hB1 : Below w.heap.size w W1 := hB0.trans (hb1.mono hsz0)
    have hsz1 := Nat.le_trans hsz0 hb1.size
    clear hK0 hH0 hB0 hb1 hsz0
    go_wp2_with fail
    refine (H2.out W1 hK1 hH1).mono ?_
    rintro e W2 ⟨rfl, hb2⟩
    have hK2 := hK1.below hb2 hK1.lt; have hH2 := hH1.below hb2 hH1.lt
    have hB2 : Below w.heap.size w W2 := hB1.trans (hb2.mono hsz1)
    have hsz2 := Nat.le_trans hsz1 hb2.size
    clear hK1 hH1 hB1 hb2 hsz1
    go_wp2_with fail
    refine (S1.out W2 hK2 hH2).mono ?_
    rintro e W3 ⟨rfl, hb3⟩
    have hK3 := hK2.below hb3 hK2.lt; have hH3 := hH2.below hb3 hH2.lt
    have hB3 : Below w.heap.size w W3 := hB2.trans (hb3.mono hsz2)
    have hsz3 := Nat.le_trans hsz2 hb3.size
    clear hK2 hH2 hB2 hb3 hsz2
    go_wp2_with fail
    refine (H3.out W3 hK3 hH3).mono ?_
    rintro e W4 ⟨rfl, hb4⟩
    have hK4 := hK3.below hb4 hK3.lt; have hH4 := hH3.below hb4 hH3.lt
    have hB4 : Below w.heap.size w W4 := hB3.trans (hb4.mono hsz3)
    have hsz4 := Nat.le_trans hsz3 hb4.size
    clear hK3 hH3 hB3 hb4 hsz3
    go_wp2_with fail
    refine (H4.out W4 hK4 hH4).mono ?_
    rintro e W5 ⟨rfl, hb5⟩
    have hK5 := hK4.below hb5 hK4.lt; have hH5 := hH4.below hb5 hH4.lt
    have hB5 : Below w.heap.size w W5 := hB4.trans (hb5.mono hsz4)
    have hsz5 := Nat.le_trans hsz4 hb5.size
    clear hK4 hH4 hB4 hb5 hsz4
    go_wp2_with fail
    refine (mawake_any _ hK5 hH5).mono ?_
    rintro e W6 ⟨rfl, hb6⟩
    go_wp2_with fail
    go_ret
    exact ⟨rfl, hB5.trans (hb6.mono hsz5)⟩
  · have h := fun W hK hH => mac32_any ⟨(sha256L kf hf a.data.toList).toArray⟩ b W hK hH (by rw [Lib.size_eq]; simp [sha256L_length]) (by omega)
    simp only [List.toList_toArray] at h
    rw [mac32_long _ _ (by omega)] at h
    have H3 := Lib.hid h
    clear h
    have H4 := H2
    have e1 : decide ((64 : Int) < (a.size : Int)) = true := by simp; omega
    have e3 : decide ((128 : Int) < (a.size : Int)) = false := by simp; omega
    have e4 : decide ((a.size : Int) < 128) = false := by simp; omega
    clear ES hal
    generalize (⟨(mac32 a.data.toList b.data.toList).toArray⟩ : ByteArray) = x at *
    generalize (⟨(mac64 a.data.toList b.data.toList).toArray⟩ : ByteArray) = y at *
    have l1 : ((x.size : Int) == 32) = true := by rw [L1.out]; rfl
    have l2 : ((y.size : Int) == 64) = true := by rw [L2.out]; rfl
    generalize (⟨(sha256L kf hf a.data.toList).toArray⟩ : ByteArray) = dx at *
    have hB0 : Below w.heap.size w w := Below.refl _ _
    have hsz0 : w.heap.size ≤ w.heap.size := Nat.le_refl _
    have hK0 := hK; have hH0 := hH
    clear hK hH
    go_enter Tryd.func11, Tryd.ntmps11
    go_wp2_with fail
    refine (H1.out w hK0 hH0).mono ?_
    rintro e W1 ⟨rfl, hb1⟩
    have hK1 := hK0.below hb1 hK0.lt; have hH1 := hH0.below hb1 hH0.lt
    have hB1 : Below w.heap.size w W1 := hB0.trans (hb1.mono hsz0)
    have hsz1 := Nat.le_trans hsz0 hb1.size
    clear hK0 hH0 hB0 hb1 hsz0
    go_wp2_with fail
    refine (H2.out W1 hK1 hH1).mono ?_
    rintro e W2 ⟨rfl, hb2⟩
    have hK2 := hK1.below hb2 hK1.lt; have hH2 := hH1.below hb2 hH1.lt
    have hB2 : Below w.heap.size w W2 := hB1.trans (hb2.mono hsz1)
    have hsz2 := Nat.le_trans hsz1 hb2.size
    clear hK1 hH1 hB1 hb2 hsz1
    go_wp2_with fail
    refine (S1.out W2 hK2 hH2).mono ?_
    rintro e W3 ⟨rfl, hb3⟩
    have hK3 := hK2.below hb3 hK2.lt; have hH3 := hH2.below hb3 hH2.lt
    have hB3 : Below w.heap.size w W3 := hB2.trans (hb3.mono hsz2)
    have hsz3 := Nat.le_trans hsz2 hb3.size
    clear hK2 hH2 hB2 hb3 hsz2
    go_wp2_with fail
    refine (H3.out W3 hK3 hH3).mono ?_
    rintro e W4 ⟨rfl, hb4⟩
    have hK4 := hK3.below hb4 hK3.lt; have hH4 := hH3.below hb4 hH3.lt
    have hB4 : Below w.heap.size w W4 := hB3.trans (hb4.mono hsz3)
    have hsz4 := Nat.le_trans hsz3 hb4.size
    clear hK3 hH3 hB3 hb4 hsz3
    go_wp2_with fail
    refine (H4.out W4 hK4 hH4).mono ?_
    rintro e W5 ⟨rfl, hb5⟩
    have hK5 := hK4.below hb5 hK4.lt; have hH5 := hH4.below hb5 hH4.lt
    have hB5 : Below w.heap.size w W5 := hB4.trans (hb5.mono hsz4)
    have hsz5 := Nat.le_trans hsz4 hb5.size
    clear hK4 hH4 hB4 hb5 hsz4
    go_wp2_with fail
    refine (mawake_any _ hK5 hH5).mono ?_
    rintro e W6 ⟨rfl, hb6⟩
    go_wp2_with fail
    go_ret
    exact ⟨rfl, hB5.trans (hb6.mono hsz5)⟩
  · have h := fun W hK hH => mac32_any ⟨(sha256L kf hf a.data.toList).toArray⟩ b W hK hH (by rw [Lib.size_eq]; simp [sha256L_length]) (by omega)
    simp only [List.toList_toArray] at h
    rw [mac32_long _ _ (by omega)] at h
    have H3 := Lib.hid h
    clear h
    have h := fun W hK hH => mac64_any ⟨(sha512L kf hf a.data.toList).toArray⟩ b W hK hH (by rw [Lib.size_eq]; simp [sha512L_length]) (by omega)
    simp only [List.toList_toArray] at h
    rw [mac64_long _ _ (by omega)] at h
    have H4 := Lib.hid h
    clear h
    have e1 : decide ((64 : Int) < (a.size : Int)) = true := by simp; omega
    have e3 : decide ((128 : Int) < (a.size : Int)) = true := by simp; omega
    clear ES hal
    generalize (⟨(mac32 a.data.toList b.data.toList).toArray⟩ : ByteArray) = x at *
    generalize (⟨(mac64 a.data.toList b.data.toList).toArray⟩ : ByteArray) = y at *
    have l1 : ((x.size : Int) == 32) = true := by rw [L1.out]; rfl
    have l2 : ((y.size : Int) == 64) = true := by rw [L2.out]; rfl
    generalize (⟨(sha256L kf hf a.data.toList).toArray⟩ : ByteArray) = dx at *
    generalize (⟨(sha512L kf hf a.data.toList).toArray⟩ : ByteArray) = dy at *
    have hB0 : Below w.heap.size w w := Below.refl _ _
    have hsz0 : w.heap.size ≤ w.heap.size := Nat.le_refl _
    have hK0 := hK; have hH0 := hH
    clear hK hH
    go_enter Tryd.func11, Tryd.ntmps11
    go_wp2_with fail
    refine (H1.out w hK0 hH0).mono ?_
    rintro e W1 ⟨rfl, hb1⟩
    have hK1 := hK0.below hb1 hK0.lt; have hH1 := hH0.below hb1 hH0.lt
    have hB1 : Below w.heap.size w W1 := hB0.trans (hb1.mono hsz0)
    have hsz1 := Nat.le_trans hsz0 hb1.size
    clear hK0 hH0 hB0 hb1 hsz0
    go_wp2_with fail
    refine (H2.out W1 hK1 hH1).mono ?_
    rintro e W2 ⟨rfl, hb2⟩
    have hK2 := hK1.below hb2 hK1.lt; have hH2 := hH1.below hb2 hH1.lt
    have hB2 : Below w.heap.size w W2 := hB1.trans (hb2.mono hsz1)
    have hsz2 := Nat.le_trans hsz1 hb2.size
    clear hK1 hH1 hB1 hb2 hsz1
    go_wp2_with fail
    refine (S1.out W2 hK2 hH2).mono ?_
    rintro e W3 ⟨rfl, hb3⟩
    have hK3 := hK2.below hb3 hK2.lt; have hH3 := hH2.below hb3 hH2.lt
    have hB3 : Below w.heap.size w W3 := hB2.trans (hb3.mono hsz2)
    have hsz3 := Nat.le_trans hsz2 hb3.size
    clear hK2 hH2 hB2 hb3 hsz2
    go_wp2_with fail
    refine (H3.out W3 hK3 hH3).mono ?_
    rintro e W4 ⟨rfl, hb4⟩
    have hK4 := hK3.below hb4 hK3.lt; have hH4 := hH3.below hb4 hH3.lt
    have hB4 : Below w.heap.size w W4 := hB3.trans (hb4.mono hsz3)
    have hsz4 := Nat.le_trans hsz3 hb4.size
    clear hK3 hH3 hB3 hb4 hsz3
    go_wp2_with fail
    refine (S2.out W4 hK4 hH4).mono ?_
    rintro e W5 ⟨rfl, hb5⟩
    have hK5 := hK4.below hb5 hK4.lt; have hH5 := hH4.below hb5 hH4.lt
    have hB5 : Below w.heap.size w W5 := hB4.trans (hb5.mono hsz4)
    have hsz5 := Nat.le_trans hsz4 hb5.size
    clear hK4 hH4 hB4 hb5 hsz4
    go_wp2_with fail
    refine (H4.out W5 hK5 hH5).mono ?_
    rintro e W6 ⟨rfl, hb6⟩
    have hK6 := hK5.below hb6 hK5.lt; have hH6 := hH5.below hb6 hH5.lt
    have hB6 : Below w.heap.size w W6 := hB5.trans (hb6.mono hsz5)
    have hsz6 := Nat.le_trans hsz5 hb6.size
    clear hK5 hH5 hB5 hb6 hsz5
    go_wp2_with fail
    refine (mawake_any _ hK6 hH6).mono ?_
    rintro e W7 ⟨rfl, hb7⟩
    go_wp2_with fail
    go_ret
    exact ⟨rfl, hB6.trans (hb7.mono hsz6)⟩

theorem macLong_lifted (os : Os) (started : os.Started) (H : Type) (enc : TypeId × Value → H) :
    ReturnsInHanded {} Tryd.checked os 11 .any (fun w args => (Rows.macLongSpec.pre enc Tryd.prog Tryd.f11 [] false w args ∧ laidMetH Tryd.prog laid2 w) ∧ sizedMet enc Tryd.prog Tryd.f11 (OpenSpec.ofChange Rows.macLongSpec) false w args)
      (Rows.macLongSpec.post enc Tryd.prog Tryd.f11 false true false false) := by
  refine returnsInHanded_of_change_and (C := Tryd.checked) (X := fun w _ => laidMetH Tryd.prog laid2 w) (fun _ _ _ hh h => h.of_heap hh) own started (by kernel_rfl) Tryd.func11
    (ChangeSpec.witness_shaped (enc := enc) (C := Tryd.checked) (os := os) (X := fun w _ => laidMetH Tryd.prog laid2 w) false (World.doorLaid Tryd.prog 400 os) #[.string ⟨#[]⟩, .string ⟨#[]⟩] 8 rfl (World.shaped_of_RefB (by kernel_rfl) (by kernel_rfl)) (by kernel_rfl) (by kernel_rfl) (by kernel_rfl) (door_met os _)) ?_
  intro W base args ds gs before hval0 hW _ _ hL _
  have hval : ∀ (j : Nat) t v, Tryd.f11.params[j]? = some t → args[j]? = some v → Value.okWide Tryd.prog W .any base t v := hval0
  have hW' := hW
  obtain ⟨p, q, hA0, hV, rfl, hfz, hnd⟩ := hW
  have hA : DataW.TrodAll enc Tryd.prog W 0 (fun _ => true) true Tryd.f11.params.toList args.toList ds p := hA0
  rw [Tryd.params11] at hA hval
  obtain ⟨v0, v1, d0, d1, p0, p1, rfl, rfl, rfl, h0, h1⟩ := trodAll_two hA
  obtain ⟨rfl, rfl⟩ := trodVars_none hV
  obtain ⟨s0, rfl, rfl, rfl, w0⟩ := open_string Tryd.underlying9 (hval 0 9 v0 rfl rfl) h0
  obtain ⟨s1, rfl, rfl, rfl, w1⟩ := open_string Tryd.underlying9 (hval 1 9 v1 rfl rfl) h1
  obtain ⟨hH, hK⟩ := of_laid hL
  clear hA0 hval0
  simp only [List.append_nil] at hW'
  refine (macLong_any s0 s1 W w0 w1 hK hH).mono fun e W' ⟨he, hb⟩ => ?_
  subst he
  refine ⟨_, rfl, _, _, _, [], [], [], hW', ?_, ?_, rfl, hb.frame _, fun h => by cases h⟩
  · exact trodAll_mk1 (shut_bool Tryd.underlying4 _)
  · exact trodAll_mk2 (shut_string Tryd.underlying9 w0) (shut_string Tryd.underlying9 w1)

theorem macLong_holds : Rows.MacLongSaid :=
  OpenClaim.holds_of_wide 11 Tryd.f11 rfl rfl rfl rfl rfl rfl rfl ⟨rfl, rfl, rfl, rfl, rfl⟩ rfl rfl rfl rfl rfl (by kernel_rfl) Tryd.func11 (by kernel_rfl)
    (of_decide_eq_true (by kernel_rfl)) (by unfold Func.isWrapper; first | (rw [if_pos (by decide +kernel)]; kernel_rfl) | (rw [if_neg (by decide +kernel)]; exact ⟨rfl, rfl⟩))
    (fun os started H enc _ => macLong_lifted os started H enc)

theorem macLong_card : Rows.MacLongCardSaid :=
  Claim7.holds_tied_plain_at .later [] [.data, .data] true (true, "225435dd55d283f3af50af713b04fb7b7711febad748264678e6632345c27f3b") false
    macLong_holds (fun _ h => by cases h) (by kernel_rfl) (fun _ h => by cases h) macLong_row_tie rfl ⟨rfl, rfl⟩ (by kernel_rfl) rfl
    (fun f fn hf hfn => by
      obtain rfl : f = 11 := Option.some.inj ((show Tryd.prog.funcNamed "cresset/cressetlaw02.MacLong" = some 11 by kernel_rfl).symm.trans hf) |>.symm
      obtain rfl : fn = Tryd.f11 := (Option.some.inj (Tryd.func11.symm.trans hfn)).symm
      exact ⟨by kernel_rfl, fun j t ht => by
        rw [Tryd.params11] at ht
        have hm : t ∈ [9, 9] := by simpa using Array.mem_of_getElem? ht
        have hall : ([9, 9].all fun u => !Tryd.prog.wantsStandIn u) = true := by kernel_rfl
        exact (show Tryd.prog.wantsStandIn t = false by simpa using List.all_eq_true.1 hall t hm)⟩)
    (by kernel_rfl)
#print axioms macLong_card
end Go.Proofs.YthcfolefdalaiaaDoor
