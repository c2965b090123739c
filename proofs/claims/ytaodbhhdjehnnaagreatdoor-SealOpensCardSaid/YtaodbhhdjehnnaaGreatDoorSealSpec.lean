/- Nonces, and bytes sealed by suite 4867, as the document tells them, on lists of bytes. Arithmetic alone. -/
import Derived.Test.YtaodbhhdjehnnaaGreatDoorGcmA
import Derived.Test.YtaodbhhdjehnnaaGreatDoorChaA
import Derived.Test.YtaodbhhdjehnnaaGreatDoorPolyR
namespace Go.Proofs.YtaodbhhdjehnnaaGreatDoor
open Go.RowKit
set_option maxRecDepth 100000
set_option linter.unusedSimpArgs false
set_option linter.unusedVariables false

/-- How many bytes a suite's keys have. -/
def sizeS (n : Int) : Int := if n = 4865 then 16 else if n = 4867 then 32 else 0
/-- How many bytes a text has, the least byte first. -/
def lenS (n : Nat) : List UInt8 := (List.range 8).map fun i => wbyte (n : Int) (8 * i)
theorem lenS_length (n : Nat) : (lenS n).length = 8 := by simp [lenS]
theorem lenS_getD (n i : Nat) (h : i < 8) : (lenS n).getD i 0 = wbyte (n : Int) (8 * i) := by rw [lenS, range_getD _ _ _ h]
/-- What a tag stands for. -/
def tagT (beside hidden : List UInt8) : List UInt8 := padG beside ++ padG hidden ++ lenS beside.length ++ lenS hidden.length
theorem tagT_length (beside hidden : List UInt8) : (tagT beside hidden).length = (beside.length + 15) / 16 * 16 + (hidden.length + 15) / 16 * 16 + 16 := by
  simp only [tagT, List.length_append, padG_length, lenS_length]
theorem polyTag_size (k d : List UInt8) : (polyTag k d).length = 16 := leOut_length _ _
def tagS (key nonce beside hidden : List UInt8) : List UInt8 := polyTag ((chaB key nonce 0).take 32) (tagT beside hidden)
theorem tagS_length (key nonce beside hidden : List UInt8) : (tagS key nonce beside hidden).length = 16 := polyTag_size _ _
/-- A text with the key's stream. -/
def hidS (key nonce text : List UInt8) : List UInt8 := chaX key nonce 1 text text.length
theorem hidS_length (key nonce text : List UInt8) : (hidS key nonce text).length = text.length := chaX_length _ _ _ _ _
theorem hidS_twice (key nonce text : List UInt8) : hidS key nonce (hidS key nonce text) = text := by
  rw [hidS, hidS_length, hidS]; exact chaX_twice key nonce 1 text
def sealS (key nonce beside plain : List UInt8) : List UInt8 := hidS key nonce plain ++ tagS key nonce beside (hidS key nonce plain)
theorem sealS_length (key nonce beside plain : List UInt8) : (sealS key nonce beside plain).length = plain.length + 16 := by rw [sealS, List.length_append, hidS_length, tagS_length]
/-- What is opened: nothing where the tag is another one. -/
def tagOkS (key nonce beside sealed : List UInt8) : Bool := tagS key nonce beside (sealed.take (sealed.length - 16)) == sealed.drop (sealed.length - 16)
def openS (key nonce beside sealed : List UInt8) : List UInt8 := hidS key nonce (sealed.take (sealed.length - 16))
theorem sealS_take (k n b p : List UInt8) : (sealS k n b p).take ((sealS k n b p).length - 16) = hidS k n p := by
  rw [sealS_length, Nat.add_sub_cancel, sealS, List.take_append_of_le_length (by rw [hidS_length]; exact Nat.le_refl _), List.take_of_length_le (by rw [hidS_length]; exact Nat.le_refl _)]
theorem sealS_drop (k n b p : List UInt8) : (sealS k n b p).drop ((sealS k n b p).length - 16) = tagS k n b (hidS k n p) := by
  rw [sealS_length, Nat.add_sub_cancel, sealS, List.drop_append_of_le_length (by rw [hidS_length]; exact Nat.le_refl _), List.drop_of_length_le (by rw [hidS_length]; exact Nat.le_refl _), List.nil_append]
theorem tagOkS_seal (k n b p : List UInt8) : tagOkS k n b (sealS k n b p) = true := by rw [tagOkS, sealS_take, sealS_drop]; simp
theorem openS_seal (k n b p : List UInt8) : openS k n b (sealS k n b p) = p := by rw [openS, sealS_take, hidS_twice]
theorem tagOkS_set (k n b s : List UInt8) (p : Nat) (x : UInt8) (h1 : s.length - 16 ≤ p) (h2 : p < s.length) (hx : x ≠ s.getD p 0) (hok : tagOkS k n b s = true) : tagOkS k n b (s.set p x) = false := by
  rw [tagOkS, List.length_set, List.take_set_of_le h1]
  simp only [tagOkS, beq_iff_eq] at hok
  rw [hok]
  have hne : ¬ s.drop (s.length - 16) = (s.set p x).drop (s.length - 16) := fun h => by
    have h3 := congrArg (fun l : List UInt8 => l[p - (s.length - 16)]?) h
    simp only [List.getElem?_drop] at h3
    rw [show s.length - 16 + (p - (s.length - 16)) = p by omega, List.getElem?_set_self h2] at h3
    exact hx (by rw [List.getD_eq_getElem?_getD, h3]; rfl)
  simpa using hne

/-- A nonce, made byte by byte from the last on. -/
def nonS (iv : List UInt8) (n : Nat) : Nat → List UInt8
  | 0 => iv
  | k + 1 => (nonS iv n k).set (11 - k) ((nonS iv n k).getD (11 - k) 0 ^^^ wbyte (n : Int) (8 * k))
theorem nonS_length (iv : List UInt8) (n k : Nat) : (nonS iv n k).length = iv.length := by
  induction k with
  | zero => rfl
  | succ k ih => rw [nonS, List.length_set, ih]
theorem nonS_get (iv : List UInt8) (n : Nat) (hl : iv.length = 12) : ∀ k, k ≤ 12 → ∀ j, j < 12 → (nonS iv n k).getD j 0 = if 12 - k ≤ j then iv.getD j 0 ^^^ wbyte (n : Int) (8 * (11 - j)) else iv.getD j 0 := by
  intro k
  induction k with
  | zero => intro _ j hj; rw [if_neg (by omega)]; rfl
  | succ k ih =>
    intro hk j hj
    rw [nonS, List.getD_eq_getElem?_getD, List.getElem?_set]
    by_cases h : 11 - k = j
    · rw [if_pos h, if_pos (by rw [nonS_length]; omega), if_pos (by omega), h, ih (by omega) j hj, if_neg (by omega)]
      rw [show 11 - j = k by omega]; rfl
    · rw [if_neg h, ← List.getD_eq_getElem?_getD, ih (by omega) j hj]
      by_cases h2 : 12 - k ≤ j
      · rw [if_pos h2, if_pos (by omega)]
      · rw [if_neg h2, if_neg (by omega)]
theorem wbyte_eq (m n s : Nat) (h : wbyte (m : Int) s = wbyte (n : Int) s) : m / 2 ^ s % 256 = n / 2 ^ s % 256 := by
  have h1 := wbyte_toNat (m : Int) s
  have h2 := wbyte_toNat (n : Int) s
  rw [h, h2] at h1
  have e : ∀ x : Nat, ((x : Int) / 2 ^ s % 256) = ((x / 2 ^ s % 256 : Nat) : Int) := fun x => by simp
  rw [e, e] at h1
  omega
theorem xor_can_left (a b c : UInt8) (h : a ^^^ b = a ^^^ c) : b = c := by
  have e : a ^^^ (a ^^^ b) = a ^^^ (a ^^^ c) := by rw [h]
  rwa [← UInt8.xor_assoc, ← UInt8.xor_assoc, UInt8.xor_self, UInt8.zero_xor, UInt8.zero_xor] at e
/-- Unlike numbers have unlike nonces. -/
theorem nonS_inj (iv : List UInt8) (m n : Nat) (hl : iv.length = 12) (hm : m < 9223372036854775808) (hn : n < 9223372036854775808) (h : nonS iv m 8 = nonS iv n 8) : m = n := by
  have H : ∀ i, i < 8 → m / 2 ^ (8 * i) % 256 = n / 2 ^ (8 * i) % 256 := fun i hi => by
    have h1 := nonS_get iv m hl 8 (by omega) (11 - i) (by omega)
    have h2 := nonS_get iv n hl 8 (by omega) (11 - i) (by omega)
    rw [if_pos (by omega), show 11 - (11 - i) = i by omega] at h1 h2
    rw [h, h2] at h1
    exact wbyte_eq m n (8 * i) (xor_can_left _ _ _ h1.symm)
  have a0 := H 0 (by omega); have a1 := H 1 (by omega); have a2 := H 2 (by omega); have a3 := H 3 (by omega)
  have a4 := H 4 (by omega); have a5 := H 5 (by omega); have a6 := H 6 (by omega); have a7 := H 7 (by omega)
  simp only [Nat.reduceMul, Nat.reducePow] at a0 a1 a2 a3 a4 a5 a6 a7
  omega
theorem example_nonce : ((nonS (List.replicate 12 0) 258 8).drop 10 == [1, 2]) = true := by decide +kernel
end Go.Proofs.YtaodbhhdjehnnaaGreatDoor
