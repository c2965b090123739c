/- Package der: the first element of bytes: splitLength, split, Read. -/
import Derived.Test.YtimokmhgpigliaaDpEl
import Derived.Test.YtimokmhgpigliaaDrNum
import Derived.Test.YtimokmhgpigliaaClone
import Derived.OwnWalk
namespace Go.Proofs.Ytimokmhgpigliaa
open Go.RowKit Go.Sort
set_option maxRecDepth 100000
set_option linter.unusedSimpArgs false
set_option linter.unusedVariables false

/-- A length at the beginning of bytes: its number so far, how many bytes it takes, what is wrong. -/
def slAcc (d : List UInt8) : Nat → Nat
  | 0 => 0
  | k + 1 => slAcc d k * 256 + rdB d (k + 1)
def slA (d : List UInt8) : Nat := if 128 < rdB d 0 then rdB d 0 - 127 else 1
def slN (d : List UInt8) : Nat := if rdB d 0 < 128 then rdB d 0 else slAcc d (rdB d 0 - 128)
def slE (d : List UInt8) : Int :=
  if d.length = 0 then 10 else if rdB d 0 < 128 then 0 else if rdB d 0 = 128 ∨ 130 < rdB d 0 then 11 else if d.length < slA d then 10 else
    if (rdB d 0 = 129 ∧ slN d < 128) ∨ (rdB d 0 = 130 ∧ slN d < 256) then 11 else 0
def slV (s : ByteArray) : Int := if slE s.data.toList = 0 then (slN s.data.toList : Int) else 0
def slR (s : ByteArray) : ByteArray := if slE s.data.toList = 0 then s.extract (slA s.data.toList) s.size else ⟨#[]⟩
theorem sl_bad (s : ByteArray) (e : Int) (h : slE s.data.toList = e) (he : e ≠ 0) : slV s = 0 ∧ slR s = ⟨#[]⟩ ∧ slE s.data.toList = e := by
  have hn : ¬ slE s.data.toList = 0 := by rw [h]; exact he
  exact ⟨if_neg hn, if_neg hn, h⟩
theorem sl_good (s : ByteArray) (h : slE s.data.toList = 0) : slV s = (slN s.data.toList : Int) ∧ slR s = s.extract (slA s.data.toList) s.size ∧ slE s.data.toList = 0 := ⟨if_pos h, if_pos h, h⟩
theorem slAcc_lt (d : List UInt8) : ∀ k, slAcc d k < 256 ^ k
  | 0 => Nat.one_pos
  | k + 1 => by
    have := slAcc_lt d k; have := rdB_lt d (k + 1)
    rw [slAcc, Nat.pow_succ]
    omega
/-- An element's beginning: its tag, its length. -/
theorem rd_of_sl (x : UInt8) (d : List UInt8) : rdA (x :: d) = slA d + 1 ∧ (slE d = 0 → rdN (x :: d) = slN d) ∧
    rdE (x :: d) = if x.toNat % 32 = 31 then 11 else if slE d ≠ 0 then slE d else if d.length - slA d < slN d then 10 else 0 := by
  have q0 : rdB (x :: d) 0 = x.toNat := rfl
  have q1 : rdB (x :: d) 1 = rdB d 0 := rdB_cons x d 0
  have q2 : rdB (x :: d) 2 = rdB d 1 := rdB_cons x d 1
  have q3 : rdB (x :: d) 3 = rdB d 2 := rdB_cons x d 2
  have ql : (x :: d).length = d.length + 1 := rfl
  have a1 : slAcc d 1 = rdB d 1 := by show 0 * 256 + rdB d 1 = _; omega
  have a2 : slAcc d 2 = 256 * rdB d 1 + rdB d 2 := by show slAcc d 1 * 256 + rdB d 2 = _; rw [a1]; omega
  have hA : rdA (x :: d) = slA d + 1 := by
    rw [rdA, slA, q1]
    by_cases c : 128 < rdB d 0
    · rw [if_pos c, if_pos c]; omega
    · rw [if_neg c, if_neg c]
  have hN : ¬ (rdB d 0 = 128 ∨ 130 < rdB d 0) → rdN (x :: d) = slN d := fun hn => by
    rw [rdN, slN, q1, q2, q3]
    by_cases c0 : rdB d 0 < 128
    · rw [if_neg (by omega), if_neg (by omega), if_pos c0]
    by_cases c1 : rdB d 0 = 129
    · rw [if_pos c1, if_neg c0, c1]; exact a1.symm
    · have c2 : rdB d 0 = 130 := by omega
      rw [if_neg c1, if_pos c2, if_neg c0, c2]; exact a2.symm
  refine ⟨hA, fun h => hN ?_, ?_⟩
  · intro hn
    rw [slE] at h
    by_cases x0 : d.length = 0
    · rw [if_pos x0] at h; cases h
    rw [if_neg x0, if_neg (by omega), if_pos hn] at h
    cases h
  rw [rdE, slE, hA, ql, q0, q1, if_neg (by omega)]
  by_cases c : x.toNat % 32 = 31
  · rw [if_pos c, if_pos c]
  rw [if_neg c, if_neg c]
  by_cases c0 : d.length = 0
  · rw [if_pos (by omega), if_pos c0]; rfl
  rw [if_neg (by omega), if_neg c0]
  by_cases c1 : rdB d 0 < 128
  · have hn : ¬ (rdB d 0 = 128 ∨ 130 < rdB d 0) := by omega
    have ha : slA d = 1 := if_neg (by omega)
    rw [hN hn, if_neg hn, if_pos c1, if_neg (show ¬ d.length + 1 < slA d + 1 by omega), if_neg (show ¬ ((rdB d 0 = 129 ∧ slN d < 128) ∨ (rdB d 0 = 130 ∧ slN d < 256)) by omega), if_neg (show ¬ ((0 : Int) ≠ 0) by simp), ha]
    by_cases c3 : d.length - 1 < slN d
    · rw [if_pos (show d.length + 1 < 1 + 1 + slN d by omega), if_pos c3]
    · rw [if_neg (show ¬ d.length + 1 < 1 + 1 + slN d by omega), if_neg c3]
  rw [if_neg c1]
  by_cases c2 : rdB d 0 = 128 ∨ 130 < rdB d 0
  · rw [if_pos c2, if_pos c2]; rfl
  rw [if_neg c2, if_neg c2, hN c2]
  by_cases c4 : d.length < slA d
  · rw [if_pos (show d.length + 1 < slA d + 1 by omega), if_pos c4]; rfl
  rw [if_neg (show ¬ d.length + 1 < slA d + 1 by omega), if_neg c4]
  by_cases c5 : (rdB d 0 = 129 ∧ slN d < 128) ∨ (rdB d 0 = 130 ∧ slN d < 256)
  · rw [if_pos c5, if_pos c5]; rfl
  rw [if_neg c5, if_neg c5, if_neg (show ¬ ((0 : Int) ≠ 0) by simp)]
  by_cases c3 : d.length - slA d < slN d
  · rw [if_pos (show d.length + 1 < slA d + 1 + slN d by omega), if_pos c3]
  · rw [if_neg (show ¬ d.length + 1 < slA d + 1 + slN d by omega), if_neg c3]
theorem list_two (d : List UInt8) (h : 2 ≤ d.length) : d.take 2 = [UInt8.ofNat (rdB d 0), UInt8.ofNat (rdB d 1)] := by
  match d, h with
  | x :: y :: r, _ => simp [rdB]
theorem list_three (d : List UInt8) (h : 3 ≤ d.length) : d.take 3 = [UInt8.ofNat (rdB d 0), UInt8.ofNat (rdB d 1), UInt8.ofNat (rdB d 2)] := by
  match d, h with
  | x :: y :: z :: r, _ => simp [rdB]
/-- A length that is written: in its shortest form. -/
theorem sl_short (d : List UInt8) (F : Nat) (h0 : rdB d 0 = 128 + F) (h1 : 1 ≤ F) (h2 : F ≤ 2) (hl : F + 1 ≤ d.length) :
    (lenL (slAcc d F) = d.take (1 + F)) ↔ ¬ ((rdB d 0 = 129 ∧ slN d < 128) ∨ (rdB d 0 = 130 ∧ slN d < 256)) := by
  have hN : slN d = slAcc d F := by rw [slN, if_neg (by omega), h0, Nat.add_sub_cancel_left]
  have a1 : slAcc d 1 = rdB d 1 := by show 0 * 256 + rdB d 1 = _; omega
  have a2 : slAcc d 2 = rdB d 1 * 256 + rdB d 2 := by show slAcc d 1 * 256 + rdB d 2 = _; rw [a1]
  have b1 := rdB_lt d 1; have b2 := rdB_lt d 2
  rw [hN]
  by_cases c : F = 1
  · subst c
    rw [show 1 + 1 = 2 from rfl, list_two d (by omega), h0, a1, lenL]
    by_cases c1 : rdB d 1 < 128
    · rw [if_pos c1]
      refine ⟨fun h => ?_, fun h => absurd (.inl ⟨rfl, c1⟩) h⟩
      have := congrArg List.length h
      simp at this
    · rw [if_neg c1, if_pos b1]
      exact ⟨fun _ => by omega, fun _ => rfl⟩
  · obtain rfl : F = 2 := by omega
    rw [show 1 + 2 = 3 from rfl, list_three d (by omega), h0, a2, lenL]
    by_cases c1 : rdB d 1 * 256 + rdB d 2 < 256
    · refine ⟨fun h => ?_, fun h => absurd (.inr ⟨rfl, c1⟩) h⟩
      have := congrArg List.length h
      split at this
      · simp at this
      · first | (simp [c1] at this; done) | (rw [if_pos c1] at this; simp at this)
    · rw [if_neg (by omega), if_neg c1]
      refine ⟨fun _ => by omega, fun _ => ?_⟩
      have e1 : (rdB d 1 * 256 + rdB d 2) / 256 = rdB d 1 := by omega
      have e2 : UInt8.ofNat (rdB d 1 * 256 + rdB d 2) = UInt8.ofNat (rdB d 2) := by
        apply UInt8.toNat_inj.1
        rw [UInt8.toNat_ofNat', UInt8.toNat_ofNat']
        omega
      rw [e1, e2]
      rfl
/-- How a string begins, as a string. -/
theorem pre_list (s : ByteArray) (k : Nat) : (s.extract 0 k).data.toList = s.data.toList.take k := by
  simp
theorem suf_list (s : ByteArray) (k : Nat) : (s.extract k s.size).data.toList = s.data.toList.drop k := by
  rw [ByteArray.data_extract, Array.toList_extract, List.extract_eq_take_drop, List.take_of_length_le (by rw [List.length_drop, ← Lib.size_eq]; exact Nat.le_refl _)]
theorem suf_size (s : ByteArray) (k : Nat) : (s.extract k s.size).size = s.size - k := by
  rw [ByteArray.size_extract]; omega
theorem suf_at (s : ByteArray) (k i : Nat) : rdB (s.extract k s.size).data.toList i = rdB s.data.toList (k + i) := by
  rw [suf_list, rdB, rdB, List.getD_eq_getElem?_getD, List.getElem?_drop, ← List.getD_eq_getElem?_getD]
theorem suf_suf (s : ByteArray) (k j : Nat) : (s.extract k s.size).extract j (s.extract k s.size).size = s.extract (k + j) s.size := by
  apply ByteArray.ext
  apply Array.toList_inj.1
  rw [suf_list, suf_list, suf_list, List.drop_drop]
end Go.Proofs.Ytimokmhgpigliaa
