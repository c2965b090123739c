/- Numbers as bytes, back and forth: the bytes of a number are read as it, and what is read is written again. No program. -/
import Derived.Test.YtimokmhgpigliaaDrWInt
import Derived.Test.YtimokmhgpigliaaDrInt
namespace Go.Proofs.Ytimokmhgpigliaa
set_option maxRecDepth 100000
set_option linter.unusedSimpArgs false
set_option linter.unusedVariables false

theorem rdB_cons (x : UInt8) (l : List UInt8) (k : Nat) : rdB (x :: l) (k + 1) = rdB l k := by
  rw [rdB, rdB, List.getD_cons_succ]
theorem rdB_zero (x : UInt8) (l : List UInt8) : rdB (x :: l) 0 = x.toNat := rfl
theorem riN_zero (l : List UInt8) : riN l 0 = if 128 ≤ rdB l 0 then -1 else 0 := rfl
theorem riN_succ (l : List UInt8) (k : Nat) : riN l (k + 1) = riN l k * 256 + (rdB l k : Int) := rfl
/-- A first byte that says nothing says nothing. -/
theorem riN_tail (x y : UInt8) (r : List UInt8) (h : (x.toNat = 0 ∧ y.toNat < 128) ∨ (x.toNat = 255 ∧ 128 ≤ y.toNat)) : ∀ k, riN (x :: y :: r) (k + 1) = riN (y :: r) k
  | 0 => by
    rw [riN_succ, riN_zero, riN_zero, rdB_zero, rdB_zero]
    rcases h with ⟨h1, h2⟩ | ⟨h1, h2⟩
    · rw [h1, if_neg (by omega), if_neg (by omega)]; rfl
    · rw [h1, if_pos (by omega), if_pos (by omega)]; rfl
  | k + 1 => by rw [riN_succ, riN_tail x y r h k, rdB_cons, ← riN_succ]
theorem trim_step (x y : UInt8) (r : List UInt8) : trimL (x :: y :: r) = if (x.toNat = 0 ∧ y.toNat < 128) ∨ (x.toNat = 255 ∧ 128 ≤ y.toNat) then trimL (y :: r) else x :: y :: r := rfl
theorem trim_val : ∀ (l : List UInt8), riN (trimL l) (trimL l).length = riN l l.length
  | [] => rfl
  | [x] => rfl
  | x :: y :: r => by
    rw [trim_step]
    split
    · rename_i h
      rw [trim_val (y :: r)]
      exact (riN_tail x y r h (y :: r).length).symm
    · rfl
theorem trim_size : ∀ (l : List UInt8), (trimL l).length ≤ l.length ∧ (l ≠ [] → trimL l ≠ [])
  | [] => ⟨Nat.le_refl _, fun h => h⟩
  | [x] => ⟨Nat.le_refl _, fun h => h⟩
  | x :: y :: r => by
    rw [trim_step]
    split
    · have h := trim_size (y :: r)
      exact ⟨Nat.le_trans h.1 (by simp), fun _ => h.2 (by simp)⟩
    · exact ⟨Nat.le_refl _, fun _ => by simp⟩
theorem riBad_two (x y : UInt8) (r : List UInt8) : riBad (x :: y :: r) ↔ (x.toNat = 0 ∧ y.toNat < 128) ∨ (x.toNat = 255 ∧ 128 ≤ y.toNat) :=
  ⟨fun h => h.2, fun h => ⟨by simp, h⟩⟩
theorem trim_good : ∀ (l : List UInt8), ¬ riBad (trimL l)
  | [] => fun h => by have := h.1; simp [trimL] at this
  | [x] => fun h => by have := h.1; simp [trimL] at this
  | x :: y :: r => by
    rw [trim_step]
    split
    · exact trim_good (y :: r)
    · rename_i h
      rwa [riBad_two]
/-- A list with nothing to spare is not of a number of fewer bytes. -/
theorem riN_wide (l : List UInt8) (h2 : 2 ≤ l.length) (hg : ¬ riBad l) : ∀ k, riN l (k + 2) < -(128 * 256 ^ k : Nat) ∨ (128 * 256 ^ k : Nat) ≤ riN l (k + 2)
  | 0 => by
    have a := rdB_lt l 0; have b := rdB_lt l 1
    have hn : ¬ ((rdB l 0 = 0 ∧ rdB l 1 < 128) ∨ (rdB l 0 = 255 ∧ 128 ≤ rdB l 1)) := fun h => hg ⟨by omega, h⟩
    rw [riN_succ, riN_succ, riN_zero]
    split <;> omega
  | k + 1 => by
    have b := rdB_lt l (k + 2)
    have ih := riN_wide l h2 hg k
    rw [riN_succ, Nat.pow_succ]
    omega
theorem riN_range (l : List UInt8) (k : Nat) (h : k + 1 = l.length) : -(128 * 256 ^ k : Nat) ≤ riN l l.length ∧ riN l l.length < (128 * 256 ^ k : Nat) := by
  rw [← h]; exact riN_bound l k
theorem riN_bytes (l m : List UInt8) : ∀ k, riN l k = riN m k → ∀ j, j < k → rdB l j = rdB m j
  | 0, _, j, hj => by omega
  | k + 1, h, j, hj => by
    rw [riN_succ, riN_succ] at h
    have a := rdB_lt l k; have b := rdB_lt m k
    have e : riN l k = riN m k := by omega
    by_cases c : j < k
    · exact riN_bytes l m k e j c
    · obtain rfl : j = k := by omega
      omega
theorem list_of_bytes (l m : List UInt8) (hl : l.length = m.length) (h : ∀ j, j < l.length → rdB l j = rdB m j) : l = m := by
  apply List.ext_getElem hl
  intro i h1 h2
  have := h i h1
  rw [rdB, rdB, List.getD_eq_getElem?_getD, List.getD_eq_getElem?_getD, List.getElem?_eq_getElem h1, List.getElem?_eq_getElem h2] at this
  exact UInt8.toNat_inj.1 this
/-- Lists with nothing to spare, of one number, are the same. -/
theorem riN_inj (l m : List UInt8) (hl : 1 ≤ l.length) (hm : 1 ≤ m.length) (gl : ¬ riBad l) (gm : ¬ riBad m) (h : riN l l.length = riN m m.length) : l = m := by
  have key : ∀ (a b : List UInt8), 1 ≤ a.length → a.length < b.length → ¬ riBad b → riN a a.length ≠ riN b b.length := fun a b ha hab gb e => by
    obtain ⟨i, hi⟩ : ∃ i, a.length = i + 1 := ⟨a.length - 1, by omega⟩
    obtain ⟨k, hk⟩ : ∃ k, b.length = k + 2 := ⟨b.length - 2, by omega⟩
    have r := riN_range a i hi.symm
    have u := riN_wide b (by omega) gb k
    rw [← hk, ← e] at u
    have hp : 256 ^ i ≤ 256 ^ k := Nat.pow_le_pow_right (by decide) (by omega)
    omega
  by_cases c : l.length = m.length
  · refine list_of_bytes l m c (riN_bytes l m l.length ?_)
    rw [h, c]
  · rcases Nat.lt_or_gt_of_ne c with d | d
    · exact absurd h (key l m hl d gm)
    · exact absurd h.symm (key m l hm d gl)
theorem b8L_at (n : Int) (k : Nat) (h : k < 8) : (rdB (b8L n) k : Int) = n / 256 ^ (7 - k) % 256 := by
  rw [← byt8_val, rdB, b8L, List.getD_eq_getElem?_getD, List.getElem?_map, List.getElem?_range h]
  rfl
theorem b8L_val (n : Int) (h0 : -9223372036854775808 ≤ n) (h1 : n ≤ 9223372036854775807) : ∀ k, k < 8 → riN (b8L n) (k + 1) = n / 256 ^ (7 - k)
  | 0, _ => by
    have a := b8L_at n 0 (by omega)
    have e : (256 : Int) ^ (7 - 0) = 72057594037927936 := by decide
    rw [riN_succ, riN_zero, e] at *
    split <;> omega
  | k + 1, h => by
    have ih := b8L_val n h0 h1 k (by omega)
    rw [riN_succ, ih, b8L_at n (k + 1) h]
    have e : (256 : Int) ^ (7 - k) = 256 ^ (7 - (k + 1)) * 256 := by rw [show 7 - k = (7 - (k + 1)) + 1 by omega, Int.pow_succ]
    rw [e, ← Int.ediv_ediv_of_nonneg (Int.pow_nonneg (by decide))]
    omega
/-- The bytes of a number: from 1 to 8, nothing to spare, read as it. -/
theorem intB_facts (n : Int) (h0 : -9223372036854775808 ≤ n) (h1 : n ≤ 9223372036854775807) : 1 ≤ (intB n).data.toList.length ∧ (intB n).data.toList.length ≤ 8 ∧ ¬ riBad (intB n).data.toList ∧ riN (intB n).data.toList (intB n).data.toList.length = n := by
  have e : (intB n).data.toList = trimL (b8L n) := rfl
  rw [e]
  have hs := trim_size (b8L n)
  have hne : b8L n ≠ [] := fun h => by have := b8L_length n; rw [h] at this; cases this
  refine ⟨?_, ?_, trim_good _, ?_⟩
  · have := List.length_pos_iff.2 (hs.2 hne); omega
  · have := hs.1; rw [b8L_length] at this; exact this
  · rw [trim_val, b8L_length, b8L_val n h0 h1 7 (by omega)]
    simp
theorem intB_size (n : Int) : (intB n).size ≤ 8 := by
  have h := (trim_size (b8L n)).1
  rw [b8L_length] at h
  exact h
/-- What is written is read. -/
theorem int_back (n : Int) (h0 : -9223372036854775808 ≤ n) (h1 : n ≤ 9223372036854775807) : riErr (intB n) = 0 ∧ riV (intB n) = n := by
  obtain ⟨a, b, c, d⟩ := intB_facts n h0 h1
  have e : riE (intB n).data.toList = 0 := by rw [riE, if_neg (by omega), if_neg c, if_neg (by omega)]
  exact ⟨e, by rw [riV, if_pos e, d]⟩
theorem ri_range (s : ByteArray) : -9223372036854775808 ≤ riV s ∧ riV s ≤ 9223372036854775807 := by
  rw [riV]
  split
  · rename_i h
    rw [riE] at h
    split at h
    · cases h
    split at h
    · cases h
    split at h
    · cases h
    rename_i a b c
    obtain ⟨k, hk⟩ : ∃ k, k + 1 = s.data.toList.length := ⟨s.data.toList.length - 1, by omega⟩
    have r := riN_range _ k hk
    have hp : 256 ^ k ≤ 256 ^ 7 := Nat.pow_le_pow_right (by decide) (by omega)
    have e7 : (256 : Nat) ^ 7 = 72057594037927936 := by decide
    omega
  · omega
/-- What is read is written again. -/
theorem back_int (s : ByteArray) (h : riErr s = 0) : intB (riV s) = s := by
  have r := ri_range s
  obtain ⟨a, b, c, d⟩ := intB_facts (riV s) r.1 r.2
  have hv : riV s = riN s.data.toList s.data.toList.length := if_pos h
  rw [riErr, riE] at h
  split at h
  · cases h
  split at h
  · cases h
  rename_i h1 h2
  have := riN_inj _ _ a (by omega) c h2 (d.trans hv)
  exact ByteArray.ext (Array.toList_inj.1 this)
/-- The body of a number's thing. -/
theorem int_wr (n : Int) : wrE 2 (intB n) = 0 := by
  have := intB_size n
  rw [wrE, if_pos (by decide), if_pos (by omega)]
end Go.Proofs.Ytimokmhgpigliaa
