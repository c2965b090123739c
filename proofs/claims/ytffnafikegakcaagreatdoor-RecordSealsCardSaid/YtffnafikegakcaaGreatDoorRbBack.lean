/- What a box has sealed another one opens, and not with another byte in its tag. -/
import Derived.Test.YtffnafikegakcaaGreatDoorRbK
namespace Go.Proofs.YtffnafikegakcaaGreatDoor
open Go.RowKit Go.Sort
set_option maxRecDepth 100000
set_option linter.unusedSimpArgs false
set_option linter.unusedVariables false

theorem sealG_take (k n b p : List UInt8) : (sealG k n b p).take ((sealG k n b p).length - 16) = strG k n p := by
  rw [sealG_length, Nat.add_sub_cancel, sealG, List.take_append_of_le_length (by rw [strG_length]; exact Nat.le_refl _), List.take_of_length_le (by rw [strG_length]; exact Nat.le_refl _)]
theorem sealG_drop (k n b p : List UInt8) : (sealG k n b p).drop ((sealG k n b p).length - 16) = tagG k n b (strG k n p) := by
  rw [sealG_length, Nat.add_sub_cancel, sealG, List.drop_append_of_le_length (by rw [strG_length]; exact Nat.le_refl _), List.drop_of_length_le (by rw [strG_length]; exact Nat.le_refl _), List.nil_append]
theorem tagOkG_seal (k n b p : List UInt8) : tagOk k n b (sealG k n b p) = true := by rw [tagOk, sealG_take, sealG_drop]; simp
theorem openG_sealG (k n b p : List UInt8) : openG k n b (sealG k n b p) = p := by rw [openG, sealG_take, strG_twice]
theorem tagOkG_set (k n b s : List UInt8) (p : Nat) (x : UInt8) (h1 : s.length - 16 ≤ p) (h2 : p < s.length) (hx : x ≠ s.getD p 0) (hok : tagOk k n b s = true) : tagOk k n b (s.set p x) = false := by
  rw [tagOk, List.length_set, List.take_set_of_le h1]
  simp only [tagOk, beq_iff_eq] at hok
  rw [hok]
  have hne : ¬ s.drop (s.length - 16) = (s.set p x).drop (s.length - 16) := fun h => by
    have h3 := congrArg (fun l : List UInt8 => l[p - (s.length - 16)]?) h
    simp only [List.getElem?_drop] at h3
    rw [show s.length - 16 + (p - (s.length - 16)) = p by omega, List.getElem?_set_self h2] at h3
    exact hx (by rw [List.getD_eq_getElem?_getD, h3]; rfl)
  simpa using hne
theorem flip1_ne (x : UInt8) : x ^^^ 1 ≠ x := fun h => by
  have e : x ^^^ (x ^^^ 1) = x ^^^ x := by rw [h]
  rw [← UInt8.xor_assoc, UInt8.xor_self, UInt8.zero_xor] at e
  exact absurd e (by decide)
/-- A text with another byte at a place. -/
def flipB (t : ByteArray) (p : Nat) : ByteArray := ⟨(t.data.toList.set p (t.data.toList.getD p 0 ^^^ 1)).toArray⟩
theorem flipB_size (t : ByteArray) (p : Nat) : (flipB t p).size = t.size := by
  show (t.data.toList.set p (t.data.toList.getD p 0 ^^^ 1)).length = _
  rw [List.length_set, ← Lib.size_eq]
theorem hid_back (s : BSt) (h : BOk s) (inner : ByteArray) : opnP s (hidB s inner) = (inner, 0) ∧ ∀ p, (hidB s inner).size - 16 ≤ p → p < (hidB s inner).size → opnP s (flipB (hidB s inner) p) = (noB, 20) := by
  have hn := nonB_size s h
  have hs := (hid_ok s h inner).2
  refine ⟨?_, fun p h1 h2 => ?_⟩
  · unfold opnP
    rw [hs]
    have hz := hs
    revert hz
    unfold hidB
    rcases h.su with ⟨e1, e2⟩ | ⟨e1, e2⟩ <;> rw [e1]
    · rw [sealO, if_pos rfl, if_pos ⟨e2, hn⟩]
      intro hz
      rw [openO, if_pos rfl, if_pos ⟨e2, hn⟩, if_neg (by rw [hz]; omega), tagOkG_seal, openG_sealG, if_pos rfl]
    · rw [sealO, if_neg (by decide), if_pos rfl, if_pos ⟨e2, hn⟩]
      intro hz
      rw [openO, if_neg (by decide), if_pos rfl, if_pos ⟨e2, hn⟩, if_neg (by rw [hz]; omega), tagOkS_seal, openS_seal, if_pos rfl]
  · unfold opnP
    rw [flipB_size, hs]
    have hz := flipB_size (hidB s inner) p
    rw [hs] at hz h1 h2
    have hl : (hidB s inner).data.toList.length = inner.size + 16 := by rw [← Lib.size_eq]; exact hs
    revert hz hl
    unfold flipB hidB
    rcases h.su with ⟨e1, e2⟩ | ⟨e1, e2⟩ <;> rw [e1]
    · rw [sealO, if_pos rfl, if_pos ⟨e2, hn⟩]
      intro hz hl
      rw [openO, if_pos rfl, if_pos ⟨e2, hn⟩, if_neg (by rw [hz]; omega), tagOkG_set _ _ _ _ p _ (by rw [hl]; omega) (by rw [hl]; omega) (flip1_ne _) (tagOkG_seal _ _ _ _), if_neg (by decide)]
    · rw [sealO, if_neg (by decide), if_pos rfl, if_pos ⟨e2, hn⟩]
      intro hz hl
      rw [openO, if_neg (by decide), if_pos rfl, if_pos ⟨e2, hn⟩, if_neg (by rw [hz]; omega), tagOkS_set _ _ _ _ p _ (by rw [hl]; omega) (by rw [hl]; omega) (flip1_ne _) (tagOkS_seal _ _ _ _), if_neg (by decide)]
theorem padB_list (kind : Int) (plain : ByteArray) (pad : Nat) : (padB kind plain pad).data.toList = plain.data.toList ++ (wbyte kind 0 :: List.replicate pad 0) := by
  rw [padB, ByteArray.data_append, ByteArray.data_append]
  simp [nilB, nilL]
theorem unp_pad (k : Nat) (hk : 20 ≤ k ∧ k ≤ 23) (plain : ByteArray) (pad : Nat) (h : plain.size ≤ 16384) : unpE (padB (k : Int) plain pad) = 0 ∧ unpK (padB (k : Int) plain pad) = (k : Int) ∧ unpB (padB (k : Int) plain pad) = plain := by
  have hl := padB_list (k : Int) plain pad
  have hps : plain.data.toList.length = plain.size := (Lib.size_eq plain).symm
  have hkb : (wbyte (k : Int) 0).toNat = k := wb_small k (by omega)
  have hlen : (padB (k : Int) plain pad).data.toList.length = plain.size + 1 + pad := by rw [hl, List.length_append, hps, List.length_cons, List.length_replicate]; omega
  have hat : (padB (k : Int) plain pad).data.toList.getD plain.size 0 = wbyte (k : Int) 0 := by
    rw [hl, List.getD_eq_getElem?_getD, List.getElem?_append_right (by omega), hps, Nat.sub_self]; rfl
  have hM : unpM (padB (k : Int) plain pad) = (padB (k : Int) plain pad).data.toList.take (plain.size + 1) := by
    refine trim_at _ _ (by omega) (fun j h1 h2 => ?_) (fun _ => ?_)
    · rw [hl, List.getD_eq_getElem?_getD, List.getElem?_append_right (by omega), hps]
      obtain ⟨m, hm⟩ : ∃ m, j - plain.size = m + 1 := ⟨j - plain.size - 1, by omega⟩
      rw [hm, List.getElem?_cons_succ, List.getElem?_replicate]
      split <;> rfl
    · rw [Nat.add_sub_cancel, hat]
      intro e
      rw [e] at hkb
      have : (0 : UInt8).toNat = 0 := rfl
      omega
  have hML : (unpM (padB (k : Int) plain pad)).length = plain.size + 1 := by rw [hM, List.length_take, hlen]; omega
  have hT : tlB (padB (k : Int) plain pad) = wbyte (k : Int) 0 := by
    rw [tlB, hML, Nat.add_sub_cancel, hM, List.getD_eq_getElem?_getD, List.getElem?_take, if_pos (Nat.lt_succ_self _), ← List.getD_eq_getElem?_getD, hat]
  have hik : isK (((tlB (padB (k : Int) plain pad)).toNat : Nat) : Int) = true := by rw [hT, hkb]; simp [isK]; omega
  have hE : unpE (padB (k : Int) plain pad) = 0 := by rw [unpE, if_neg (by rw [hML]; omega), hik, if_neg (by decide), if_neg (by rw [hML]; omega)]
  refine ⟨hE, by rw [unpK, if_pos hE, hT, hkb], ?_⟩
  rw [unpB, if_pos hE, hML, Nat.add_sub_cancel, hM, List.take_take, Nat.min_eq_left (Nat.le_succ _), hl, List.take_append_of_le_length (by omega), List.take_of_length_le (by omega)]
theorem open_sealed (s : BSt) (h : BOk s) (hn : s.n < 65536) (k : Nat) (hk : 20 ≤ k ∧ k ≤ 23) (plain : ByteArray) (pad : Nat) (h1 : plain.size ≤ 16384) (h2 : plain.size + pad ≤ 16600) :
    opnA s (hidB s (padB (k : Int) plain pad)) = .returned (.tuple #[.int .i64 (k : Int), .string plain, .int .i64 0]) ∧ opnS s (hidB s (padB (k : Int) plain pad)) = nxtB s := by
  obtain ⟨u1, u2, u3⟩ := unp_pad k hk plain pad h1
  have hs := (hid_ok s h (padB (k : Int) plain pad)).2
  have hp := (hid_back s h (padB (k : Int) plain pad)).1
  have hE : opnE s (hidB s (padB (k : Int) plain pad)) = 0 := by
    rw [opnE, if_neg (by omega), if_neg (by rw [hs, padB_size]; omega), hp, if_neg (fun h => h rfl)]; exact u1
  refine ⟨?_, by rw [opnS, if_pos hE]⟩
  rw [opnA, opnK, opnB, if_pos hE, if_pos hE, hE, hp]
  simp only
  rw [u2, u3]
theorem open_flip (s : BSt) (h : BOk s) (hn : s.n < 65536) (inner : ByteArray) (hi : inner.size ≤ 16624) (p : Nat) (h1 : (hidB s inner).size - 16 ≤ p) (h2 : p < (hidB s inner).size) :
    opnA s (flipB (hidB s inner) p) = .returned (.tuple #[.int .i64 0, .string emB, .int .i64 20]) ∧ opnS s (flipB (hidB s inner) p) = s := by
  have hs := (hid_ok s h inner).2
  have hp := (hid_back s h inner).2 p h1 h2
  exact opn_bad s _ 20 (by rw [opnE, if_neg (by omega), if_neg (by rw [flipB_size, hs]; omega), hp, if_pos (by decide)]) (by decide)
end Go.Proofs.YtffnafikegakcaaGreatDoor
