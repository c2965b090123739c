/- A box that encrypts records, or decrypts them: what it answers, and how it stands then. Arithmetic alone. -/
import Derived.Test.YtffnafikegakcaaGreatDoorSealA
import Derived.Test.YtffnafikegakcaaGreatDoorConvS
import Derived.Test.YtffnafikegakcaaGreatDoorRcA
import Derived.Lib.TrimByte
namespace Go.Proofs.YtffnafikegakcaaGreatDoor
open Go.RowKit Go.Sort
set_option maxRecDepth 100000
set_option linter.unusedSimpArgs false
set_option linter.unusedVariables false

/-- A box: its suite, its key, its iv, its count. -/
structure BSt where
  suite : Int
  key : ByteArray
  iv : ByteArray
  n : Nat
/-- One that NewBox has made. -/
structure BOk (s : BSt) : Prop where
  su : (s.suite = 4865 ∧ s.key.size = 16) ∨ (s.suite = 4867 ∧ s.key.size = 32)
  iv : s.iv.size = 12
  n : s.n ≤ 65536
def nonB (s : BSt) : ByteArray := ⟨(nonS s.iv.data.toList s.n 8).toArray⟩
theorem nonB_size (s : BSt) (h : BOk s) : (nonB s).size = 12 := by
  show (nonS s.iv.data.toList s.n 8).length = 12
  rw [nonS_length, ← Lib.size_eq]; exact h.iv
/-- What is encrypted. -/
def padB (kind : Int) (plain : ByteArray) (pad : Nat) : ByteArray := plain ++ ⟨#[wbyte kind 0]⟩ ++ nilB pad
theorem padB_size (kind : Int) (plain : ByteArray) (pad : Nat) : (padB kind plain pad).size = plain.size + 1 + pad := by
  rw [padB, ByteArray.size_append, ByteArray.size_append, nilB_size]; rfl
/-- Seal's error. -/
def selE (s : BSt) (kind : Int) (plain : ByteArray) (pad : Int) : Int :=
  if isK kind = false then 1 else if pad < 0 then 1 else if 16384 < plain.size then 13 else if 16600 - (plain.size : Int) < pad then 13 else if s.n = 65536 then 44 else 0
/-- A record's body, encrypted. -/
def hidB (s : BSt) (inner : ByteArray) : ByteArray := (sealO s.suite s.key (nonB s) (headB 23 (inner.size + 16)) inner).1
def selX (s : BSt) (kind : Int) (plain : ByteArray) (pad : Int) : ByteArray :=
  if selE s kind plain pad = 0 then headB 23 ((padB kind plain pad.toNat).size + 16) ++ hidB s (padB kind plain pad.toNat) else emB
def nxtB (s : BSt) : BSt := { s with n := s.n + 1 }
def selS (s : BSt) (kind : Int) (plain : ByteArray) (pad : Int) : BSt := if selE s kind plain pad = 0 then nxtB s else s
theorem hid_ok (s : BSt) (h : BOk s) (inner : ByteArray) : sealO s.suite s.key (nonB s) (headB 23 (inner.size + 16)) inner = (hidB s inner, 0) ∧ (hidB s inner).size = inner.size + 16 := by
  have hn := nonB_size s h
  unfold hidB
  rcases h.su with ⟨h1, h2⟩ | ⟨h1, h2⟩ <;> rw [h1]
  · rw [sealO, if_pos rfl, if_pos ⟨h2, hn⟩]
    exact ⟨rfl, by show (sealG _ _ _ _).length = _; rw [sealG_length, ← Lib.size_eq]⟩
  · rw [sealO, if_neg (by decide), if_pos rfl, if_pos ⟨h2, hn⟩]
    exact ⟨rfl, by show (sealS _ _ _ _).length = _; rw [sealS_length, ← Lib.size_eq]⟩
/-- What package seal answers of a body. -/
def opnP (s : BSt) (body : ByteArray) : ByteArray × Int := openO s.suite s.key (nonB s) (headB 23 body.size) body
theorem openG_le (k n b s : List UInt8) : (openG k n b s).length ≤ s.length := by rw [openG, strG_length, List.length_take]; omega
theorem openS_le (k n b s : List UInt8) : (openS k n b s).length ≤ s.length := by rw [openS, hidS_length, List.length_take]; omega
theorem opnP_size (s : BSt) (body : ByteArray) : (opnP s body).1.size ≤ body.size := by
  have hl := Lib.size_eq body
  have hG : ∀ k n b, (⟨(openG k n b body.data.toList).toArray⟩ : ByteArray).size ≤ body.size := fun k n b => by rw [hl]; exact openG_le k n b _
  have hS : ∀ k n b, (⟨(openS k n b body.data.toList).toArray⟩ : ByteArray).size ≤ body.size := fun k n b => by rw [hl]; exact openS_le k n b _
  have h0 : noB.size ≤ body.size := Nat.zero_le _
  unfold opnP openO
  repeat' split
  all_goals first
    | exact h0
    | exact hG _ _ []
    | exact hS _ _ []
/-- The bytes up to the last one that is not 0. -/
def unpM (t : ByteArray) : List UInt8 := Lib.trimRightB t.data.toList 0
def tlB (t : ByteArray) : UInt8 := (unpM t).getD ((unpM t).length - 1) 0
def unpE (t : ByteArray) : Int := if (unpM t).length = 0 then 11 else if isK ((tlB t).toNat : Int) = false then 11 else if 16384 < (unpM t).length - 1 then 13 else 0
def unpK (t : ByteArray) : Int := if unpE t = 0 then ((tlB t).toNat : Int) else 0
def unpB (t : ByteArray) : ByteArray := if unpE t = 0 then ⟨((unpM t).take ((unpM t).length - 1)).toArray⟩ else emB
def opnE (s : BSt) (body : ByteArray) : Int := if s.n = 65536 then 44 else if 16640 < body.size then 20 else if (opnP s body).2 ≠ 0 then (opnP s body).2 else unpE (opnP s body).1
def opnK (s : BSt) (body : ByteArray) : Int := if opnE s body = 0 then unpK (opnP s body).1 else 0
def opnB (s : BSt) (body : ByteArray) : ByteArray := if opnE s body = 0 then unpB (opnP s body).1 else emB
def opnS (s : BSt) (body : ByteArray) : BSt := if opnE s body = 0 then nxtB s else s
theorem trim_le (l : List UInt8) (c : UInt8) : (Lib.trimRightB l c).length ≤ l.length := by
  unfold Lib.trimRightB
  rw [List.length_reverse]
  exact Nat.le_trans (List.dropWhile_sublist _).length_le (by simp)
theorem trim_pre (l : List UInt8) (c : UInt8) : Lib.trimRightB l c = l.take (Lib.trimRightB l c).length := by
  obtain ⟨t, ht⟩ := List.dropWhile_suffix (· == c) (l := l.reverse)
  have e : l = Lib.trimRightB l c ++ t.reverse := by
    have := congrArg List.reverse ht
    rw [List.reverse_append, List.reverse_reverse] at this
    exact this.symm
  have e2 := congrArg (List.take (Lib.trimRightB l c).length) e
  rw [List.take_left] at e2
  exact e2.symm
/-- Where the walk from the right stands still. -/
theorem trim_at (l : List UInt8) (k : Nat) (hk : k ≤ l.length) (h1 : ∀ j, k ≤ j → j < l.length → l.getD j 0 = 0) (h2 : 0 < k → l.getD (k - 1) 0 ≠ 0) : Lib.trimRightB l 0 = l.take k := by
  refine Lib.trimRightB_take l 0 k hk (fun j b hj hb => ?_) (fun b hp hb => ?_)
  · have hl := (List.getElem?_eq_some_iff.1 hb).1
    have := h1 j hj hl
    rwa [List.getD_eq_getElem?_getD, hb] at this
  · have := h2 hp
    rwa [List.getD_eq_getElem?_getD, hb] at this
end Go.Proofs.YtffnafikegakcaaGreatDoor
