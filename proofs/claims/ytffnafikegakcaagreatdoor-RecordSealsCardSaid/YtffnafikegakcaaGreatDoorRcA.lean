/- Records and a reader of records, on lists of bytes. Arithmetic alone. -/
import Derived.Test.YtffnafikegakcaaGreatDoorBase
namespace Go.Proofs.YtffnafikegakcaaGreatDoor
open Go.RowKit Go.Sort
set_option maxRecDepth 100000
set_option linter.unusedSimpArgs false
set_option linter.unusedVariables false

def emB : ByteArray := ⟨#[]⟩
def isK (n : Int) : Bool := decide (20 ≤ n) && decide (n ≤ 23)
/-- A record's header. -/
def headL (kind : Int) (n : Nat) : List UInt8 := [wbyte kind 0, 3, 3, wbyte n 8, wbyte n 0]
def headB (kind : Int) (n : Nat) : ByteArray := ⟨(headL kind n).toArray⟩
theorem headB_size (kind : Int) (n : Nat) : (headB kind n).size = 5 := rfl
/-- What Frame answers. -/
def frO (kind : Int) (body : ByteArray) : ByteArray × Int :=
  if isK kind = false then (emB, 1) else if 16640 < body.size then (emB, 13) else (headB kind body.size ++ body, 0)
/-- The length in a header. -/
def szR (l : List UInt8) : Nat := 256 * (l.getD 3 0).toNat + (l.getD 4 0).toNat
/-- What is wrong with a buffer's first record. -/
def nxE (l : List UInt8) : Int :=
  if l.length = 0 then 33
  else if isK ((l.getD 0 0).toNat : Int) = false then 11
  else if 1 < l.length ∧ l.getD 1 0 ≠ 3 then 11
  else if 2 < l.length ∧ l.getD 2 0 ≠ 3 then 11
  else if l.length < 5 then 33
  else if 16640 < szR l then 13
  else if l.length < 5 + szR l then 33
  else 0
/-- A reader's bytes, and what was wrong. -/
structure RSt where
  buf : List UInt8
  err : Int
def feedE (st : RSt) (d : ByteArray) : Int := if st.err ≠ 0 then st.err else if 1048576 < st.buf.length + d.size then 13 else 0
def feedS (st : RSt) (d : ByteArray) : RSt := if feedE st d = 0 then ⟨st.buf ++ d.data.toList, 0⟩ else st
def nextE (st : RSt) : Int := if st.err ≠ 0 then st.err else nxE st.buf
def nextK (st : RSt) : Int := if nextE st = 0 then ((st.buf.getD 0 0).toNat : Int) else 0
def bodyB (l : List UInt8) : ByteArray := ⟨((l.drop 5).take (szR l)).toArray⟩
def nextB (st : RSt) : ByteArray := if nextE st = 0 then bodyB st.buf else emB
def nextS (st : RSt) : RSt := if st.err ≠ 0 then st else if nxE st.buf = 0 then ⟨st.buf.drop (5 + szR st.buf), 0⟩ else if nxE st.buf = 33 then st else ⟨[], nxE st.buf⟩
theorem bodyB_size (l : List UInt8) (h : 5 + szR l ≤ l.length) : (bodyB l).size = szR l := by
  show (((l.drop 5).take (szR l)).toArray).size = _
  simp; omega
theorem nxE_len (l : List UInt8) (h : nxE l = 0) : 5 + szR l ≤ l.length ∧ 5 ≤ l.length ∧ szR l ≤ 16640 := by
  unfold nxE at h
  repeat (split at h; · exact absurd h (by decide))
  omega

/-- Records one behind the other, the first one the n-th. -/
def frL (k : Int) (b : List UInt8) : List UInt8 := headL k b.length ++ b
theorem frL_length (k : Int) (b : List UInt8) : (frL k b).length = 5 + b.length := by simp [frL, headL]; omega
def catR : Nat → List (List UInt8) → List UInt8
  | _, [] => []
  | n, b :: r => frL (20 + ((n % 4 : Nat) : Int)) b ++ catR (n + 1) r
theorem catR_append (n : Nat) (a b : List (List UInt8)) : catR n (a ++ b) = catR n a ++ catR (n + a.length) b := by
  induction a generalizing n with
  | nil => simp [catR]
  | cons x a ih => simp only [List.cons_append, catR, ih, List.append_assoc, List.length_cons]; rw [show n + 1 + a.length = n + (a.length + 1) by omega]
theorem wb_small (k : Nat) (h : k < 256) : (wbyte (k : Int) 0).toNat = k := by
  have e := wbyte_toNat (k : Int) 0
  simp only [Int.pow_zero] at e
  omega
theorem wb_high (k : Nat) (h : k < 65536) : 256 * (wbyte (k : Int) 8).toNat + (wbyte (k : Int) 0).toNat = k := by
  have e := wbyte_toNat (k : Int) 0
  have f := wbyte_toNat (k : Int) 8
  simp only [Int.pow_zero] at e
  rw [show (2 : Int) ^ 8 = 256 by decide] at f
  omega
theorem getD_pre (a b : List UInt8) (l rest : List UInt8) (h : l ++ rest = a ++ b) (j : Nat) (h1 : j < l.length) (h2 : j < a.length) : l.getD j 0 = a.getD j 0 := by
  have e := congrArg (fun x : List UInt8 => x[j]?) h
  simp only [List.getElem?_append_left h1, List.getElem?_append_left h2] at e
  simp only [List.getD_eq_getElem?_getD, e]
/-- What the first record of a beginning of such a text is. -/
theorem nx_cat (n : Nat) (bs : List (List UInt8)) (hb : ∀ b, b ∈ bs → b.length ≤ 16640) (l rest : List UInt8) (h : l ++ rest = catR n bs) :
    (nxE l = 33 ∧ (rest = [] → bs = [])) ∨ (∃ b r, bs = b :: r ∧ nxE l = 0 ∧ ((l.getD 0 0).toNat : Int) = 20 + ((n % 4 : Nat) : Int) ∧ (l.drop 5).take (szR l) = b ∧ l.drop (5 + szR l) ++ rest = catR (n + 1) r) := by
  cases bs with
  | nil =>
    have hl : l = [] := by simp [catR] at h; exact h.1
    subst hl
    exact .inl ⟨rfl, fun _ => rfl⟩
  | cons b r =>
    have hbl := hb b (by simp)
    have hk4 : n % 4 < 4 := Nat.mod_lt _ (by decide)
    obtain ⟨k, hk⟩ : ∃ k, k = 20 + n % 4 := ⟨_, rfl⟩
    have hki : (20 + ((n % 4 : Nat) : Int)) = (k : Int) := by omega
    have hf : l ++ rest = headL (k : Int) b.length ++ (b ++ catR (n + 1) r) := by rw [h, catR, frL, hki, List.append_assoc]
    have hh : (headL (k : Int) b.length).length = 5 := rfl
    have g : ∀ j, j < 5 → j < l.length → l.getD j 0 = (headL (k : Int) b.length).getD j 0 := fun j h1 h2 => getD_pre _ _ _ _ hf j h2 (by rw [hh]; exact h1)
    have e0 : (wbyte (k : Int) 0).toNat = k := wb_small k (by omega)
    rw [hki]
    unfold nxE
    by_cases c0 : l.length = 0
    · rw [if_pos c0]
      refine .inl ⟨rfl, fun hr => ?_⟩
      subst hr
      have := congrArg List.length hf
      simp [headL] at this; omega
    rw [if_neg c0]
    have q0 : l.getD 0 0 = wbyte (k : Int) 0 := g 0 (by decide) (by omega)
    rw [q0, e0]
    have hik : isK (k : Int) = true := by simp [isK]; omega
    rw [hik, if_neg (by decide)]
    have c1 : ¬ (1 < l.length ∧ l.getD 1 0 ≠ 3) := fun ⟨h1, h2⟩ => h2 (g 1 (by decide) h1)
    have c2 : ¬ (2 < l.length ∧ l.getD 2 0 ≠ 3) := fun ⟨h1, h2⟩ => h2 (g 2 (by decide) h1)
    rw [if_neg c1, if_neg c2]
    by_cases c3 : l.length < 5
    · rw [if_pos c3]
      refine .inl ⟨rfl, fun hr => ?_⟩
      subst hr
      have := congrArg List.length hf
      simp [headL] at this; omega
    rw [if_neg c3]
    have hsz : szR l = b.length := by
      rw [szR, g 3 (by decide) (by omega), g 4 (by decide) (by omega)]
      exact wb_high b.length (by omega)
    rw [hsz, if_neg (by omega)]
    have hlr : l.take 5 = headL (k : Int) b.length ∧ l.drop 5 ++ rest = b ++ catR (n + 1) r := by
      have e := hf
      rw [← List.take_append_drop 5 l, List.append_assoc] at e
      exact List.append_inj e (by rw [hh]; simp; omega)
    by_cases c4 : l.length < 5 + b.length
    · rw [if_pos c4]
      refine .inl ⟨rfl, fun hr => ?_⟩
      subst hr
      have := congrArg List.length hf
      simp [headL] at this; omega
    rw [if_neg c4]
    have h6 : (l.drop 5).take b.length = b ∧ (l.drop 5).drop b.length ++ rest = catR (n + 1) r := by
      have e := hlr.2
      rw [← List.take_append_drop b.length (l.drop 5), List.append_assoc] at e
      exact List.append_inj e (by simp; omega)
    refine .inr ⟨b, r, rfl, rfl, rfl, h6.1, ?_⟩
    rw [← List.drop_drop]; exact h6.2
end Go.Proofs.YtffnafikegakcaaGreatDoor
