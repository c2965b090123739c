/- Messages and their bytes, on lists of bytes. Arithmetic alone. -/
import Derived.Test.YtjemikbnncfonaaBase
namespace Go.Proofs.Ytjemikbnncfonaa
open Go.RowKit Go.Sort
set_option maxRecDepth 100000
set_option linter.unusedSimpArgs false
set_option linter.unusedVariables false

def emB : ByteArray := ⟨#[]⟩
/-- A message. -/
structure HMsg where
  k : Int
  rn : ByteArray
  sh : ByteArray
  su : List Int
  da : ByteArray
  ask : Bool
def noM : HMsg := ⟨0, emB, emB, [], emB, false⟩
/-- The bytes of a list. -/
def toB (l : List UInt8) : ByteArray := ⟨l.toArray⟩
abbrev ofB (b : ByteArray) : List UInt8 := b.data.toList
theorem toB_of (b : ByteArray) : toB (ofB b) = b := by cases b; simp [toB, ofB]
theorem of_toB (l : List UInt8) : ofB (toB l) = l := by simp [toB, ofB]
theorem ofB_add (a b : ByteArray) : ofB (a ++ b) = ofB a ++ ofB b := by simp [ofB]
theorem ofB_inj {a b : ByteArray} (h : ofB a = ofB b) : a = b := by rw [← toB_of a, h, toB_of]
theorem ofB_len (b : ByteArray) : (ofB b).length = b.size := Array.length_toList
theorem toB_add (a b : List UInt8) : toB (a ++ b) = toB a ++ toB b := ofB_inj (by rw [of_toB, ofB_add, of_toB, of_toB])
theorem toB_size (l : List UInt8) : (toB l).size = l.length := by simp [toB, ByteArray.size]

/-- A suite's two bytes. -/
def suP (x : Int) : List UInt8 := [wbyte (x.tdiv 256) 0, wbyte (x.tmod 256) 0]
def suL : List Int → List UInt8
  | [] => []
  | x :: r => suP x ++ suL r
theorem suL_length (l : List Int) : (suL l).length = 2 * l.length := by
  induction l with
  | nil => rfl
  | cons x r ih => simp [suL, suP, ih]; omega
theorem suL_append (a b : List Int) : suL (a ++ b) = suL a ++ suL b := by
  induction a with
  | nil => rfl
  | cons x r ih => simp [suL, ih]
def n2 (n : Nat) : List UInt8 := [wbyte n 8, wbyte n 0]
def n3 (n : Nat) : List UInt8 := [wbyte n 16, wbyte n 8, wbyte n 0]
def c2 (b : ByteArray) : ByteArray := toB (n2 b.size) ++ b
def c3 (b : ByteArray) : ByteArray := toB (n3 b.size) ++ b
def extC : List UInt8 := [0, 43, 0, 3, 2, 3, 4, 0, 10, 0, 4, 0, 2, 0, 29, 0, 13, 0, 4, 0, 2, 8, 7, 0, 51, 0, 38, 0, 36, 0, 29, 0, 32]
def extS : List UInt8 := [0, 43, 0, 2, 3, 4, 0, 51, 0, 36, 0, 29, 0, 32]
def bl (l : List UInt8) : ByteArray := toB l
/-- A message's body, whatever it holds. -/
def bodB (m : HMsg) : ByteArray :=
  if m.k = 1 then toB [3, 3] ++ m.rn ++ toB [0] ++ c2 (toB (suL m.su)) ++ toB [1, 0] ++ c2 (toB extC ++ m.sh)
  else if m.k = 2 then toB [3, 3] ++ m.rn ++ toB [0] ++ toB (suL m.su) ++ toB [0] ++ c2 (toB extS ++ m.sh)
  else if m.k = 8 then toB [0, 0]
  else if m.k = 11 then toB [0] ++ c3 (c3 m.da ++ toB [0, 0])
  else if m.k = 13 then toB [0, 0, 8, 0, 13, 0, 4, 0, 2, 8, 7]
  else if m.k = 15 then toB [8, 7] ++ c2 m.da
  else if m.k = 20 then m.da
  else if m.k = 24 then (if m.ask then toB [1] else toB [0])
  else emB
def bare (m : HMsg) : Bool := decide (m.rn = emB) && decide (m.sh = emB) && decide (m.su.length = 0)
def suitsOk (l : List Int) : Bool := l.all fun x => decide (0 ≤ x) && decide (x ≤ 65535)
def suited (m : HMsg) (most : Nat) : Bool := decide (m.rn.size = 32) && decide (m.sh.size = 32) && decide (1 ≤ m.su.length) && decide (m.su.length ≤ most) && suitsOk m.su
/-- Is a message valid? -/
def okM (m : HMsg) : Bool :=
  if m.k = 1 then suited m 4 && (decide (m.da = emB) && !m.ask)
  else if m.k = 2 then suited m 1 && (decide (m.da = emB) && !m.ask)
  else if m.k = 8 then bare m && decide (m.da = emB) && !m.ask
  else if m.k = 11 then decide (1 ≤ m.da.size) && decide (m.da.size ≤ 1000) && (bare m && !m.ask)
  else if m.k = 13 then bare m && decide (m.da = emB) && !m.ask
  else if m.k = 15 then decide (m.da.size = 64) && (bare m && !m.ask)
  else if m.k = 20 then decide (m.da.size = 32) && (bare m && !m.ask)
  else if m.k = 24 then bare m && decide (m.da = emB)
  else false
def encB (m : HMsg) : ByteArray := toB [wbyte m.k 0] ++ c3 (bodB m)
/-- What Encode answers. -/
def encX (m : HMsg) : ByteArray := if okM m then encB m else emB
def encE (m : HMsg) : Int := if okM m then 0 else 1

/-- A part of bytes, and two bytes as a number. -/
def partB (s : ByteArray) (a n : Nat) : ByteArray := if s.size < a then emB else toB (((ofB s).drop a).take n)
def twoB (s : ByteArray) (a : Nat) : Int := if s.size < a + 2 then 0 else 256 * (((ofB s).getD a 0).toNat : Int) + (((ofB s).getD (a + 1) 0).toNat : Int)
def susB (s : ByteArray) (n : Nat) : List Int := (List.range n).map fun j => twoB s (37 + 2 * j)
def szH (d : ByteArray) : Nat := 65536 * ((ofB d).getD 1 0).toNat + 256 * ((ofB d).getD 2 0).toNat + ((ofB d).getD 3 0).toNat
def cutB (d : ByteArray) : ByteArray := toB (((ofB d).drop 4).take (szH d))
def restB (d : ByteArray) : ByteArray := toB ((ofB d).drop (4 + szH d))
def headB (d : ByteArray) : ByteArray := toB ((ofB d).take (4 + szH d))
/-- What a message with this body seems to be. -/
def seem (k : Int) (s : ByteArray) : HMsg :=
  if k = 1 then ⟨1, partB s 2 32, partB s (s.size - 32) 32, susB s (min 5 (((twoB s 35).toNat + 1) / 2)), emB, false⟩
  else if k = 2 then ⟨2, partB s 2 32, partB s (s.size - 32) 32, [twoB s 35], emB, false⟩
  else if k = 11 then ⟨11, emB, emB, [], if 9 < s.size then partB s 7 (s.size - 9) else emB, false⟩
  else if k = 15 then ⟨15, emB, emB, [], partB s 4 64, false⟩
  else if k = 20 then ⟨20, emB, emB, [], s, false⟩
  else if k = 24 then ⟨24, emB, emB, [], emB, decide (s = toB [1])⟩
  else ⟨k, emB, emB, [], emB, false⟩
def kindH (d : ByteArray) : Int := (((ofB d).getD 0 0).toNat : Int)
def seemH (d : ByteArray) : HMsg := seem (kindH d) (cutB d)
/-- What Decode answers. -/
def decE (d : ByteArray) : Int :=
  if d.size < 4 then 33 else if 4096 < szH d then 13 else if d.size < 4 + szH d then 33
  else if okM (seemH d) = true ∧ encB (seemH d) = headB d then 0 else 11
def decM (d : ByteArray) : HMsg := if decE d = 0 then seemH d else noM
def decR (d : ByteArray) : ByteArray := if decE d = 0 then restB d else emB

theorem dec_ok {d : ByteArray} (h : decE d = 0) : okM (decM d) = true ∧ encB (decM d) ++ decR d = d := by
  rw [decM, decR, if_pos h, if_pos h]
  unfold decE at h
  split at h
  · exact absurd h (by decide)
  · split at h
    · exact absurd h (by decide)
    · split at h
      · exact absurd h (by decide)
      · split at h
        · rename_i ho
          refine ⟨ho.1, ?_⟩
          rw [ho.2]
          apply ofB_inj
          rw [ofB_add, headB, restB, of_toB, of_toB, List.take_append_drop]
        · exact absurd h (by decide)
end Go.Proofs.Ytjemikbnncfonaa
