/- The block cipher, byte by byte, as the document tells it; the reference's product and its table. Arithmetic alone. -/
import Derived.Test.YtoejkiblampecaaDoorAesLane
namespace Go.Proofs.YtoejkiblampecaaDoor
open Go.RowKit
set_option maxRecDepth 100000
set_option linter.unusedSimpArgs false
set_option linter.unusedVariables false

/-- The reference's product: so many bits of b taken; a doubled as often. -/
def dbR (a : Nat) : Nat := if 255 < a * 2 then a * 2 ^^^ 283 else a * 2
def tmS (a b : Nat) : Nat → Nat × Nat
  | 0 => (0, a)
  | k + 1 => (if (b / 2 ^ k) % 2 = 1 then (tmS a b k).1 ^^^ (tmS a b k).2 else (tmS a b k).1, dbR (tmS a b k).2)
def tm (a b : Nat) : Nat := (tmS a b 8).1
theorem dbR_all : (List.range 256).all (fun a => decide (dbR a < 256) && (dbl1 a == dbR a)) = true := by decide +kernel
theorem dbR_lt (a : Nat) (h : a < 256) : dbR a < 256 := by have := List.all_eq_true.1 dbR_all a (List.mem_range.2 h); simp at this; exact this.1
theorem dbl1_dbR (a : Nat) (h : a < 256) : dbl1 a = dbR a := by have := List.all_eq_true.1 dbR_all a (List.mem_range.2 h); simp at this; exact this.2
theorem dbl1_lt (a : Nat) (h : a < 256) : dbl1 a < 256 := by rw [dbl1_dbR a h]; exact dbR_lt a h
theorem xor_lt8 {a b : Nat} (ha : a < 256) (hb : b < 256) : a ^^^ b < 256 := Nat.xor_lt_two_pow (n := 8) ha hb
theorem tmS_lt (a b : Nat) (ha : a < 256) : ∀ k, (tmS a b k).1 < 256 ∧ (tmS a b k).2 < 256
  | 0 => ⟨by simp [tmS], ha⟩
  | k + 1 => by
    obtain ⟨h1, h2⟩ := tmS_lt a b ha k
    refine ⟨?_, dbR_lt _ h2⟩
    simp only [tmS]
    split
    · exact xor_lt8 h1 h2
    · exact h1
theorem tm_lt (a b : Nat) (ha : a < 256) : tm a b < 256 := (tmS_lt a b ha 8).1
theorem tm2_all : (List.range 256).all (fun a => (tm a 2 == dbl1 a) && (tm a 3 == (dbl1 a ^^^ a))) = true := by decide +kernel
theorem tm2 (a : Nat) (h : a < 256) : tm a 2 = dbl1 a := by have := List.all_eq_true.1 tm2_all a (List.mem_range.2 h); simp at this; exact this.1
theorem tm3 (a : Nat) (h : a < 256) : tm a 3 = dbl1 a ^^^ a := by have := List.all_eq_true.1 tm2_all a (List.mem_range.2 h); simp at this; exact this.2
/-- What is stirred from an inverse. -/
def stS (v : Nat) : Nat → Nat
  | 0 => 99
  | k + 1 => stS v k ^^^ ((v * 2 ^ k ||| v / 2 ^ (8 - k)) &&& 255)
def stN (v : Nat) : Nat := stS v 5
/-- The last byte so far whose product with b is 1. -/
def ivS (b : Nat) : Nat → Nat
  | 0 => 0
  | k + 1 => if tm (k + 1) b = 1 then k + 1 else ivS b k
/-- The powers of 3. -/
def p3 : Nat → Nat
  | 0 => 1
  | k + 1 => tm (p3 k) 3
def p3L (n : Nat) : List Nat := (List.range n).map p3
def sb (x : UInt8) : UInt8 := UInt8.ofNat (sbT x.toNat)
def dbl8 (x : UInt8) : UInt8 := UInt8.ofNat (dbl1 x.toNat)
theorem sbT_lt (n : Nat) : sbT n < 256 := by
  by_cases h : n < 256
  · have : (List.range 256).all (fun n => decide (sbT n < 256)) = true := by decide +kernel
    simpa using List.all_eq_true.1 this n (List.mem_range.2 h)
  · unfold sbT; rw [List.getD_eq_getElem?_getD, List.getElem?_eq_none (by simp [sbL]; omega)]; simp
theorem sb_toNat (x : UInt8) : (sb x).toNat = sbT x.toNat := by have := sbT_lt x.toNat; simp [sb]; omega
theorem dbl8_toNat (x : UInt8) : (dbl8 x).toNat = dbl1 x.toNat := by have := dbl1_lt x.toNat (UInt8.toNat_lt x); simp [dbl8]; omega
/-- The table while it is filled. -/
def tabS : Nat → List UInt8
  | 0 => (List.replicate 256 0).set 0 99
  | k + 1 => (tabS k).set (p3 k) (UInt8.ofNat (stN (p3 ((255 - k) % 255))))
def tabL : List UInt8 := (List.range 256).map fun n => UInt8.ofNat (sbT n)

/-- The steps of a round, on sixteen bytes. -/
def swS (s : List UInt8) : List UInt8 := s.map sb
def shS (s : List UInt8) : List UInt8 := (List.range 16).map fun i => s.getD ((i + 4 * (i % 4)) % 16) 0
def mxB (a b c d : UInt8) : UInt8 := dbl8 (a ^^^ b) ^^^ b ^^^ c ^^^ d
def mxS (s : List UInt8) : List UInt8 := (List.range 16).map fun i => mxB (s.getD (i / 4 * 4 + i % 4) 0) (s.getD (i / 4 * 4 + (i % 4 + 1) % 4) 0) (s.getD (i / 4 * 4 + (i % 4 + 2) % 4) 0) (s.getD (i / 4 * 4 + (i % 4 + 3) % 4) 0)
def plS (s k : List UInt8) : List UInt8 := (List.range 16).map fun i => s.getD i 0 ^^^ k.getD i 0
/-- A round's key: byte r of the word c of the next one. -/
def nb (k : List UInt8) (p : UInt8) (r : Nat) : Nat → UInt8
  | 0 => sb (k.getD (12 + (r + 1) % 4) 0) ^^^ (if r = 0 then p else 0) ^^^ k.getD r 0
  | c + 1 => nb k p r c ^^^ k.getD (4 * (c + 1) + r) 0
def nxL (k : List UInt8) (p : UInt8) : List UInt8 := (List.range 16).map fun i => nb k p (i % 4) (i / 4)
def pw : Nat → UInt8
  | 0 => 1
  | i + 1 => dbl8 (pw i)
def rk (key : List UInt8) : Nat → List UInt8
  | 0 => key
  | i + 1 => nxL (rk key i) (pw i)
/-- The state ahead of the last round's and its end. -/
def roS (key block : List UInt8) : Nat → List UInt8
  | 0 => plS block key
  | i + 1 => plS (mxS (shS (swS (roS key block i)))) (rk key (i + 1))
def enL (key block : List UInt8) : List UInt8 := plS (shS (swS (roS key block 9))) (rk key 10)
theorem swS_length (s : List UInt8) : (swS s).length = s.length := List.length_map _
theorem shS_length (s : List UInt8) : (shS s).length = 16 := by simp [shS]
theorem mxS_length (s : List UInt8) : (mxS s).length = 16 := by simp [mxS]
theorem plS_length (s k : List UInt8) : (plS s k).length = 16 := by simp [plS]
theorem nxL_length (k : List UInt8) (p : UInt8) : (nxL k p).length = 16 := by simp [nxL]
theorem rk_length (key : List UInt8) (h : key.length = 16) : ∀ i, (rk key i).length = 16
  | 0 => h
  | i + 1 => nxL_length _ _
theorem roS_length (key block : List UInt8) : ∀ i, (roS key block i).length = 16
  | 0 => plS_length _ _
  | i + 1 => plS_length _ _
theorem enL_length (key block : List UInt8) : (enL key block).length = 16 := plS_length _ _

theorem fips : ((enL [0, 1, 2, 3, 4, 5, 6, 7, 8, 9, 10, 11, 12, 13, 14, 15] [0, 17, 34, 51, 68, 85, 102, 119, 136, 153, 170, 187, 204, 221, 238, 255]).take 4 == [0x69, 0xc4, 0xe0, 0xd8]) = true := by decide +kernel
end Go.Proofs.YtoejkiblampecaaDoor
