/- The reference's nought, its modulus, and its carries; The reference's carries; The reference's number below the modulus; The reference's sum and difference; The reference's difference; The reference's product; The reference's number of bytes; The reference's bytes of a number; The reference's small numbers; The reference's powers, its inverse, whether two numbers are the same; The reference's halves and its root. -/
import Derived.Test.YtcpnenjmbajbeaaDoorFldA
import Derived.Test.YtcpnenjmbajbeaaDoorFldP
import Derived.Test.YtcpnenjmbajbeaaDoorBase
import Derived.Laws.BitsAllLaws
import Derived.WalkSmall
namespace Go.Proofs.YtcpnenjmbajbeaaDoor
section
open Go.RowKit Go.Sort
set_option maxRecDepth 100000
set_option linter.unusedSimpArgs false
set_option linter.unusedVariables false

def dcl (l : List Nat) : Array Value := nc .i64 l
theorem dcl_size (l : List Nat) : (dcl l).size = l.length := nc_size _ l
theorem dcl_cell {W : World} {B : Nat} {l : List Nat} {T : TypeId} {fr : Nat × Nat} (h : W.heap[B]? = some (.cells (dcl l) T fr)) (j : Nat) (hj : j < l.length) : W.cell? ⟨B, j, none⟩ = some (.int .i64 ((l.getD j 0 : Nat) : Int)) := nc_cell h j hj
theorem dcl_set {W : World} {B : Nat} {l : List Nat} {T : TypeId} (h : W.heap[B]? = some (.cells (dcl l) T)) (j : Nat) (x : Nat) : (W.setCell ⟨B, j, none⟩ (.int .i64 (x : Int))).heap[B]? = some (.cells (dcl (l.set j x)) T) := nc_heap_set h j x
theorem infoF_int : (Tryd.prog.info? 3).map (fun i => (i.zero, i.size, i.bytes)) = some (some (.int .i64 0), 1, 8) := by kernel_rfl
def zerosF16 : Array Value := dcl (List.replicate 16 0)
theorem made_digits (n : Nat) : madeCells (Value.int .i64 0).cells n = dcl (List.replicate n 0) := by
  apply Array.ext_getElem?
  intro i
  by_cases h : i < n
  · simp [madeCells, dcl, nc, Value.cells, h, Nat.mod_one]
  · simp [madeCells, dcl, nc, Value.cells, h]
/-- A slice of sixteen digits, wherever it lies. -/
def DigAt (W : World) (v : Value) (l : List Nat) : Prop := ∃ D cap, v = .slice (some ⟨D, 0, none⟩) 16 cap ∧ ∀ j, j < 16 → W.cell? ⟨D, j, none⟩ = some (.int .i64 ((l.getD j 0 : Nat) : Int))
theorem DigAt.step {W W' : World} {v : Value} {l : List Nat} (h : DigAt W v l) (hb : Below W.heap.size W W') : DigAt W' v l := by
  obtain ⟨D, cap, hv, hc⟩ := h
  exact ⟨D, cap, hv, fun j hj => (hb.cell (block_lt_of_cell (hc j hj))).trans (hc j hj)⟩
theorem DigAt.of_block {W : World} {D cap : Nat} {l : List Nat} {T : TypeId} (h : W.heap[D]? = some (.cells (dcl l) T)) (hl : l.length = 16) : DigAt W (.slice (some ⟨D, 0, none⟩) 16 cap) l := ⟨D, cap, rfl, fun j hj => dcl_cell h j (by omega)⟩


/-- The modulus while it is laid. -/
def modL (i : Nat) : List Nat := mkD fun j => if j < i then 65535 else 0
theorem modL_length (i : Nat) : (modL i).length = 16 := mkD_length _
theorem modL_set (i : Nat) (h : i < 16) : (modL i).set i 65535 = modL (i + 1) := by
  have := mkD_set (fun j => if j < i then 65535 else 0) (fun j => if j < i + 1 then 65535 else 0) i h (fun j hj hne => by
    by_cases h1 : j < i
    · simp [h1, Nat.lt_succ_of_lt h1]
    · have : ¬ j < i + 1 := by omega
      simp [h1, this])
  rw [modL, modL]
  simpa using this
theorem modL_full : ((modL 16).set 0 65517).set 15 32767 = digN pF := by decide +kernel

end

section
open Go.RowKit Go.Sort
set_option maxRecDepth 100000
set_option linter.unusedSimpArgs false
set_option linter.unusedVariables false

theorem and_16 (y : Nat) (h1 : y ≤ 4611686018427387904) : bits .and .i64 (y : Int) 65535 = ((y % 65536 : Nat) : Int) := by
  have h16 : (BitVec.ofInt 64 65535).toNat = 2 ^ 16 - 1 := by decide
  have key : (BitVec.ofInt 64 (y : Int) &&& BitVec.ofInt 64 65535).toNat = ((y : Int) % ((2 ^ 64 : Nat) : Int)).toNat % 2 ^ 16 := by
    rw [BitVec.toNat_and, BitVec.toNat_ofInt, h16, Nat.and_two_pow_sub_one_eq_mod]
  show IntKind.i64.wrap ((BitVec.ofInt 64 (y : Int) &&& BitVec.ofInt 64 65535).toNat : Nat) = _
  rw [key, IntKind.wrap_i64]
  omega
/-- No digit is greater than 2^60. -/
def small60 (v : List Nat) : Prop := ∀ j, v.getD j 0 ≤ 1152921504606846976
theorem rnd_small (v : List Nat) (h : small60 v) (hl : v.length = 16) (i : Nat) (hi : i < 16) : (rnd v i).2 ≤ 1152921504606846976 ∧ (rnd v i).1.getD i 0 = v.getD i 0 ∧ v.getD i 0 ≤ 1152921504606846976 :=
  ⟨rnd_carry v _ h i (by omega), rnd_late v i (by omega) i (Nat.le_refl _), h i⟩
theorem foldR_small (v : List Nat) (h : small60 v) (hl : v.length = 16) : small60 (foldR v) ∧ (rnd v 16).2 ≤ 35184372088832 ∧ (rnd v 16).1.getD 0 0 ≤ 65535 := by
  obtain ⟨c1, e1, b1⟩ := rnd_small v h hl 15 (by decide)
  have hc : (rnd v 16).2 = ((rnd v 15).1.getD 15 0 + (rnd v 15).2) / 65536 := rfl
  have hc2 : (rnd v 16).2 ≤ 35184372088832 := by rw [hc, e1]; omega
  have h0 := rnd_low v 16 (by omega) 0 (by decide)
  refine ⟨fun j => ?_, hc2, by omega⟩
  by_cases hj : j < 16
  · rw [foldR, nset_getD _ _ _ _ (by rw [rnd_length]; omega)]
    split
    · omega
    · have := rnd_low v 16 (by omega) j hj; omega
  · rw [List.getD_eq_getElem?_getD, List.getElem?_eq_none (by rw [foldR_length]; omega)]
    simp
/-- So many rounds. -/
def foldN (v : List Nat) : Nat → List Nat
  | 0 => v
  | r + 1 => foldR (foldN v r)
theorem foldN_length (v : List Nat) (h : v.length = 16) : ∀ r, (foldN v r).length = 16
  | 0 => h
  | r + 1 => by rw [foldN, foldR_length]; exact foldN_length v h r
theorem foldN_small (v : List Nat) (h : small60 v) (hl : v.length = 16) : ∀ r, small60 (foldN v r)
  | 0 => h
  | r + 1 => (foldR_small _ (foldN_small v h hl r) (foldN_length v hl r)).1
/-- No round before has ended it. -/
def goesOn (v : List Nat) (r : Nat) : Prop := ∀ q, q < r → (rnd (foldN v q) 16).2 ≠ 0
theorem foldD_stop (v : List Nat) (r : Nat) (hr : r < 3) (h : goesOn v r) (h0 : (rnd (foldN v r) 16).2 = 0) : foldN v (r + 1) = foldD v := by
  rcases (show r = 0 ∨ r = 1 ∨ r = 2 by omega) with rfl | rfl | rfl
  · have e0 : (rnd v 16).2 = 0 := h0
    rw [foldD, if_pos e0]; rfl
  · have e0 : (rnd v 16).2 ≠ 0 := h 0 (by decide)
    have e1 : (rnd (foldR v) 16).2 = 0 := h0
    rw [foldD, if_neg e0, if_pos e1]; rfl
  · have e0 : (rnd v 16).2 ≠ 0 := h 0 (by decide)
    have e1 : (rnd (foldR v) 16).2 ≠ 0 := h 1 (by decide)
    rw [foldD, if_neg e0, if_neg e1]; rfl
theorem foldD_end (v : List Nat) (h : goesOn v 3) : foldN v 3 = foldD v := by
  have e0 : (rnd v 16).2 ≠ 0 := h 0 (by decide)
  have e1 : (rnd (foldR v) 16).2 ≠ 0 := h 1 (by decide)
  rw [foldD, if_neg e0, if_neg e1]; rfl

end

section
open Go.RowKit Go.Sort
set_option maxRecDepth 100000
set_option linter.unusedSimpArgs false
set_option linter.unusedVariables false

def dvl (l : List Nat) : List Value := l.map fun n : Nat => Value.int .i64 (n : Int)
theorem dvl_length (l : List Nat) : (dvl l).length = l.length := by simp [dvl]
theorem dvl_get (l : List Nat) (j : Nat) (h : j < l.length) : (dvl l)[j]? = some (.int .i64 ((l.getD j 0 : Nat) : Int)) := by simp [dvl, h]
theorem dvl_set (l : List Nat) (j x : Nat) : (dvl l).set j (.int .i64 (x : Int)) = dvl (l.set j x) := by simp [dvl, List.map_set]
theorem dvl_snoc (l : List Nat) (x : Nat) : dvl l ++ [.int .i64 (x : Int)] = dvl (l ++ [x]) := by simp [dvl]
theorem DigAt.of_own {W : World} {base g cap : Nat} {l : List Nat} (h : OwnS W base g cap (dvl l)) (hl : l.length = 16) : DigAt W (.slice (some ⟨g, 0, none⟩) 16 cap) l :=
  ⟨g, cap, rfl, fun j hj => h.cells j _ (dvl_get l j (by omega))⟩
theorem addW_c (v : List Nat) (h : ∀ j, j < 16 → v.getD j 0 < 65536) : ∀ i, i ≤ 16 → (addW v i).2 ≤ 19
  | 0, _ => by simp [addW]
  | i + 1, hi => by
    have h1 := addW_c v h i (by omega)
    have h2 := h i (by omega)
    rw [addW]
    show ((addW v i).2 + v.getD i 0) / 65536 ≤ 19
    omega
def subN (v : List Nat) : Nat → List Nat
  | 0 => v
  | r + 1 => subP (subN v r)
theorem subN_spec (v : List Nat) (hl : v.length = 16) (h : ∀ j, j < 16 → v.getD j 0 < 65536) : ∀ r, (subN v r).length = 16 ∧ ∀ j, j < 16 → (subN v r).getD j 0 < 65536
  | 0 => ⟨hl, h⟩
  | r + 1 => by
    obtain ⟨h1, h2⟩ := subN_spec v hl h r
    obtain ⟨h3, h4, _⟩ := subP_spec _ h1 h2
    exact ⟨h3, h4⟩
theorem belowD_two (v : List Nat) (h : ¬ v.getD 15 0 < 32767) : subN v 2 = belowD v := by rw [belowD, if_neg h]; rfl

end

section
open Go.RowKit Go.Sort
set_option maxRecDepth 100000
set_option linter.unusedSimpArgs false
set_option linter.unusedVariables false

/-- Digits that are laid one by one. -/
def partD (f : Nat → Nat) (i : Nat) : List Nat := mkD fun j => if j < i then f j else 0
theorem partD_length (f : Nat → Nat) (i : Nat) : (partD f i).length = 16 := mkD_length _
theorem partD_set (f : Nat → Nat) (i : Nat) (h : i < 16) : (partD f i).set i (f i) = partD f (i + 1) := by
  have := mkD_set (fun j => if j < i then f j else 0) (fun j => if j < i + 1 then f j else 0) i h (fun j hj hne => by
    by_cases h1 : j < i
    · simp [h1, Nat.lt_succ_of_lt h1]
    · have : ¬ j < i + 1 := by omega
      simp [h1, this])
  rw [partD, partD]
  simpa using this
theorem partD_full (f : Nat → Nat) : partD f 16 = mkD f := nums_ext (partD_length ..) (mkD_length _) fun i hi => by rw [partD, mkD_get _ _ hi, mkD_get _ _ hi, if_pos hi]
theorem partD_zero (f : Nat → Nat) : zerosF16 = dcl (partD f 0) := rfl
theorem partD_get (f : Nat → Nat) (i j : Nat) (h : j < 16) : (partD f i).getD j 0 = if j < i then f j else 0 := mkD_get _ _ h
theorem fold_facts (v : List Nat) (hl : v.length = 16) (h : ∀ j, j < 16 → v.getD j 0 ≤ 1152921504606846976) : small60 v ∧ (foldD v).length = 16 ∧ ∀ j, j < 16 → (foldD v).getD j 0 < 65536 :=
  ⟨fun j => by
    by_cases hj : j < 16
    · exact h j hj
    · rw [List.getD_eq_getElem?_getD, List.getElem?_eq_none (by omega)]; simp, by rw [foldD_length]; exact hl, foldD_low v hl (dS_small v 1152921504606846976 (by decide) h)⟩

end

section
open Go.RowKit Go.Sort
set_option maxRecDepth 100000
set_option linter.unusedSimpArgs false
set_option linter.unusedVariables false

end

section
open Go.RowKit Go.Sort
set_option maxRecDepth 100000
set_option linter.unusedSimpArgs false
set_option linter.unusedVariables false

end

section
open Go.RowKit Go.Sort
set_option maxRecDepth 100000
set_option linter.unusedSimpArgs false
set_option linter.unusedVariables false

/-- The digits of a text's bytes. -/
def ofL (l : List UInt8) (k : Nat) : List Nat := (List.range k).map fun j => (l.getD (2 * j) 0).toNat + 256 * (l.getD (2 * j + 1) 0).toNat
theorem ofL_length (l : List UInt8) (k : Nat) : (ofL l k).length = k := by simp [ofL]
theorem ofL_snoc (l : List UInt8) (k : Nat) : dvl (ofL l k) ++ [.int .i64 ((((l.getD (2 * k) 0).toNat + 256 * (l.getD (2 * k + 1) 0).toNat : Nat)) : Int)] = dvl (ofL l (k + 1)) := by
  rw [dvl_snoc, ofL, ofL, List.range_succ, List.map_append]; rfl
theorem ofL_full (l : List UInt8) : ofL l 16 = mkD fun j => (l.getD (2 * j) 0).toNat + 256 * (l.getD (2 * j + 1) 0).toNat := rfl
theorem ofL_lt (l : List UInt8) (k j : Nat) (h : j < k) : (ofL l k).getD j 0 < 65536 := by
  rw [ofL, nrange_getD _ _ _ h]
  have := UInt8.toNat_lt (l.getD (2 * j) 0); have := UInt8.toNat_lt (l.getD (2 * j + 1) 0)
  omega
theorem getDF_byte (s : ByteArray) (i : Nat) (h : i < s.size) : s.data.toList.getD i 0 = s[i] := by rw [List.getD_eq_getElem?_getD, Array.getElem?_toList]; simp [h]; rfl


end

section
open Go.RowKit Go.Sort
set_option maxRecDepth 100000
set_option linter.unusedSimpArgs false
set_option linter.unusedVariables false

theorem run_string_ownF {W : World} {base n cap : Nat} {ao : Option Addr} {l : List UInt8} (h : Own W base (.slice ao n cap) (Lib.byteCells l)) (hl : l.length = n) (hp : 0 < n) : (convert 51 9 (.slice ao n cap)).run Tryd.prog W = .ok (.string ⟨l.toArray⟩) W := by
  obtain ⟨g, gc, hv, hown, _⟩ := h.some (by rw [Lib.byteCells_length]; omega)
  rw [hv, Lib.byteCells_length]
  exact run_string_row W g gc l fun j x hx => hown.cells j _ (by simp [Lib.byteCells, hx])

end

section
open Go.RowKit Go.Sort
set_option maxRecDepth 100000
set_option linter.unusedSimpArgs false
set_option linter.unusedVariables false

theorem and_16i (y : Int) : bits .and .i64 y 65535 = y % 65536 := by
  have h16 : (BitVec.ofInt 64 65535).toNat = 2 ^ 16 - 1 := by decide
  have key : (BitVec.ofInt 64 y &&& BitVec.ofInt 64 65535).toNat = (y % ((2 ^ 64 : Nat) : Int)).toNat % 2 ^ 16 := by
    rw [BitVec.toNat_and, BitVec.toNat_ofInt, h16, Nat.and_two_pow_sub_one_eq_mod]
  show IntKind.i64.wrap ((BitVec.ofInt 64 y &&& BitVec.ofInt 64 65535).toNat : Nat) = _
  rw [key, IntKind.wrap_i64]
  omega
theorem small_part (n : Nat) (h : n < 9223372036854775808) : partD (fun j => n / 65536 ^ j % 65536) 4 = digN n := nums_ext (partD_length ..) (digN_length _) fun i hi => by
  rw [partD_get _ _ _ hi, digN_get _ _ hi]
  split
  · rfl
  · have h4 : (65536 : Nat) ^ 4 ≤ 65536 ^ i := Nat.pow_le_pow_right (by decide) (by omega)
    rw [Nat.div_eq_of_lt (by have : (65536 : Nat) ^ 4 = 18446744073709551616 := by decide
                             omega)]



end

section
open Go.RowKit Go.Sort
set_option maxRecDepth 100000
set_option linter.unusedSimpArgs false
set_option linter.unusedVariables false

theorem and_1i (y : Int) : bits .and .i64 y 1 = y % 2 := by
  have h16 : (BitVec.ofInt 64 1).toNat = 2 ^ 1 - 1 := by decide
  have key : (BitVec.ofInt 64 y &&& BitVec.ofInt 64 1).toNat = (y % ((2 ^ 64 : Nat) : Int)).toNat % 2 ^ 1 := by
    rw [BitVec.toNat_and, BitVec.toNat_ofInt, h16, Nat.and_two_pow_sub_one_eq_mod]
  show IntKind.i64.wrap ((BitVec.ofInt 64 y &&& BitVec.ofInt 64 1).toNat : Nat) = _
  rw [key, IntKind.wrap_i64]
  omega
theorem pw_bit (n m i : Nat) (hi : i = 255 - m) (hm : m < 256) : bits .and .i64 ((((digN n).getD (i / 16) 0 : Nat) : Int) / 2 ^ (i % 16)) 1 = if n.testBit (255 - m) then 1 else 0 := by
  have h := digN_bit n i (by omega)
  have e : (((digN n).getD (i / 16) 0 : Nat) : Int) / 2 ^ (i % 16) % 2 = (((digN n).getD (i / 16) 0 / 2 ^ (i % 16) % 2 : Nat) : Int) := by simp
  rw [and_1i, e, h, ← hi, Nat.testBit_eq_decide_div_mod_eq]
  rcases (show n / 2 ^ i % 2 = 0 ∨ n / 2 ^ i % 2 = 1 by omega) with h1 | h1 <;> simp [h1]
theorem pw_mul (x n m : Nat) : pwF x n m * pwF x n m % pF = mulF (pwF x n m) (pwF x n m) := rfl


theorem pF2_digits : (digN pF).set 0 65515 = digN (pF - 2) := by decide +kernel

theorem digN_alike (x y : Nat) (hx : x < mF) (hy : y < mF) (h : ∀ j, j < 16 → (digN x).getD j 0 = (digN y).getD j 0) : x = y := by
  have := digN_val x hx
  rw [← this, dS_congr _ _ 16 h, digN_val y hy]
end

section
open Go.RowKit Go.Sort
set_option maxRecDepth 100000
set_option linter.unusedSimpArgs false
set_option linter.unusedVariables false

theorem or_i64 (a b : Nat) (ha : a < 65536) (hb : b < 65536) : bits .or .i64 (a : Int) (b : Int) = ((a ||| b : Nat) : Int) := by
  have key : (BitVec.ofInt 64 (a : Int) ||| BitVec.ofInt 64 (b : Int)).toNat = a ||| b := by
    rw [BitVec.toNat_or, BitVec.toNat_ofInt, BitVec.toNat_ofInt]
    rw [show ((a : Int) % ((2 ^ 64 : Nat) : Int)).toNat = a by omega, show ((b : Int) % ((2 ^ 64 : Nat) : Int)).toNat = b by omega]
  show IntKind.i64.wrap ((BitVec.ofInt 64 (a : Int) ||| BitVec.ofInt 64 (b : Int)).toNat : Nat) = _
  rw [key, IntKind.wrap_i64]
  have := Nat.or_lt_two_pow (n := 16) ha hb
  omega
/-- Digit by digit: the half. -/
theorem half_low (x j : Nat) (hj : j < 15) (hx : x < mF) : bits .or .i64 ((((digN x).getD j 0 : Nat) : Int) / 2) ((((digN x).getD (j + 1) 0 : Nat) : Int) % 2 * 32768) = (((digN (x / 2)).getD j 0 : Nat) : Int) := by
  have h1 := digN_lt x j (by omega); have h2 := digN_lt x (j + 1) (by omega)
  have h := half_ref x j (by omega) hx
  rw [if_pos hj] at h
  have e1 : (((digN x).getD j 0 : Nat) : Int) / 2 = (((digN x).getD j 0 / 2 : Nat) : Int) := by omega
  have e2 : (((digN x).getD (j + 1) 0 : Nat) : Int) % 2 * 32768 = (((digN x).getD (j + 1) 0 % 2 * 32768 : Nat) : Int) := by omega
  rw [e1, e2, or_i64 _ _ (by omega) (by omega), h]
theorem half_top (x : Nat) (hx : x < mF) : (((digN x).getD 15 0 : Nat) : Int) / 2 = (((digN (x / 2)).getD 15 0 : Nat) : Int) := by
  have h := half_ref x 15 (by omega) hx
  rw [if_neg (by omega), Nat.or_zero] at h
  omega


theorem pF3_digits : (digN pF).set 0 65520 = digN (pF + 3) := by decide +kernel
theorem pF1_digits : (digN pF).set 0 65516 = digN (pF - 1) := by decide +kernel
theorem pF_low : (digN pF).getD 0 0 = 65517 := by decide +kernel
def evenR (x : Nat) : Nat := if x % 2 = 1 then subF 0 x else x
theorem rootR_same (x : Nat) (h : mulF (rootX x) (rootX x) = x) : rootF x = (evenR (rootX x), true) := by
  have hy : rootY x = rootX x := if_pos h
  rw [rootF, hy, if_pos h]
  rfl
theorem rootR_other (x : Nat) (h : ¬ mulF (rootX x) (rootX x) = x) : mulF (rootX x) (powF 2 ((pF - 1) / 2 ^ 2)) = rootY x := (if_neg h).symm
theorem rootR_yes (x : Nat) (h : mulF (rootY x) (rootY x) = x) : rootF x = (evenR (rootY x), true) := by rw [rootF, if_pos h]; rfl
theorem rootR_no (x : Nat) (h : ¬ mulF (rootY x) (rootY x) = x) : rootF x = (0, false) := by rw [rootF, if_neg h]
theorem rootXr_lt (x : Nat) : rootX x < pF := powF_lt _ _

end
end Go.Proofs.YtcpnenjmbajbeaaDoor
