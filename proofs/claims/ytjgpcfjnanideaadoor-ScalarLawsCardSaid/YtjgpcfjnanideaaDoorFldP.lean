/- The program's words: the sum of two words with a carry, the difference with a borrow, the product and two sums; The program's sums and differences of limbs: plus, plusWord, minus, plusTimes; The program's difference of limbs; The program's sum of limbs and a word; The program's sum of limbs and of limbs times a word; The program's product of limbs: the low half and the high one; The program's last reduction: the least number; The program's sum and product of numbers, and the squares; The program's squares, so many times; The program's power of 250 bits that are 1; The program's difference: the prime lies in its variable; The program's small numbers, and whichever of two is even; The program's inverse, and its root of minus one; Whether two of the program's numbers are the same; The program's root; The program's bytes of a number; The program's number of bytes. -/
import Derived.Test.YtjgpcfjnanideaaDoorBase
import Derived.Test.YtjgpcfjnanideaaDoorFldA
import Derived.Laws.Tables
import Derived.Laws.ResultCell
import Derived.Laws.CopyRow
import Derived.Deep.Cut
import Derived.Laws.StructEq
import Derived.ChangeKeysEq
namespace Go.Proofs.YtjgpcfjnanideaaDoor
section
open Go.RowKit Go.Sort
set_option maxRecDepth 100000
set_option linter.unusedSimpArgs false
set_option linter.unusedVariables false


theorem word_parts (a b c d h l : Nat) (hc : c < 18446744073709551616) (hd : d < 18446744073709551616) (hh : c * d / 18446744073709551616 = h) (hl : c * d % 18446744073709551616 = l) (ha : a < 18446744073709551616) (hb : b < 18446744073709551616) :
    ((l + a) % 18446744073709551616 + b) % 18446744073709551616 = (a + b + c * d) % 18446744073709551616 ∧ h + (l + a) / 18446744073709551616 + ((l + a) % 18446744073709551616 + b) / 18446744073709551616 = (a + b + c * d) / 18446744073709551616 ∧ (a + b + c * d) / 18446744073709551616 < 18446744073709551616 := by
  have hm : c * d ≤ 18446744073709551615 * 18446744073709551615 := Nat.mul_le_mul (by omega) (by omega)
  generalize c * d = m at *
  omega
end

section
open Go.RowKit Go.Sort
set_option maxRecDepth 100000
set_option linter.unusedSimpArgs false
set_option linter.unusedVariables false

/-- The cells of numbers. -/
def nc (k : IntKind) (l : List Nat) : Array Value := (l.map fun n : Nat => Value.int k (n : Int)).toArray
theorem nc_size (k : IntKind) (l : List Nat) : (nc k l).size = l.length := by simp [nc]
theorem nc_get (k : IntKind) (l : List Nat) (j : Nat) (h : j < l.length) : (nc k l)[j]? = some (.int k ((l.getD j 0 : Nat) : Int)) := by simp [nc, h]
theorem nc_set (k : IntKind) (l : List Nat) (j : Nat) (x : Nat) : (nc k l).setIfInBounds j (.int k (x : Int)) = nc k (l.set j x) := by simp [nc, List.map_set]
theorem nc_one (k : IntKind) (l : List Nat) : (nc k l).all (·.oneCell') = true := by
  rw [Array.all_eq_true]
  intro i hi
  simp [nc, Value.oneCell']
theorem nc_cell {k : IntKind} {W : World} {B : Nat} {l : List Nat} {T : TypeId} {fr : Nat × Nat} (h : W.heap[B]? = some (.cells (nc k l) T fr)) (j : Nat) (hj : j < l.length) : W.cell? ⟨B, j, none⟩ = some (.int k ((l.getD j 0 : Nat) : Int)) := by rw [cell_of_row W _ _ _ _ _ h]; exact nc_get k l j hj
theorem nc_heap_set {k : IntKind} {W : World} {B : Nat} {l : List Nat} {T : TypeId} (h : W.heap[B]? = some (.cells (nc k l) T)) (j : Nat) (x : Nat) : (W.setCell ⟨B, j, none⟩ (.int k (x : Int))).heap[B]? = some (.cells (nc k (l.set j x)) T) := by rw [← nc_set]; exact Go.heap_setCell_same _ _ _ _ _ _ h
/-- The cells of limbs. -/
def uc (l : List Nat) : Array Value := nc .u64 l
def zeros4 : Array Value := uc (List.replicate 4 0)
theorem uc_size (l : List Nat) : (uc l).size = l.length := nc_size _ l
theorem uc_one (l : List Nat) : (uc l).all (·.oneCell') = true := nc_one _ l
theorem uc_cell {W : World} {B : Nat} {l : List Nat} {T : TypeId} {fr : Nat × Nat} (h : W.heap[B]? = some (.cells (uc l) T fr)) (j : Nat) (hj : j < l.length) : W.cell? ⟨B, j, none⟩ = some (.int .u64 ((l.getD j 0 : Nat) : Int)) := nc_cell h j hj
theorem uc_heap_set {W : World} {B : Nat} {l : List Nat} {T : TypeId} (h : W.heap[B]? = some (.cells (uc l) T)) (j : Nat) (x : Nat) : (W.setCell ⟨B, j, none⟩ (.int .u64 (x : Int))).heap[B]? = some (.cells (uc (l.set j x)) T) := nc_heap_set h j x
theorem zeros4_size (l : List Nat) (h : l.length = 4) : zeros4.size = (uc l).size := by rw [uc_size, h]; exact uc_size _

end

section
open Go.RowKit Go.Sort
set_option maxRecDepth 100000
set_option linter.unusedSimpArgs false
set_option linter.unusedVariables false

end

section
open Go.RowKit Go.Sort
set_option maxRecDepth 100000
set_option linter.unusedSimpArgs false
set_option linter.unusedVariables false

end

section
open Go.RowKit Go.Sort
set_option maxRecDepth 100000
set_option linter.unusedSimpArgs false
set_option linter.unusedVariables false

theorem results_row_tmpF {P : Program} {fn : Func} {p u : Tmp} {ty : TypeId} (h : fn.results = #[.cell p ty, .tmp u]) (tmps : Array Value) (w : World) (g : Nat) (t : TypeId) (cs : Array Value) (fr : Nat × Nat) (d : TypeDesc)
    (hp : tmps.getD p undef = .pointer (some ⟨g, 0, none⟩)) (hg : w.heap[g]? = some (.cells cs t fr))
    (hu : P.underlying ty = some d) (hd : (match d with | .struct _ | .array _ _ => true | _ => false) = true) (hi : (P.info? ty).map (·.size) = some cs.size) :
    (results fn tmps).run P w = .ok (.tuple #[.agg cs, tmps.getD u undef]) w := by
  rw [results_cell_tmp h, hp]
  simp [asAddr, run_loadVar_row w g t ty cs fr d hg hu hd hi, Result.andThen]

end

section
open Go.RowKit Go.Sort
set_option maxRecDepth 100000
set_option linter.unusedSimpArgs false
set_option linter.unusedVariables false

def zeros8 : Array Value := uc (List.replicate 8 0)
theorem zeros8_row (x y : Nat) : zeros8 = uc (limN 8 (rowW x y 0)) := by rw [rowW_zero]; rfl
theorem blk_new5 (w : World) (P R A D E : Obj) : (((((w.alloc P).alloc R).alloc A).alloc D).alloc E).heap[w.heap.size + 1 + 1 + 1 + 1]? = some E := by
  have := blk_new ((((w.alloc P).alloc R).alloc A).alloc D) E
  simpa using this
theorem blkF_new4 (w : World) (P R A D : Obj) : ((((w.alloc P).alloc R).alloc A).alloc D).heap[w.heap.size + 1 + 1 + 1]? = some D := by
  have := blk_new (((w.alloc P).alloc R).alloc A) D
  simpa using this
theorem below_new5 (w : World) (P R A D E : Obj) : Below w.heap.size w (((((w.alloc P).alloc R).alloc A).alloc D).alloc E) := ((below_new3 w P R A).alloc (by simp; omega) _).alloc (by simp; omega) _
theorem cyR_lt (x y i j : Nat) : cyR x y i j < 18446744073709551616 := cyN_lt _ _ _ _ (by have := dg_lt y i; omega)


end

section
open Go.RowKit Go.Sort
set_option maxRecDepth 100000
set_option linter.unusedSimpArgs false
set_option linter.unusedVariables false

theorem list4 (l : List Nat) (h : l.length = 4) : ∃ a b c d, l = [a, b, c, d] := by
  match l, h with
  | [a, b, c, d], _ => exact ⟨a, b, c, d, rfl⟩
theorem wp_built {P : Program} {o : Oper} {a : Act} {w : World} {K : Act → World → Prop} {Q : Exit → Act → World → Prop} (t : TypeId) (parts : Array (Nat × Operand)) (ho : o.op = .build t parts) (cells : Array Value)
    (hb : (Instr.build t (parts.map fun (i, x) => (i, a.eval x))).run P w = .ok (.agg cells) w) (h : K (a.put o.dst (.agg cells)) w) : o.wp P a w K Q := by
  unfold Oper.wp execOp
  simp only [ho, Sem.run_bind, hb, Result.andThen_ok]
  exact h
theorem and_63 (y : Int) : bits .and .u64 y 9223372036854775807 = y % 9223372036854775808 := by
  have h1 : (BitVec.ofInt 64 9223372036854775807).toNat = 2 ^ 63 - 1 := by decide
  have key : (BitVec.ofInt 64 y &&& BitVec.ofInt 64 9223372036854775807).toNat = (y % ((2 ^ 64 : Nat) : Int)).toNat % 2 ^ 63 := by
    rw [BitVec.toNat_and, BitVec.toNat_ofInt, h1, Nat.and_two_pow_sub_one_eq_mod]
  show IntKind.u64.wrap ((BitVec.ofInt 64 y &&& BitVec.ofInt 64 9223372036854775807).toNat : Nat) = y % 9223372036854775808
  rw [key, IntKind.wrap_u64]
  omega

theorem or_two (o b : Nat) (ho : o ≤ 38) (hb : b ≤ 1) : bits .or .u64 ((o : Int) * 2) ((b : Nat) : Int) = ((2 * o + b : Nat) : Int) := by
  have e1 : (BitVec.ofInt 64 ((o : Int) * 2)).toNat = 2 ^ 1 * o := by rw [BitVec.toNat_ofInt]; omega
  have e2 : (BitVec.ofInt 64 ((b : Nat) : Int)).toNat = b := by rw [BitVec.toNat_ofInt]; omega
  have h := Nat.two_pow_add_eq_or_of_lt (show b < 2 ^ 1 by omega) o
  show IntKind.u64.wrap (((BitVec.ofInt 64 ((o : Int) * 2) ||| BitVec.ofInt 64 ((b : Nat) : Int)).toNat : Nat) : Int) = _
  rw [BitVec.toNat_or, e1, e2, ← h, IntKind.wrap_u64]
  omega
end

section
open Go.RowKit Go.Sort
set_option maxRecDepth 100000
set_option linter.unusedSimpArgs false
set_option linter.unusedVariables false

theorem pF_lt_mF : pF < mF := by decide
theorem add_fits (x y : Nat) (hx : x < pF) (hy : y < pF) : x + y < mF := by rw [mF_pF]; omega

/-- The product's parts. -/
def mulV (x y : Nat) : Nat := x * y % mF + x * y / mF * 38
theorem mulV_over (x y : Nat) (hx : x < pF) (hy : y < pF) : cyN (x * y % mF) (x * y / mF) 38 4 = mulV x y / mF ∧ mulV x y / mF ≤ 38 := by
  have h0 : 0 < mF := by decide
  have h1 : x * y % mF < mF := Nat.mod_lt _ h0
  have h2 : x * y / mF < mF := by
    apply Nat.div_lt_of_lt_mul
    exact Nat.mul_lt_mul'' (Nat.lt_trans hx pF_lt_mF) (Nat.lt_trans hy pF_lt_mF)
  refine ⟨by rw [cyN_last _ _ _ _ (by rw [bw4_mF]; exact h1) (by rw [bw4_mF]; exact h2), bw4_mF]; rfl, ?_⟩
  rw [mulV]
  have : (x * y % mF + x * y / mF * 38) / mF < 39 := Nat.div_lt_of_lt_mul (by omega)
  omega
theorem mulV_mod (x y : Nat) : (mulV x y % mF + mulV x y / mF * mF) % pF = mulF x y := by
  have : mulV x y % mF + mulV x y / mF * mF = mulV x y := by rw [Nat.mul_comm]; exact Nat.mod_add_div _ _
  rw [this, mulV, Nat.mul_comm _ 38]
  exact mul_parts x y

end

section
open Go.RowKit Go.Sort
set_option maxRecDepth 100000
set_option linter.unusedSimpArgs false
set_option linter.unusedVariables false

theorem powF_one (x : Nat) (hx : x < pF) : powF x 1 = x := by rw [powF, Nat.pow_one, Nat.mod_eq_of_lt hx]
theorem powF_mul (x m n : Nat) : mulF (powF x m) (powF x n) = powF x (m + n) := by rw [mulF, powF, powF, powF, ← Nat.mul_mod, ← Nat.pow_add]
theorem powF_pow (x m n : Nat) : powF (powF x m) n = powF x (m * n) := by rw [powF, powF, powF, ← Nat.pow_mod, Nat.pow_mul]

end

section
open Go.RowKit Go.Sort
set_option maxRecDepth 100000
set_option linter.unusedSimpArgs false
set_option linter.unusedVariables false

/-- The power of so many bits that are 1. -/
def onesF (x n : Nat) : Nat := powF x (2 ^ n - 1)
theorem onesF_lt (x n : Nat) : onesF x n < pF := powF_lt _ _
theorem onesF_one (x : Nat) (hx : x < pF) : onesF x 1 = x := powF_one x hx
theorem onesF_add (x n m : Nat) : mulF (powF (onesF x n) (2 ^ m)) (onesF x m) = onesF x (n + m) := by
  rw [onesF, onesF, onesF, powF_pow, powF_mul]
  congr 1
  have h1 : 0 < 2 ^ n := Nat.pow_pos (by decide)
  have h2 : 0 < 2 ^ m := Nat.pow_pos (by decide)
  rw [Nat.pow_add, Nat.sub_mul, Nat.one_mul]
  have h3 : 2 ^ m ≤ 2 ^ n * 2 ^ m := Nat.le_mul_of_pos_left _ h1
  omega
theorem zerosF_size (x : Nat) : zeros4.size = (uc (limN 4 x)).size := by rw [uc_size, limN_length]; exact uc_size _

end

section
open Go.RowKit Go.Sort
set_option maxRecDepth 100000
set_option linter.unusedSimpArgs false
set_option linter.unusedVariables false

theorem sub_fits (x y : Nat) (hx : x < pF) (hy : y < pF) : x + pF - y < mF ∧ y ≤ x + pF ∧ (x + pF - y + 0 * mF) % pF = subF x y := by
  have := mF_pF
  refine ⟨by omega, by omega, ?_⟩
  rw [subF, Nat.zero_mul, Nat.add_zero, show x + pF - y = x + (pF - y) by omega]

end

section
open Go.RowKit Go.Sort
set_option maxRecDepth 100000
set_option linter.unusedSimpArgs false
set_option linter.unusedVariables false

theorem zeros4_lim : zeros4 = uc (limN 4 0) := rfl
theorem subF_neg (m : Nat) (h0 : 0 < m) (h : m < pF) : subF 0 m = pF - m := by rw [subF, Nat.zero_add, Nat.mod_eq_of_lt (by omega)]




/-- Whichever is even. -/
def evenF (x : Nat) : Nat := if x % 2 = 1 then subF 0 x else x
theorem and_one (x : Nat) : bits .and .u64 ((dg x 0 : Nat) : Int) 1 = ((x % 2 : Nat) : Int) := by
  have h := dg_lt x 0
  have h1 : (BitVec.ofInt 64 1).toNat = 2 ^ 1 - 1 := by decide
  have key : (BitVec.ofInt 64 ((dg x 0 : Nat) : Int) &&& BitVec.ofInt 64 1).toNat = dg x 0 % 2 := by
    rw [BitVec.toNat_and, BitVec.toNat_ofInt, h1, Nat.and_two_pow_sub_one_eq_mod]
    omega
  show IntKind.u64.wrap ((BitVec.ofInt 64 ((dg x 0 : Nat) : Int) &&& BitVec.ofInt 64 1).toNat : Nat) = _
  rw [key, dg_odd, IntKind.wrap_u64]
  omega

end

section
open Go.RowKit Go.Sort
set_option maxRecDepth 100000
set_option linter.unusedSimpArgs false
set_option linter.unusedVariables false

theorem inv_eleven (x : Nat) (hx : x < pF) : mulF (powF x (2 ^ 2)) x = powF x 5 ∧ mulF (powF (powF x 5) (2 ^ 1)) x = powF x 11 := by
  have h1 : ∀ n, mulF (powF x n) x = powF x (n + 1) := fun n => by
    have := powF_mul x n 1
    rwa [powF_one x hx] at this
  exact ⟨h1 4, by rw [powF_pow, h1]⟩
theorem inv_done (x : Nat) : mulF (powF (onesF x 250) (2 ^ 5)) (powF x 11) = invF x := by
  rw [onesF, powF_pow, powF_mul, show (2 ^ 250 - 1) * 2 ^ 5 + 11 = pF - 2 by decide]
  rfl
theorem rmo_done : mulF (powF (onesF 2 250) (2 ^ 3)) 8 = powF 2 ((pF - 1) / 4) := by
  have h8 : powF 2 3 = 8 := by decide
  have := powF_mul 2 ((2 ^ 250 - 1) * 2 ^ 3) 3
  rw [h8, ← powF_pow] at this
  rw [onesF, this, show (2 ^ 250 - 1) * 2 ^ 3 + 3 = (pF - 1) / 4 by decide]


end

section
open Go.RowKit Go.Sort
set_option maxRecDepth 100000
set_option linter.unusedSimpArgs false
set_option linter.unusedVariables false

end

section
open Go.RowKit Go.Sort
set_option maxRecDepth 100000
set_option linter.unusedSimpArgs false
set_option linter.unusedVariables false

theorem powF_two (x : Nat) : powF x (2 ^ 1) = mulF x x := by rw [powF, mulF, show 2 ^ 1 = 2 from rfl, Nat.pow_succ, Nat.pow_one]
theorem root_first (x : Nat) : mulF (powF (onesF x 250) (2 ^ 2)) (powF x (2 ^ 1)) = rootX x := by
  rw [onesF, powF_pow, powF_mul, show (2 ^ 250 - 1) * 2 ^ 2 + 2 ^ 1 = (pF + 3) / 8 by decide]
  rfl
theorem lim_same (x y : Nat) (hx : x < pF) (hy : y < pF) : decide (limN 4 x = limN 4 y) = decide (x = y) := by
  by_cases h : x = y
  · simp [h]
  · have : limN 4 x ≠ limN 4 y := fun e => h (limN_inj x y (Nat.lt_trans hx pF_lt_mF) (Nat.lt_trans hy pF_lt_mF) e)
    simp [h, this]
theorem rootF_same (x : Nat) (h : mulF (rootX x) (rootX x) = x) : rootF x = (evenF (rootX x), true) := by
  have hy : rootY x = rootX x := if_pos h
  rw [rootF, hy, if_pos h]
  rfl
theorem rootF_other (x : Nat) (h : ¬ mulF (rootX x) (rootX x) = x) : mulF (rootX x) (powF 2 ((pF - 1) / 4)) = rootY x := (if_neg h).symm
theorem rootF_yes (x : Nat) (h : mulF (rootY x) (rootY x) = x) : rootF x = (evenF (rootY x), true) := by rw [rootF, if_pos h]; rfl
theorem rootF_no (x : Nat) (h : ¬ mulF (rootY x) (rootY x) = x) : rootF x = (0, false) := by rw [rootF, if_neg h]
theorem rootX_lt (x : Nat) : rootX x < pF := powF_lt _ _

end

section
open Go.RowKit Go.Sort
set_option maxRecDepth 100000
set_option linter.unusedSimpArgs false
set_option linter.unusedVariables false

theorem bw_256 (i : Nat) : bw i = 256 ^ (8 * i) := by rw [bw, Nat.pow_mul]
/-- One byte of one limb. -/
theorem limb_byte (x k : Nat) : dg x (k / 8) / 2 ^ (k % 8 * 8) % 256 = x / 256 ^ k % 256 := by
  obtain ⟨i, r, hr, rfl⟩ : ∃ i r, r < 8 ∧ k = 8 * i + r := ⟨k / 8, k % 8, by omega, by omega⟩
  have h1 : (8 * i + r) / 8 = i := by omega
  have h2 : (8 * i + r) % 8 = r := by omega
  have h3 : 2 ^ (r * 8) = 256 ^ r := by rw [Nat.mul_comm, Nat.pow_mul]
  obtain ⟨d, hd⟩ : ∃ d, 8 - r = d + 1 := ⟨7 - r, by omega⟩
  have h4 : 18446744073709551616 = 256 ^ r * 256 ^ (d + 1) := by rw [← Nat.pow_add, ← hd, show r + (8 - r) = 8 by omega]
  rw [h1, h2, h3, dg, h4, Nat.mod_mul_right_div_self, bw_256, Nat.div_div_eq_div_mul, ← Nat.pow_add, Nat.pow_succ, Nat.mul_comm (256 ^ d)]
  exact Nat.mod_mod_of_dvd _ ⟨256 ^ d, rfl⟩
/-- The bytes while they are laid. -/
def outF (x k : Nat) : List UInt8 := leF x k ++ List.replicate (32 - k) 0
theorem outF_length (x k : Nat) (h : k ≤ 32) : (outF x k).length = 32 := by simp [outF, leF_length]; omega
theorem leF_succ (x k : Nat) : leF x (k + 1) = leF x k ++ [UInt8.ofNat (x / 256 ^ k)] := by rw [leF, List.range_succ, List.map_append]; rfl
theorem outF_set (x k : Nat) (h : k < 32) : (outF x k).set k (UInt8.ofNat (x / 256 ^ k)) = outF x (k + 1) := by
  have e : List.replicate (32 - k) (0 : UInt8) = 0 :: List.replicate (32 - (k + 1)) 0 := by rw [show 32 - k = (32 - (k + 1)) + 1 by omega, List.replicate_succ]
  rw [outF, e, List.set_append, if_neg (by rw [leF_length]; omega), leF_length, Nat.sub_self, List.set_cons_zero, outF, leF_succ]
  simp
theorem outF_full (x : Nat) : outF x 32 = leF x 32 := by simp [outF]
def bzeros32 : Array Value := bcells (List.replicate 32 0)
theorem infoB32 : (Tryd.prog.info? 46).map (fun i => (i.zero, i.size)) = some (some (.agg bzeros32), 32) := by kernel_rfl
theorem outF_zero (x : Nat) : bzeros32 = bcells (outF x 0) := rfl

end

section
open Go.RowKit Go.Sort
set_option maxRecDepth 100000
set_option linter.unusedSimpArgs false
set_option linter.unusedVariables false

theorem lim_put (V b k : Nat) (hV : V < 256 ^ k) (hb : b < 256) (hk : k < 32) :
    (limN 4 V).set (k / 8) (dg V (k / 8) + b * 2 ^ (k % 8 * 8)) = limN 4 (V + b * 256 ^ k) ∧ dg V (k / 8) < 2 ^ (k % 8 * 8) ∧ dg V (k / 8) + b * 2 ^ (k % 8 * 8) < 18446744073709551616 := by
  obtain ⟨i, r, hr, rfl⟩ : ∃ i r, r < 8 ∧ k = 8 * i + r := ⟨k / 8, k % 8, by omega, by omega⟩
  have h1 : (8 * i + r) / 8 = i := by omega
  have h2 : (8 * i + r) % 8 = r := by omega
  have h3 : 2 ^ (r * 8) = 256 ^ r := by rw [Nat.mul_comm, Nat.pow_mul]
  rw [h1, h2, h3]
  have hp : 256 ^ (8 * i + r) = bw i * 256 ^ r := by rw [Nat.pow_add, bw_256]
  have hd : V / bw i < 256 ^ r := Nat.div_lt_of_lt_mul (by rw [← hp]; exact hV)
  have hr7 : 256 ^ r * 256 ≤ 18446744073709551616 := by
    rw [← Nat.pow_succ, show 18446744073709551616 = 256 ^ 8 by decide]
    exact Nat.pow_le_pow_right (by decide) hr
  have hbr : b * 256 ^ r ≤ 255 * 256 ^ r := Nat.mul_le_mul_right _ (by omega)
  have hdg : dg V i = V / bw i := Nat.mod_eq_of_lt (by omega)
  have hlt : V / bw i + b * 256 ^ r < 18446744073709551616 := by omega
  refine ⟨?_, by rw [hdg]; exact hd, by rw [hdg]; exact hlt⟩
  refine nums_ext (by rw [List.length_set, limN_length]) (limN_length ..) fun j hj => ?_
  rw [nset_getD _ _ _ _ (by rw [limN_length]; omega), limN_get _ _ _ hj, limN_get _ _ _ hj]
  rw [hp, Nat.mul_left_comm]
  by_cases e : j = i
  · subst e
    rw [if_pos rfl, hdg, dg, Nat.add_mul_div_left _ _ (bw_pos j), Nat.mod_eq_of_lt hlt]
  · rw [if_neg e]
    by_cases hji : j < i
    · rw [dg_low_same _ _ _ _ hji]
    · have hbig : V + bw i * (b * 256 ^ r) < bw (i + 1) := by
        have hm := Nat.mod_lt V (bw_pos i)
        have hdm := Nat.div_add_mod V (bw i)
        rw [bw_succ]
        have h5 : bw i * (V / bw i + b * 256 ^ r + 1) ≤ bw i * 18446744073709551616 := Nat.mul_le_mul_left _ (by omega)
        rw [Nat.mul_add, Nat.mul_add, Nat.mul_one] at h5
        omega
      rw [dg_small' _ (i + 1) _ hbig (by omega), dg_small' V (i + 1) _ (Nat.lt_of_le_of_lt (Nat.le_add_right _ _) hbig) (by omega)]
theorem or_put (d b s : Nat) (hd : d < 2 ^ s) (h : d + b * 2 ^ s < 18446744073709551616) : bits .or .u64 (d : Int) ((b : Int) * 2 ^ s) = ((d + b * 2 ^ s : Nat) : Int) := by
  have e0 : ((b : Int) * 2 ^ s) = ((2 ^ s * b : Nat) : Int) := by rw [Int.mul_comm]; simp
  have hm : b * 2 ^ s = 2 ^ s * b := Nat.mul_comm _ _
  have e1 : (BitVec.ofInt 64 (d : Int)).toNat = d := by rw [BitVec.toNat_ofInt]; omega
  have e2 : (BitVec.ofInt 64 ((2 ^ s * b : Nat) : Int)).toNat = 2 ^ s * b := by rw [BitVec.toNat_ofInt]; omega
  rw [e0]
  show IntKind.u64.wrap (((BitVec.ofInt 64 (d : Int) ||| BitVec.ofInt 64 ((2 ^ s * b : Nat) : Int)).toNat : Nat) : Int) = _
  rw [BitVec.toNat_or, e1, e2, Nat.or_comm, ← Nat.two_pow_add_eq_or_of_lt hd, IntKind.wrap_u64]
  omega


end
end Go.Proofs.YtjgpcfjnanideaaDoor
