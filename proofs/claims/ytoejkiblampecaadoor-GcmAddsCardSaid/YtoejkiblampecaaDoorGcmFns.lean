/- The program's small functions on polynomials: plus, only, raised; bits. -/
import Derived.Test.YtoejkiblampecaaDoorGcmWord
import Derived.Test.YtoejkiblampecaaDoorAesSt
namespace Go.Proofs.YtoejkiblampecaaDoor
open Go.RowKit Go.Sort
set_option maxRecDepth 100000
set_option linter.unusedSimpArgs false
set_option linter.unusedVariables false

/-- The cells of a polynomial. -/
def pw2 (x y : Nat) : Array Value := #[.int .u64 (x : Int), .int .u64 (y : Int)]
def pzero : Array Value := pw2 0 0
theorem infoP : (Tryd.prog.info? 51).map (fun i => (i.zero, i.size)) = some (some (.agg pzero), 2) := by kernel_rfl
theorem sizeP (x y : Nat) : (Tryd.prog.info? 51).map (·.size) = some (pw2 x y).size := (zero_of_info infoP).2
theorem pzero_size (x y : Nat) : pzero.size = (pw2 x y).size := rfl
theorem pw2_one (x y : Nat) : (pw2 x y).all (·.oneCell') = true := by simp [pw2, Value.oneCell']
theorem pw2_cells {W : World} {B x y : Nat} {T : TypeId} {fr : Nat × Nat} (h : W.heap[B]? = some (.cells (pw2 x y) T fr)) : W.cell? ⟨B, 0, none⟩ = some (.int .u64 (x : Int)) ∧ W.cell? ⟨B, 1, none⟩ = some (.int .u64 (y : Int)) := by
  rw [cell_of_row _ _ _ _ _ _ h, cell_of_row _ _ _ _ _ _ h]; exact ⟨rfl, rfl⟩

theorem pw2_build (a b : Nat) : (pzero.setIfInBounds 0 (.int .u64 (a : Int))).setIfInBounds 1 (.int .u64 (b : Int)) = pw2 a b := rfl

set_option maxHeartbeats 1000000 in
theorem gplus_any (x y u v : Nat) (w : World) (hx : x < 18446744073709551616) (hy : y < 18446744073709551616) (hu : u < 18446744073709551616) (hv : v < 18446744073709551616) :
    Calls Tryd.prog 29 #[.agg (pw2 x y), .agg (pw2 u v)] w fun e w' => e = .returned (.agg (pw2 (x ^^^ u) (y ^^^ v))) ∧ Below w.heap.size w w' := by
  obtain ⟨hz, hi⟩ := zero_of_info infoP
  have HR0 := Lib.hid (blk_new3 w (.cells (pw2 x y) 51) (.cells (pw2 u v) 51) (.cells pzero 51))
  have hb0 := below_new3 w (.cells (pw2 x y) 51) (.cells (pw2 u v) 51) (.cells pzero 51)
  obtain ⟨c0, c1⟩ := pw2_cells (blk_old (o := .cells pzero 51) (blk_old (o := .cells (pw2 u v) 51) (blk_new w (.cells (pw2 x y) 51))))
  obtain ⟨c2, c3⟩ := pw2_cells (blk_old (o := .cells pzero 51) (blk_new2 w (.cells (pw2 x y) 51) (.cells (pw2 u v) 51)))
  have e1 := u64_xor_nat x u hx hu
  have e2 := u64_xor_nat y v hy hv
  generalize x ^^^ u = p at *
  generalize y ^^^ v = q at *
  have HI := Lib.hid (sizeP p q)
  have HO := Lib.hid (pzero_size p q)
  have H1 := Lib.hid (pw2_one p q)
  have hbd := pw2_build p q
  clear hi
  go_enter Tryd.func29, Tryd.ntmps29
  go_wp2_with (with_reducible refine wpList_store_row rfl 51 _ _ rfl (w.heap.size + 1 + 1) (pw2 p q) rfl rfl 51 _ HR0.out HI.out HO.out H1.out ?_)
  exact bodyPost_ret (v := .agg (pw2 p q)) (results_cell_row (by rfl) _ _ (w.heap.size + 1 + 1) 51 _ (0, 0) _ rfl (setRow_heap _ _ _ _ _ _ HR0.out) Tryd.underlying51 rfl HI.out) rfl ⟨rfl, below_setRow hb0 (by omega) _⟩

theorem neg_bit (b : Nat) (hb : b < 2) (x : Nat) (hx : x < 18446744073709551616) : bits .and .u64 (x : Int) (IntKind.u64.wrap (-(b : Int))) = ((if b = 1 then x else 0 : Nat) : Int) := by
  rcases (show b = 0 ∨ b = 1 by omega) with rfl | rfl
  · have := u64_and_nat x 0 hx (by decide)
    rw [Nat.and_zero] at this
    simpa [IntKind.wrap_u64] using this
  · have := u64_and_nat x 18446744073709551615 hx (by decide)
    rw [show (18446744073709551615 : Nat) = 2 ^ 64 - 1 from rfl, Nat.and_two_pow_sub_one_eq_mod, Nat.mod_eq_of_lt hx] at this
    simpa [IntKind.wrap_u64] using this

set_option maxHeartbeats 1000000 in
theorem gonly_any (x y b : Nat) (w : World) (hx : x < 18446744073709551616) (hy : y < 18446744073709551616) (hb : b < 2) :
    Calls Tryd.prog 47 #[.agg (pw2 x y), .int .u64 (b : Int)] w fun e w' => e = .returned (.agg (pw2 (if b = 1 then x else 0) (if b = 1 then y else 0))) ∧ Below w.heap.size w w' := by
  obtain ⟨hz, hi⟩ := zero_of_info infoP
  have HR0 := Lib.hid (blk_new2 w (.cells (pw2 x y) 51) (.cells pzero 51))
  have hb0 := below_new2 w (.cells (pw2 x y) 51) (.cells pzero 51)
  obtain ⟨c0, c1⟩ := pw2_cells (blk_old (o := .cells pzero 51) (blk_new w (.cells (pw2 x y) 51)))
  have e1 := neg_bit b hb x hx
  have e2 := neg_bit b hb y hy
  have l1 : (if b = 1 then x else 0) < 18446744073709551616 := by split <;> omega
  have l2 : (if b = 1 then y else 0) < 18446744073709551616 := by split <;> omega
  generalize (if b = 1 then x else 0) = p at *
  generalize (if b = 1 then y else 0) = q at *
  have HI := Lib.hid (sizeP p q)
  have HO := Lib.hid (pzero_size p q)
  have H1 := Lib.hid (pw2_one p q)
  have hbd := pw2_build p q
  clear hi
  go_enter Tryd.func47, Tryd.ntmps47
  go_wp2_with (with_reducible refine wpList_store_row rfl 51 _ _ rfl (w.heap.size + 1) (pw2 p q) rfl rfl 51 _ HR0.out HI.out HO.out H1.out ?_)
  exact bodyPost_ret (v := .agg (pw2 p q)) (results_cell_row (by rfl) _ _ (w.heap.size + 1) 51 _ (0, 0) _ rfl (setRow_heap _ _ _ _ _ _ HR0.out) Tryd.underlying51 rfl HI.out) rfl ⟨rfl, below_setRow hb0 (by omega) _⟩

/-- The words of a product with x. -/
def rs0 (x y : Nat) : Nat := x / 2 ^^^ (if y % 2 = 1 then 16212958658533785600 else 0)
def rs1 (x y : Nat) : Nat := y / 2 ||| (x * 9223372036854775808) % 18446744073709551616
theorem and_onew (y : Nat) (hy : y < 18446744073709551616) : bits .and .u64 (y : Int) 1 = ((y % 2 : Nat) : Int) := by
  have h := u64_and_nat y 1 hy (by decide)
  rw [Nat.and_one_is_mod] at h
  exact h
set_option maxHeartbeats 1000000 in
theorem raised_any (x y : Nat) (w : World) (hx : x < 18446744073709551616) (hy : y < 18446744073709551616) :
    Calls Tryd.prog 48 #[.agg (pw2 x y)] w fun e w' => e = .returned (.agg (pw2 (rs0 x y) (rs1 x y))) ∧ Below w.heap.size w w' := by
  obtain ⟨hz, hi⟩ := zero_of_info infoP
  have HR0 := Lib.hid (blk_new2 w (.cells (pw2 x y) 51) (.cells pzero 51))
  have hb0 := below_new2 w (.cells (pw2 x y) 51) (.cells pzero 51)
  obtain ⟨c0, c1⟩ := pw2_cells (blk_old (o := .cells pzero 51) (blk_new w (.cells (pw2 x y) 51)))
  have e1 := and_onew y hy
  have l2 : y % 2 < 2 := Nat.mod_lt _ (by decide)
  have e2 : bits .and .u64 (IntKind.u64.wrap (-((y % 2 : Nat) : Int))) 16212958658533785600 = ((if y % 2 = 1 then 16212958658533785600 else 0 : Nat) : Int) := by
    rcases (show y % 2 = 0 ∨ y % 2 = 1 by omega) with h | h <;> rw [h] <;> decide +kernel
  have l3 : (if y % 2 = 1 then 16212958658533785600 else 0) < 18446744073709551616 := by split <;> decide
  have e3 := u64_xor_nat (x / 2) (if y % 2 = 1 then 16212958658533785600 else 0) (by omega) l3
  rw [show x / 2 ^^^ (if y % 2 = 1 then 16212958658533785600 else 0) = rs0 x y from rfl] at e3
  have e4 := u64_or_nat (y / 2) ((x * 9223372036854775808) % 18446744073709551616) (by omega) (Nat.mod_lt _ (by decide))
  rw [show y / 2 ||| (x * 9223372036854775808) % 18446744073709551616 = rs1 x y from rfl] at e4
  have e5 : ((x / 2 : Nat) : Int) = (x : Int) / 2 := by simp
  have e6 : ((y / 2 : Nat) : Int) = (y : Int) / 2 := by simp
  have e7 : (((x * 9223372036854775808) % 18446744073709551616 : Nat) : Int) = (x : Int) * 9223372036854775808 % 18446744073709551616 := by simp
  rw [e5] at e3
  rw [e6, e7] at e4
  clear e5 e6 e7
  have e8 : IntKind.u64.wrap ((x : Int) * 9223372036854775808) = (x : Int) * 9223372036854775808 % 18446744073709551616 := IntKind.wrap_u64 _
  generalize (if y % 2 = 1 then 16212958658533785600 else 0) = c at *
  generalize y % 2 = o at *
  generalize rs0 x y = p at *
  generalize rs1 x y = q at *
  have HI := Lib.hid (sizeP p q)
  have HO := Lib.hid (pzero_size p q)
  have H1 := Lib.hid (pw2_one p q)
  have hbd := pw2_build p q
  clear hi
  go_enter Tryd.func48, Tryd.ntmps48
  go_wp2_with (with_reducible refine wpList_store_row rfl 51 _ _ rfl (w.heap.size + 1) (pw2 p q) rfl rfl 51 _ HR0.out HI.out HO.out H1.out ?_)
  exact bodyPost_ret (v := .agg (pw2 p q)) (results_cell_row (by rfl) _ _ (w.heap.size + 1) 51 _ (0, 0) _ rfl (setRow_heap _ _ _ _ _ _ HR0.out) Tryd.underlying51 rfl HI.out) rfl ⟨rfl, below_setRow hb0 (by omega) _⟩

set_option maxHeartbeats 1000000 in
theorem gbits_any (s : ByteArray) (w : World) (hs : s.size ≤ 1099511627776) :
    Calls Tryd.prog 36 #[.string s] w fun e w' => e = .returned (.int .u64 ((8 * s.size : Nat) : Int)) ∧ w = w' := by
  have e1 : (s.size : Int) % 18446744073709551616 = (s.size : Int) := by omega
  have e2 : (8 * (s.size : Int)) % 18446744073709551616 = ((8 * s.size : Nat) : Int) := by omega
  go_enter Tryd.func36, Tryd.ntmps36
  go_wp2_with fail
  go_ret
  exact ⟨by first | rfl | (rw [← e2]; rfl), rfl⟩
end Go.Proofs.YtoejkiblampecaaDoor
