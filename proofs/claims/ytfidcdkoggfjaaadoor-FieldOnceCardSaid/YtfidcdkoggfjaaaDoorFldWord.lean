/- The program's words: the sum of two words with a carry, the difference with a borrow, the product and two sums. -/
import Derived.Test.YtfidcdkoggfjaaaDoorCommon
import Derived.Test.YtfidcdkoggfjaaaDoorMul64
import Derived.Test.YtfidcdkoggfjaaaDoorFldLimb
import Derived.Shelf.Spec.BitsCarry
namespace Go.Proofs.YtfidcdkoggfjaaaDoor
open Go.RowKit Go.Sort
set_option maxRecDepth 100000
set_option linter.unusedSimpArgs false
set_option linter.unusedVariables false

theorem add64_any (x y c : Nat) (hc : c ≤ 1) (w : World) : (callFunc 49 #[.int .u64 (x : Int), .int .u64 (y : Int), .int .u64 (c : Int)]).run Tryd.prog w =
    .ok (.value (.tuple #[.int .u64 (((x + y + c) % 18446744073709551616 : Nat) : Int), .int .u64 (((x + y + c) / 18446744073709551616 : Nat) : Int)])) w := by
  rw [run_callFunc_extern Tryd.func49 (by kernel_rfl) (by kernel_rfl) (by kernel_rfl) (e := add64Entry) (by kernel_rfl), run_add64 x y c (by omega) (by omega) (by omega) (by omega)]
  simp only [Result.andThen]
  congr 5 <;> omega
theorem add64_told {x y c z q : Nat} (hc : c ≤ 1) (hz : (x + y + c) % 18446744073709551616 = z) (hq : (x + y + c) / 18446744073709551616 = q) (w : World) : (callFunc 49 #[.int .u64 (x : Int), .int .u64 (y : Int), .int .u64 (c : Int)]).run Tryd.prog w =
    .ok (.value (.tuple #[.int .u64 (z : Int), .int .u64 (q : Int)])) w := by subst hz hq; exact add64_any x y c hc w
theorem add64_zero {x y z q : Nat} (hz : (x + y) % 18446744073709551616 = z) (hq : (x + y) / 18446744073709551616 = q) (w : World) : (callFunc 49 #[.int .u64 (x : Int), .int .u64 (y : Int), .int .u64 0]).run Tryd.prog w =
    .ok (.value (.tuple #[.int .u64 (z : Int), .int .u64 (q : Int)])) w := add64_told (c := 0) (by omega) hz hq w
theorem sub64_any (x y b : Nat) (hb : b ≤ 1) (w : World) : (callFunc 50 #[.int .u64 (x : Int), .int .u64 (y : Int), .int .u64 (b : Int)]).run Tryd.prog w =
    .ok (.value (.tuple #[.int .u64 (((x + 18446744073709551616 - y - b) % 18446744073709551616 : Nat) : Int), .int .u64 ((if x < y + b then 1 else 0 : Nat) : Int)])) w := by
  rw [run_callFunc_extern Tryd.func50 (by kernel_rfl) (by kernel_rfl) (by kernel_rfl) (e := sub64Entry) (by kernel_rfl), run_sub64 x y b hb]
  rfl
theorem sub64_told {x y b z q : Nat} (hb : b ≤ 1) (hz : (x + 18446744073709551616 - y - b) % 18446744073709551616 = z) (hq : (if x < y + b then 1 else 0) = q) (w : World) : (callFunc 50 #[.int .u64 (x : Int), .int .u64 (y : Int), .int .u64 (b : Int)]).run Tryd.prog w =
    .ok (.value (.tuple #[.int .u64 (z : Int), .int .u64 (q : Int)])) w := by subst hz hq; exact sub64_any x y b hb w

theorem word_parts (a b c d h l : Nat) (hc : c < 18446744073709551616) (hd : d < 18446744073709551616) (hh : c * d / 18446744073709551616 = h) (hl : c * d % 18446744073709551616 = l) (ha : a < 18446744073709551616) (hb : b < 18446744073709551616) :
    ((l + a) % 18446744073709551616 + b) % 18446744073709551616 = (a + b + c * d) % 18446744073709551616 ∧ h + (l + a) / 18446744073709551616 + ((l + a) % 18446744073709551616 + b) / 18446744073709551616 = (a + b + c * d) / 18446744073709551616 ∧ (a + b + c * d) / 18446744073709551616 < 18446744073709551616 := by
  have hm : c * d ≤ 18446744073709551615 * 18446744073709551615 := Nat.mul_le_mul (by omega) (by omega)
  generalize c * d = m at *
  omega
/-- a + b + c d: the low word and the high one. -/
theorem sumProd_any (a b c d z q : Nat) (w : World) (ha : a < 18446744073709551616) (hb : b < 18446744073709551616) (hc : c < 18446744073709551616) (hd : d < 18446744073709551616) (hz : (a + b + c * d) % 18446744073709551616 = z) (hq : (a + b + c * d) / 18446744073709551616 = q) :
    Calls Tryd.prog 51 #[.int .u64 (a : Int), .int .u64 (b : Int), .int .u64 (c : Int), .int .u64 (d : Int)] w fun e w' => e = .returned (.tuple #[.int .u64 (z : Int), .int .u64 (q : Int)]) ∧ w' = w := by
  have HM := Lib.hid (fun W => Tryd.bits_Mul64 c d hc hd W)
  obtain ⟨h, hh⟩ : ∃ h, c * d / 18446744073709551616 = h := ⟨_, rfl⟩
  obtain ⟨l, hl⟩ : ∃ l, c * d % 18446744073709551616 = l := ⟨_, rfl⟩
  obtain ⟨p1, p2, p3⟩ := word_parts a b c d h l hc hd hh hl ha hb
  rw [hh, hl] at HM
  rw [hz] at p1
  rw [hq] at p2 p3
  clear hz hq hc hd hh hl
  obtain ⟨y, hy⟩ : ∃ y, (l + a) % 18446744073709551616 = y := ⟨_, rfl⟩
  obtain ⟨o, ho⟩ : ∃ o, (l + a) / 18446744073709551616 = o := ⟨_, rfl⟩
  obtain ⟨u, hu⟩ : ∃ u, (y + b) / 18446744073709551616 = u := ⟨_, rfl⟩
  rw [hy] at p1 p2
  rw [ho, hu] at p2
  have a1 := add64_zero hy ho
  have a2 := add64_zero p1 hu
  have w1 : ((h : Int) + (o : Int)) % 18446744073709551616 = (h : Int) + (o : Int) := by omega
  have w2 : ((h : Int) + (o : Int) + (u : Int)) % 18446744073709551616 = (q : Int) := by omega
  have w3 : IntKind.u64.wrap ((h : Int) + (o : Int) + (u : Int)) = (q : Int) := by rw [IntKind.wrap_u64]; exact w2
  clear hy ho hu p1 p2 p3 ha hb
  go_enter Tryd.func51, Tryd.ntmps51
  go_wp2_with fail
  refine (HM.out _).mono ?_
  rintro e W1 ⟨rfl, rfl⟩
  go_wp2_with fail
  go_ret2
  exact ⟨rfl, rfl⟩
end Go.Proofs.YtfidcdkoggfjaaaDoor
