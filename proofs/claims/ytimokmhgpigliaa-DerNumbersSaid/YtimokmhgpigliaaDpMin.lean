/- slices.Min and slices.Max of numbers; how an object identifier may begin. -/
import Derived.Test.YtimokmhgpigliaaDrNums
import Derived.Test.YtimokmhgpigliaaDrOidR
import Derived.Lib.MinMax
namespace Go.Proofs.Ytimokmhgpigliaa
open Go.RowKit Go.Sort
set_option maxRecDepth 100000
set_option linter.unusedSimpArgs false
set_option linter.unusedVariables false

theorem ints_at {W : World} {ao : Option Addr} {zs : List Int} (h : IntsAt W ao zs) (hl : 0 < zs.length) : ∃ g off, ao = some ⟨g, off, none⟩ ∧ ∀ j, j < zs.length → W.cell? ⟨g, off + j, none⟩ = some (.int .i64 (zs.getD j 0)) := by
  obtain ⟨g, off, rfl, _⟩ := h 0 hl
  refine ⟨g, off, rfl, fun j hj => ?_⟩
  obtain ⟨g', off', e, hc⟩ := h j hj
  cases e
  exact hc
def minU (zs : List Int) : Nat → Int
  | 0 => zs.getD 0 0
  | k + 1 => min (minU zs k) (zs.getD (k + 1) 0)
theorem minU_all (zs : List Int) : ∀ k j, j ≤ k → minU zs k ≤ zs.getD j 0
  | 0, j, h => by obtain rfl : j = 0 := by omega
                  exact Int.le_refl _
  | k + 1, j, h => by
    by_cases e : j = k + 1
    · subst e; rw [minU]; omega
    · have := minU_all zs k j (by omega); rw [minU]; omega
theorem minU_one (zs : List Int) : ∀ k, ∃ j, j ≤ k ∧ minU zs k = zs.getD j 0
  | 0 => ⟨0, Nat.le_refl _, rfl⟩
  | k + 1 => by
    obtain ⟨j, h1, h2⟩ := minU_one zs k
    by_cases e : minU zs k ≤ zs.getD (k + 1) 0
    · exact ⟨j, by omega, by rw [minU]; omega⟩
    · exact ⟨k + 1, Nat.le_refl _, by rw [minU]; omega⟩
set_option maxHeartbeats 2000000 in
theorem min_any (ao : Option Addr) (n c : Nat) (zs : List Int) (w : World) (hn : zs.length = n) (h1 : 1 ≤ n) (hm : n ≤ 1000000) (hi : IntsAt w ao zs) :
    Calls Try.prog 39 #[.slice ao n c] w fun e w' => e = .returned (.int .i64 (minU zs (n - 1))) ∧ Below w.heap.size w w' := by
  obtain ⟨g, off, rfl, hc⟩ := ints_at hi (by omega)
  have HC := Lib.hid hc
  have c0 := hc 0 (by omega)
  rw [Nat.add_zero] at c0
  have HZ : Hid (zs.getD 0 0 = minU zs 0) := Lib.hid rfl
  have HN := Lib.hid hn
  have d1 : decide ((n : Int) < 1) = false := by simp; omega
  have i0 : (0 : Int) < (n : Int) := by omega
  have j0 : 0 < n := by omega
  have hb := Below.refl w.heap.size w
  clear hi hc hn
  obtain ⟨z0, ez0⟩ : ∃ z0, zs.getD 0 0 = z0 := ⟨_, rfl⟩
  rw [ez0] at c0 HZ
  clear ez0
  go_enter Try.func39, Try.ntmps39
  go_wp2_with fail
  go_loopw [3, 4] (fun mv iv wr => ∃ k : Nat, 1 ≤ k ∧ k ≤ n ∧ mv = .int .i64 (minU zs (k - 1)) ∧ iv = .int .i64 (k : Int) ∧ Below w.heap.size w wr) (fun _ iv _ => n - (intOf iv).toNat)
  case atStart => exact ⟨1, by omega, by omega, by rw [HZ.out], rfl, hb⟩
  case round =>
    clear hb HZ c0
    obtain ⟨k, hk1, hk, rfl, rfl, hb⟩ := hrel
    by_cases hlt : k < n
    · have hd : decide ((k : Int) < (n : Int)) = true := by simp; omega
      have hkn : (k : Int) < (n : Int) := by omega
      have ck := (hb.cell (block_lt_of_cell (HC.out k (by rw [HN.out]; exact hlt)))).trans (HC.out k (by rw [HN.out]; exact hlt))
      obtain ⟨y, hy⟩ : ∃ y, min (minU zs (k - 1)) (zs.getD k 0) = y := ⟨_, rfl⟩
      have HY : Hid (minU zs (k + 1 - 1) = y) := Lib.hid (by rw [← hy, show k + 1 - 1 = (k - 1) + 1 by omega, minU, show k - 1 + 1 = k by omega])
      generalize minU zs (k - 1) = m at *
      generalize zs.getD k 0 = z at *
      go_wp2_with fail
      go_roundw
      case rel => exact ⟨k + 1, by omega, by omega, by rw [HY.out, ← hy], by go_num, hb⟩
      case measure => simp [intOf]; omega
    · have hd : decide ((k : Int) < (n : Int)) = false := by simp; omega
      obtain rfl : k = n := by omega
      go_wp2_with fail
      go_ret
      exact ⟨rfl, hb⟩
def maxU (zs : List Int) : Nat → Int
  | 0 => zs.getD 0 0
  | k + 1 => max (maxU zs k) (zs.getD (k + 1) 0)
theorem maxU_all (zs : List Int) : ∀ k j, j ≤ k → zs.getD j 0 ≤ maxU zs k
  | 0, j, h => by obtain rfl : j = 0 := by omega
                  exact Int.le_refl _
  | k + 1, j, h => by
    by_cases e : j = k + 1
    · subst e; rw [maxU]; omega
    · have := maxU_all zs k j (by omega); rw [maxU]; omega
theorem maxU_one (zs : List Int) : ∀ k, ∃ j, j ≤ k ∧ maxU zs k = zs.getD j 0
  | 0 => ⟨0, Nat.le_refl _, rfl⟩
  | k + 1 => by
    obtain ⟨j, h1, h2⟩ := maxU_one zs k
    by_cases e : maxU zs k ≤ zs.getD (k + 1) 0
    · exact ⟨k + 1, Nat.le_refl _, by rw [maxU]; omega⟩
    · exact ⟨j, by omega, by rw [maxU]; omega⟩
set_option maxHeartbeats 2000000 in
theorem max_any (ao : Option Addr) (n c : Nat) (zs : List Int) (w : World) (hn : zs.length = n) (h1 : 1 ≤ n) (hm : n ≤ 1000000) (hi : IntsAt w ao zs) :
    Calls Try.prog 41 #[.slice ao n c] w fun e w' => e = .returned (.int .i64 (maxU zs (n - 1))) ∧ Below w.heap.size w w' := by
  obtain ⟨g, off, rfl, hc⟩ := ints_at hi (by omega)
  have HC := Lib.hid hc
  have c0 := hc 0 (by omega)
  rw [Nat.add_zero] at c0
  have HZ : Hid (zs.getD 0 0 = maxU zs 0) := Lib.hid rfl
  have HN := Lib.hid hn
  have d1 : decide ((n : Int) < 1) = false := by simp; omega
  have i0 : (0 : Int) < (n : Int) := by omega
  have j0 : 0 < n := by omega
  have hb := Below.refl w.heap.size w
  clear hi hc hn
  obtain ⟨z0, ez0⟩ : ∃ z0, zs.getD 0 0 = z0 := ⟨_, rfl⟩
  rw [ez0] at c0 HZ
  clear ez0
  go_enter Try.func41, Try.ntmps41
  go_wp2_with fail
  go_loopw [3, 4] (fun mv iv wr => ∃ k : Nat, 1 ≤ k ∧ k ≤ n ∧ mv = .int .i64 (maxU zs (k - 1)) ∧ iv = .int .i64 (k : Int) ∧ Below w.heap.size w wr) (fun _ iv _ => n - (intOf iv).toNat)
  case atStart => exact ⟨1, by omega, by omega, by rw [HZ.out], rfl, hb⟩
  case round =>
    clear hb HZ c0
    obtain ⟨k, hk1, hk, rfl, rfl, hb⟩ := hrel
    by_cases hlt : k < n
    · have hd : decide ((k : Int) < (n : Int)) = true := by simp; omega
      have hkn : (k : Int) < (n : Int) := by omega
      have ck := (hb.cell (block_lt_of_cell (HC.out k (by rw [HN.out]; exact hlt)))).trans (HC.out k (by rw [HN.out]; exact hlt))
      obtain ⟨y, hy⟩ : ∃ y, max (maxU zs (k - 1)) (zs.getD k 0) = y := ⟨_, rfl⟩
      have HY : Hid (maxU zs (k + 1 - 1) = y) := Lib.hid (by rw [← hy, show k + 1 - 1 = (k - 1) + 1 by omega, maxU, show k - 1 + 1 = k by omega])
      generalize maxU zs (k - 1) = m at *
      generalize zs.getD k 0 = z at *
      go_wp2_with fail
      go_roundw
      case rel => exact ⟨k + 1, by omega, by omega, by rw [HY.out, ← hy], by go_num, hb⟩
      case measure => simp [intOf]; omega
    · have hd : decide ((k : Int) < (n : Int)) = false := by simp; omega
      obtain rfl : k = n := by omega
      go_wp2_with fail
      go_ret
      exact ⟨rfl, hb⟩
/-- Whether an object identifier may begin so. -/
def bgB (a b : Int) : Bool := if a < 2 then decide (b < 40) else (decide (a = 2) && decide (b ≤ 1000000))
theorem bg_iff (zs : List Int) (h1 : 0 ≤ zs.getD 1 0) : bgB (zs.getD 0 0) (zs.getD 1 0) = true ↔ ¬ oidBad zs := by
  rw [bgB, oidBad]
  by_cases c : zs.getD 0 0 < 2
  · rw [if_pos c, decide_eq_true_eq]; omega
  · rw [if_neg c, Bool.and_eq_true, decide_eq_true_eq, decide_eq_true_eq]; omega
set_option maxHeartbeats 1000000 in
theorem isBeginning_any (a b : Int) (w : World) :
    Calls Try.prog 40 #[.int .i64 a, .int .i64 b] w fun e w' => e = .returned (.bool (bgB a b)) ∧ Below w.heap.size w w' := by
  by_cases c : a < 2
  · have d1 : decide (a < 2) = true := decide_eq_true c
    have HV : Hid (bgB a b = decide (b < 40)) := Lib.hid (if_pos c)
    clear c
    go_enter Try.func40, Try.ntmps40
    go_wp2_with fail
    go_ret
    exact ⟨by rw [HV.out]; rfl, Below.refl _ _⟩
  have d1 : decide (a < 2) = false := decide_eq_false c
  by_cases c2 : a = 2
  · have d2 : (a == 2) = true := by rw [c2]; rfl
    have HV : Hid (bgB a b = decide (b ≤ 1000000)) := Lib.hid (by rw [bgB, if_neg c, decide_eq_true c2, Bool.true_and])
    clear c c2
    go_enter Try.func40, Try.ntmps40
    go_wp2_with fail
    go_ret
    exact ⟨by rw [HV.out]; rfl, Below.refl _ _⟩
  · have d2 : (a == 2) = false := by simp [c2]
    have HV : Hid (bgB a b = false) := Lib.hid (by rw [bgB, if_neg c, decide_eq_false c2, Bool.false_and])
    clear c c2
    go_enter Try.func40, Try.ntmps40
    go_wp2_with fail
    go_ret
    exact ⟨by rw [HV.out]; rfl, Below.refl _ _⟩
end Go.Proofs.Ytimokmhgpigliaa
