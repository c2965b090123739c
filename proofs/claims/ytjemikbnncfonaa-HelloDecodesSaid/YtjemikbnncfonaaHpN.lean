/- Package hello's small functions: number, part, exchange, isWithin. -/
import Derived.Test.YtjemikbnncfonaaHpA
import Derived.Test.YtjemikbnncfonaaHeP
namespace Go.Proofs.Ytjemikbnncfonaa
open Go.RowKit Go.Sort
set_option maxRecDepth 100000
set_option linter.unusedSimpArgs false
set_option linter.unusedVariables false

/-- The number of the first bytes. -/
def nuN (l : List UInt8) : Nat → Nat
  | 0 => 0
  | k + 1 => nuN l k * 256 + (l.getD k 0).toNat
theorem nuN_lt (l : List UInt8) (k : Nat) : nuN l k < 256 ^ k := by
  induction k with
  | zero => exact Nat.one_pos
  | succ k ih => have := (l.getD k 0).toNat_lt; rw [nuN, Nat.pow_succ]; omega
theorem hp_or8 (m : Int) (b : Nat) (hb : b < 256) (h0 : -36028797018963968 ≤ m) (h1 : m < 36028797018963968) : bits .or .i64 (m * 256) (b : Int) = m * 256 + (b : Int) := by
  have e1 : (BitVec.ofInt 64 (m * 256)).toNat = 2 ^ 8 * (m % 72057594037927936).toNat := by rw [BitVec.toNat_ofInt]; omega
  have e2 : (BitVec.ofInt 64 (b : Int)).toNat = b := by rw [BitVec.toNat_ofInt]; omega
  have h := Nat.two_pow_add_eq_or_of_lt (show b < 2 ^ 8 by omega) (m % 72057594037927936).toNat
  show IntKind.i64.wrap (((BitVec.ofInt 64 (m * 256) ||| BitVec.ofInt 64 (b : Int)).toNat : Nat) : Int) = _
  rw [BitVec.toNat_or, e1, e2, ← h, IntKind.wrap_i64]
  omega
set_option maxHeartbeats 2000000 in
theorem number_any (s : ByteArray) (w : World) (hs : s.size ≤ 3) :
    Calls Try.prog 19 #[.string s] w fun e w' => e = .returned (.int .i64 (nuN (ofB s) s.size : Int)) ∧ Below w.heap.size w w' := by
  have hb := Below.refl w.heap.size w
  have HR := Lib.hid (fun k (h : k < s.size) => (fun h' => by rw [he_get s k h] : ∀ h' : k < s.size, ((s[k]'h').toNat : Int) = (((ofB s).getD k 0).toNat : Int)))
  have HL := Lib.hid (fun k => UInt8.toNat_lt ((ofB s).getD k 0))
  have HN := Lib.hid (fun k (h : k ≤ 3) => (show nuN (ofB s) k < 16777216 from Nat.lt_of_lt_of_le (nuN_lt (ofB s) k) (Nat.pow_le_pow_right (by decide) h)))
  have HS : Hid (∀ k, nuN (ofB s) (k + 1) = nuN (ofB s) k * 256 + ((ofB s).getD k 0).toNat) := Lib.hid (fun k => rfl)
  go_enter Try.func19, Try.ntmps19
  go_wp2_with fail
  generalize hBB : w.heap.size = B at *
  have HBB := Lib.hid hBB
  clear hBB
  go_loopw [3, 4, 7] (fun nv jv iv wr => ∃ k : Nat, k ≤ s.size ∧ nv = .int .i64 (nuN (ofB s) k : Int) ∧ iv = .int .i64 (k : Int) ∧ Below B w wr) (fun _ _ iv _ => s.size - (intOf iv).toNat)
  case atStart => exact ⟨0, by omega, rfl, rfl, hb⟩
  case round =>
    clear hb
    obtain ⟨k, hk, rfl, rfl, hb⟩ := hrel
    by_cases hlt : k < s.size
    · have hd : decide ((k : Int) < (s.size : Int)) = true := by simp; omega
      have hik : (k : Int) < (s.size : Int) := by omega
      have tk := HR.out k hlt
      have hbk := HL.out k
      have m1 := HN.out k (by omega)
      have ho := hp_or8 (nuN (ofB s) k : Int) ((ofB s).getD k 0).toNat hbk (by omega) (by omega)
      have hy : ((nuN (ofB s) (k + 1) : Nat) : Int) = (nuN (ofB s) k : Int) * 256 + (((ofB s).getD k 0).toNat : Int) := by rw [HS.out k]; omega
      have HY := Lib.hid hy
      clear hy
      have ws : IntKind.i64.wrap ((nuN (ofB s) k : Int) * 256) = (nuN (ofB s) k : Int) * 256 := by rw [IntKind.wrap_i64]; omega
      generalize nuN (ofB s) k = m at *
      generalize ((ofB s).getD k 0).toNat = bk at *
      have wk : IntKind.i64.wrap (bk : Int) = (bk : Int) := by rw [IntKind.wrap_i64]; omega
      go_wp2_with fail
      go_roundw
      case rel => exact ⟨k + 1, by omega, by rw [HY.out], by go_num, hb⟩
      case measure => simp [intOf]; omega
    · have hd : decide ((k : Int) < (s.size : Int)) = false := by simp; omega
      obtain rfl : k = s.size := by omega
      go_wp2_with fail
      go_ret
      exact ⟨rfl, by rw [HBB.out]; exact hb⟩
theorem pt_text (s : ByteArray) (a b : Int) (h0 : 0 ≤ a) (h1 : a ≤ b) (h2 : b ≤ (s.size : Int)) : s.extract a.toNat b.toNat = ptB s a b := by
  rw [ptB, if_neg (by omega), ← part_text s a.toNat (b.toNat - a.toNat) (by omega)]
  congr 1; omega
set_option maxHeartbeats 2000000 in
theorem hpart_any (s : ByteArray) (a b : Int) (w : World) (ha : -9223372036854775808 ≤ a ∧ a ≤ 9223372036854775807) (hb : -9223372036854775808 ≤ b ∧ b ≤ 9223372036854775807) :
    Calls Try.prog 35 #[.string s, .int .i64 a, .int .i64 b] w fun e w' => e = .returned (.string (ptB s a b)) ∧ Below w.heap.size w w' := by
  have hr := Below.refl w.heap.size w
  have hE : (a < 0 ∨ b < a ∨ (s.size : Int) < b) → ptB s a b = ⟨#[]⟩ := fun h => by rw [ptB, if_pos h]; rfl
  have hT := pt_text s a b
  by_cases c0 : a < 0
  · have HE := Lib.hid (hE (.inl c0))
    have d0 : decide (a < 0) = true := decide_eq_true c0
    clear hE hT ha hb
    go_enter Try.func35, Try.ntmps35
    go_wp2_with fail
    go_ret
    exact ⟨by rw [HE.out]; rfl, hr⟩
  by_cases c1 : b < a
  · have HE := Lib.hid (hE (.inr (.inl c1)))
    have d0 : decide (a < 0) = false := decide_eq_false c0
    have d1 : decide (b < a) = true := decide_eq_true c1
    clear hE hT ha hb
    go_enter Try.func35, Try.ntmps35
    go_wp2_with fail
    go_ret
    exact ⟨by rw [HE.out]; rfl, hr⟩
  by_cases c2 : (s.size : Int) < b
  · have HE := Lib.hid (hE (.inr (.inr c2)))
    have d0 : decide (a < 0) = false := decide_eq_false c0
    have d1 : decide (b < a) = false := decide_eq_false c1
    have d2 : decide ((s.size : Int) < b) = true := decide_eq_true c2
    clear hE hT ha hb
    go_enter Try.func35, Try.ntmps35
    go_wp2_with fail
    go_ret
    exact ⟨by rw [HE.out]; rfl, hr⟩
  have HE := Lib.hid (hT (by omega) (by omega) (by omega))
  have d0 : decide (a < 0) = false := decide_eq_false c0
  have d1 : decide (b < a) = false := decide_eq_false c1
  have d2 : decide ((s.size : Int) < b) = false := decide_eq_false c2
  have g0 : 0 ≤ a := by omega
  have g1 : a ≤ b := by omega
  have g2 : b ≤ (s.size : Int) := by omega
  clear hE hT
  go_enter Try.func35, Try.ntmps35
  go_wp2_with fail
  go_ret
  exact ⟨by rw [← HE.out]; rfl, hr⟩
theorem exchange_any (s : ByteArray) (w : World) (hs : s.size ≤ 1000000) :
    Calls Try.prog 33 #[.string s] w fun e w' => e = .returned (.tuple #[.string (ptB s 2 34), .string (ptB s ((s.size : Int) - 32) s.size)]) ∧ Below w.heap.size w w' := by
  have hb := Below.refl w.heap.size w
  have C1 := Lib.hid (fun W => hpart_any s 2 34 W (by omega) (by omega))
  have C2 := Lib.hid (fun W => hpart_any s ((s.size : Int) - 32) s.size W (by omega) (by omega))
  have w1 : IntKind.i64.wrap ((s.size : Int) - 32) = (s.size : Int) - 32 := by rw [IntKind.wrap_i64]; omega
  clear hs
  go_enter Try.func33, Try.ntmps33
  go_wp2_with fail
  refine (C1.out _).mono ?_
  rintro e W1 ⟨rfl, bk⟩
  replace hb := hb.trans (bk.mono hb.size)
  clear bk C1
  go_wp2_with fail
  refine (C2.out _).mono ?_
  rintro e W2 ⟨rfl, bk⟩
  replace hb := hb.trans (bk.mono hb.size)
  clear bk C2
  go_wp2_with fail
  go_ret2
  exact ⟨rfl, hb⟩
theorem isWithin_any (n a b : Int) (w : World) :
    Calls Try.prog 25 #[.int .i64 n, .int .i64 a, .int .i64 b] w fun e w' => e = .returned (.bool (winB n a b)) ∧ Below w.heap.size w w' := by
  have hb := Below.refl w.heap.size w
  have HW : Hid (winB n a b = (decide (a ≤ n) && decide (n ≤ b))) := Lib.hid rfl
  generalize winB n a b = r at *
  by_cases c0 : a ≤ n
  · have d0 : decide (a ≤ n) = true := decide_eq_true c0
    rw [d0] at HW
    generalize hq : decide (n ≤ b) = q at *
    go_enter Try.func25, Try.ntmps25
    go_wp2_with fail
    go_ret
    exact ⟨by rw [HW.out]; rfl, hb⟩
  · have d0 : decide (a ≤ n) = false := decide_eq_false c0
    rw [d0] at HW
    go_enter Try.func25, Try.ntmps25
    go_wp2_with fail
    go_ret
    exact ⟨by rw [HW.out]; rfl, hb⟩
end Go.Proofs.Ytjemikbnncfonaa
