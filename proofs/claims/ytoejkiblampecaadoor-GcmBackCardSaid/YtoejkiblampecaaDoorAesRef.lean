/- The reference's Times, stirred, Swap. -/
import Derived.Test.YtoejkiblampecaaDoorAesSpec
import Derived.Test.YtoejkiblampecaaDoorAesBig
import Derived.Test.YtoejkiblampecaaDoorOwn
import Derived.Test.YtoejkiblampecaaDoorArr
import Derived.BigQuiet
namespace Go.Proofs.YtoejkiblampecaaDoor
open Go.RowKit Go.Sort
set_option maxRecDepth 100000
set_option linter.unusedSimpArgs false
set_option linter.unusedVariables false

theorem ax_ofInt (a : Nat) (ha : a < 2 ^ 62) : (BitVec.ofInt 64 (a : Int)).toNat = a := by rw [BitVec.toNat_ofInt]; omega
theorem ax_xor (a b : Nat) (ha : a < 2 ^ 62) (hb : b < 2 ^ 62) : bits .xor .i64 (a : Int) (b : Int) = ((a ^^^ b : Nat) : Int) := by
  have hx : a ^^^ b < 2 ^ 62 := Nat.xor_lt_two_pow ha hb
  show IntKind.i64.wrap ((BitVec.ofInt 64 (a : Int) ^^^ BitVec.ofInt 64 (b : Int)).toNat : Int) = _
  rw [BitVec.toNat_xor, ax_ofInt a ha, ax_ofInt b hb, IntKind.wrap_i64]
  omega
theorem ax_or (a b : Nat) (ha : a < 2 ^ 62) (hb : b < 2 ^ 62) : bits .or .i64 (a : Int) (b : Int) = ((a ||| b : Nat) : Int) := by
  have hx : a ||| b < 2 ^ 62 := Nat.or_lt_two_pow ha hb
  show IntKind.i64.wrap ((BitVec.ofInt 64 (a : Int) ||| BitVec.ofInt 64 (b : Int)).toNat : Int) = _
  rw [BitVec.toNat_or, ax_ofInt a ha, ax_ofInt b hb, IntKind.wrap_i64]
  omega
theorem ax_and (a b : Nat) (ha : a < 2 ^ 62) (hb : b < 2 ^ 62) : bits .and .i64 (a : Int) (b : Int) = ((a &&& b : Nat) : Int) := by
  have hx : a &&& b < 2 ^ 62 := Nat.and_lt_two_pow _ hb
  show IntKind.i64.wrap ((BitVec.ofInt 64 (a : Int) &&& BitVec.ofInt 64 (b : Int)).toNat : Int) = _
  rw [BitVec.toNat_and, ax_ofInt a ha, ax_ofInt b hb, IntKind.wrap_i64]
  omega
theorem ax_bit (b k : Nat) (hb : b < 256) : bits .and .i64 ((b : Int) / 2 ^ k) 1 = ((b / 2 ^ k % 2 : Nat) : Int) := by
  have h := ax_and (b / 2 ^ k) 1 (by have := Nat.div_le_self b (2 ^ k); omega) (by decide)
  have e : ((b / 2 ^ k : Nat) : Int) = (b : Int) / 2 ^ k := by simp
  rw [e] at h
  rw [show (1 : Int) = ((1 : Nat) : Int) from rfl, h, Nat.and_one_is_mod]

set_option maxHeartbeats 1000000 in
theorem refTimes_any (a b : Nat) (w : World) (ha : a < 256) (hb : b < 256) :
    Calls Tryd.prog 51 #[.int .i64 (a : Int), .int .i64 (b : Int)] w fun e w' => e = .returned (.int .i64 ((tm a b : Nat) : Int)) ∧ w = w' := by
  go_enter Tryd.func51, Tryd.ntmps51
  go_wp2_with fail
  go_loopw [0, 5, 6] (fun av ov i wr => ∃ k : Nat, k ≤ 8 ∧ i = .int .i64 (k : Int) ∧ av = .int .i64 (((tmS a b k).2 : Nat) : Int) ∧ ov = .int .i64 (((tmS a b k).1 : Nat) : Int) ∧ w = wr) (fun _ _ i _ => 8 - (intOf i).toNat)
  case atStart => exact ⟨0, by omega, rfl, rfl, rfl, rfl⟩
  case round =>
    obtain ⟨k, hk, rfl, rfl, rfl, rfl⟩ := hrel
    by_cases hlt : k < 8
    · have hd : decide ((k : Int) < 8) = true := by simp; omega
      obtain ⟨l1, l2⟩ := tmS_lt a b ha k
      have HS1 : Hid ((tmS a b (k + 1)).1 = if (b / 2 ^ k) % 2 = 1 then (tmS a b k).1 ^^^ (tmS a b k).2 else (tmS a b k).1) := Lib.hid rfl
      have HS2 : Hid ((tmS a b (k + 1)).2 = dbR (tmS a b k).2) := Lib.hid rfl
      have hbit := ax_bit b k hb
      have hx := ax_xor (tmS a b k).1 (tmS a b k).2 (by omega) (by omega)
      have hy := ax_xor ((tmS a b k).2 * 2) 283 (by omega) (by decide)
      have e2 : IntKind.i64.wrap (((tmS a b k).2 : Int) * 2) = ((tmS a b k).2 : Int) * 2 := IntWalk.i64_in _ (by omega)
      rw [show (((tmS a b k).2 * 2 : Nat) : Int) = ((tmS a b k).2 : Int) * 2 by simp, show ((283 : Nat) : Int) = 283 from rfl] at hy
      have HY := Lib.hid hy; have HX := Lib.hid hx
      clear hx hy
      generalize (tmS a b k).1 = o at *
      generalize (tmS a b k).2 = x at *
      by_cases hone : (b / 2 ^ k) % 2 = 1
      · have hb1 : (bits .and .i64 ((b : Int) / 2 ^ k) 1 == 1) = true := by rw [hbit, hone]; rfl
        clear hbit
        by_cases hbig : 255 < x * 2
        · have hg : decide ((255 : Int) < (x : Int) * 2) = true := by simp; omega
          go_wp2_with fail
          go_roundw
          case rel => exact ⟨k + 1, by omega, by go_num, by rw [HS2.out, dbR, if_pos hbig, ← HY.out], by rw [HS1.out, if_pos hone, ← HX.out], by first | rfl | trivial⟩
          case measure => simp [intOf]; omega
        · have hg : decide ((255 : Int) < (x : Int) * 2) = false := by simp; omega
          go_wp2_with fail
          go_roundw
          case rel => exact ⟨k + 1, by omega, by go_num, by rw [HS2.out, dbR, if_neg hbig]; simp, by rw [HS1.out, if_pos hone, ← HX.out], by first | rfl | trivial⟩
          case measure => simp [intOf]; omega
      · have hb1 : (bits .and .i64 ((b : Int) / 2 ^ k) 1 == 1) = false := by rw [hbit, show (b / 2 ^ k) % 2 = 0 by omega]; rfl
        clear hbit
        by_cases hbig : 255 < x * 2
        · have hg : decide ((255 : Int) < (x : Int) * 2) = true := by simp; omega
          go_wp2_with fail
          go_roundw
          case rel => exact ⟨k + 1, by omega, by go_num, by rw [HS2.out, dbR, if_pos hbig, ← HY.out], by rw [HS1.out, if_neg hone], by first | rfl | trivial⟩
          case measure => simp [intOf]; omega
        · have hg : decide ((255 : Int) < (x : Int) * 2) = false := by simp; omega
          go_wp2_with fail
          go_roundw
          case rel => exact ⟨k + 1, by omega, by go_num, by rw [HS2.out, dbR, if_neg hbig]; simp, by rw [HS1.out, if_neg hone], by first | rfl | trivial⟩
          case measure => simp [intOf]; omega
    · have hd : decide ((k : Int) < 8) = false := by simp; omega
      obtain rfl : k = 8 := by omega
      go_wp2_with fail
      go_ret
      exact ⟨rfl, rfl⟩

theorem stS_lt (v : Nat) (hv : v < 256) : ∀ k, stS v k < 256
  | 0 => by simp [stS]
  | k + 1 => xor_lt8 (stS_lt v hv k) (Nat.lt_of_le_of_lt Nat.and_le_right (by decide))
theorem stir_walk (o v k : Nat) (ho : o < 256) (hv : v < 256) (hk : k < 5) : bits .xor .i64 (o : Int) (bits .and .i64 (bits .or .i64 ((v : Int) * 2 ^ k) ((v : Int) / 2 ^ (8 - k))) 255) = ((o ^^^ ((v * 2 ^ k ||| v / 2 ^ (8 - k)) &&& 255) : Nat) : Int) := by
  have hp : 2 ^ k ≤ 16 := by
    have : 2 ^ k ≤ 2 ^ 4 := Nat.pow_le_pow_right (by decide) (by omega)
    simpa using this
  have h1 : v * 2 ^ k < 2 ^ 62 := by
    have : v * 2 ^ k ≤ 255 * 16 := Nat.mul_le_mul (by omega) hp
    omega
  have h2 : v / 2 ^ (8 - k) < 2 ^ 62 := by have := Nat.div_le_self v (2 ^ (8 - k)); omega
  have e1 : (v : Int) * 2 ^ k = ((v * 2 ^ k : Nat) : Int) := by simp
  have e2 : (v : Int) / 2 ^ (8 - k) = ((v / 2 ^ (8 - k) : Nat) : Int) := by simp
  have h3 : v * 2 ^ k ||| v / 2 ^ (8 - k) < 2 ^ 62 := Nat.or_lt_two_pow h1 h2
  rw [e1, e2, ax_or _ _ h1 h2, show (255 : Int) = ((255 : Nat) : Int) from rfl, ax_and _ _ h3 (by decide), ax_xor _ _ (by omega) (Nat.lt_of_le_of_lt Nat.and_le_right (by decide))]

set_option maxHeartbeats 1000000 in
theorem stirred_any (v : Nat) (w : World) (hv : v < 256) :
    Calls Tryd.prog 52 #[.int .i64 (v : Int)] w fun e w' => e = .returned (.int .u8 ((stN v : Nat) : Int)) ∧ Below w.heap.size w w' := by
  go_enter Tryd.func52, Tryd.ntmps52
  go_wp2_with fail
  go_loopw [3, 4] (fun ov i wr => ∃ k : Nat, k ≤ 5 ∧ i = .int .i64 (k : Int) ∧ ov = .int .i64 ((stS v k : Nat) : Int) ∧ Below w.heap.size w wr) (fun _ i _ => 5 - (intOf i).toNat)
  case atStart => exact ⟨0, by omega, rfl, rfl, Below.refl _ _⟩
  case round =>
    obtain ⟨k, hk, rfl, rfl, hb⟩ := hrel
    by_cases hlt : k < 5
    · have hd : decide ((k : Int) < 5) = true := by simp; omega
      have HS : Hid (stS v (k + 1) = stS v k ^^^ ((v * 2 ^ k ||| v / 2 ^ (8 - k)) &&& 255)) := Lib.hid rfl
      have HW := Lib.hid (stir_walk (stS v k) v k (stS_lt v hv k) hv hlt)
      have e8 : (8 - (k : Int)).toNat = 8 - k := by omega
      have n8 : (0 : Int) ≤ 8 - (k : Int) := by omega
      have hp : (v : Int) * 2 ^ k ≤ 4080 := by
        have hp : 2 ^ k ≤ 16 := by
          have : 2 ^ k ≤ 2 ^ 4 := Nat.pow_le_pow_right (by decide) (by omega)
          simpa using this
        have : v * 2 ^ k ≤ 255 * 16 := Nat.mul_le_mul (by omega) hp
        have e1 : (v : Int) * 2 ^ k = ((v * 2 ^ k : Nat) : Int) := by simp
        rw [e1]; omega
      have hp0 : 0 ≤ (v : Int) * 2 ^ k := by
        have e1 : (v : Int) * 2 ^ k = ((v * 2 ^ k : Nat) : Int) := by simp
        rw [e1]; omega
      have ew : IntKind.i64.wrap ((v : Int) * 2 ^ k) = (v : Int) * 2 ^ k := IntWalk.i64_in _ (by omega)
      generalize stS v k = o at *
      go_wp2_with fail
      go_quiet (fail)
      go_wp2_with fail
      go_roundw
      case rel => exact ⟨k + 1, by omega, by go_num, by rw [HS.out, ← HW.out], below_drewN hb _⟩
      case measure => simp [intOf]; omega
    · have hd : decide ((k : Int) < 5) = false := by simp; omega
      obtain rfl : k = 5 := by omega
      have hl := stS_lt v hv 5
      have hm : ((stS v 5 : Nat) : Int) % 256 = ((stS v 5 : Nat) : Int) := by omega
      go_wp2_with fail
      go_ret
      exact ⟨by first | rfl | (rw [← hm]; rfl), hb⟩

theorem ivS_lt (b : Nat) : ∀ k, k ≤ 255 → ivS b k < 256
  | 0, _ => by simp [ivS]
  | k + 1, h => by
    rw [ivS]
    split
    · omega
    · exact ivS_lt b k (by omega)
theorem iv_sb (b : Nat) (h : b < 256) : stN (ivS b 255) = sbT b := by simpa using List.all_eq_true.1 iv_all b (List.mem_range.2 h)

end Go.Proofs.YtoejkiblampecaaDoor
