/- Whether two texts are the same: package mac's Same. -/
import Derived.Test.YtoejkiblampecaaDoorGcmTag
namespace Go.Proofs.YtoejkiblampecaaDoor
open Go.RowKit Go.Sort
set_option maxRecDepth 100000
set_option linter.unusedSimpArgs false
set_option linter.unusedVariables false

theorem append_bytes2 (a : ByteArray) (l : List UInt8) : a ++ ⟨l.toArray⟩ = (⟨(a.data.toList ++ l).toArray⟩ : ByteArray) := by
  apply ByteArray.ext
  rw [ByteArray.data_append]
  simp
theorem gor_xor_zero (d x y : Nat) (hd : d < 256) (hx : x < 256) (hy : y < 256) : bits .or .u8 (d : Int) (bits .xor .u8 (x : Int) (y : Int)) = 0 ↔ d = 0 ∧ x = y := by
  rw [u8_xor_nat x y hx hy, u8_or_nat d (x ^^^ y) hd (Nat.xor_lt_two_pow (n := 8) hx hy)]
  constructor
  · intro h
    have h' : d ||| (x ^^^ y) = 0 := by omega
    rw [Nat.or_eq_zero_iff] at h'
    refine ⟨h'.1, ?_⟩
    have e : (x ^^^ y) ^^^ y = 0 ^^^ y := by rw [h'.2]
    rwa [Nat.xor_assoc, Nat.xor_self, Nat.xor_zero, Nat.zero_xor] at e
  · rintro ⟨rfl, rfl⟩
    simp

set_option maxHeartbeats 1000000 in
theorem gsame_any (a b : ByteArray) (w : World) (ha : a.size ≤ maxLen) (hb' : b.size ≤ maxLen) :
    Calls Tryd.prog 26 #[.string a, .string b] w fun e w' => e = .returned (.bool (a.data.toList == b.data.toList)) ∧ Below w.heap.size w w' := by
  unfold maxLen at ha hb'
  by_cases hne : a.size = b.size
  · have hd : ((a.size : Int) != (b.size : Int)) = false := by simp [hne]
    go_enter Tryd.func26, Tryd.ntmps26
    go_wp2_with fail
    go_loopw [5, 14] (fun d i wr => ∃ (k dd : Nat), k ≤ a.size ∧ i = .int .i64 k ∧ d = .int .u8 (dd : Int) ∧ dd < 256 ∧ (dd = 0 ↔ a.data.toList.take k = b.data.toList.take k) ∧ Below w.heap.size w wr) (fun _ i _ => a.size - (intOf i).toNat)
    case atStart => exact ⟨0, 0, by omega, rfl, rfl, by omega, by simp, Below.refl _ _⟩
    case round =>
      obtain ⟨k, dd, hk, rfl, rfl, hdd, hiff, hbl⟩ := hrel
      by_cases hlt : k < a.size
      · have hd1 : decide ((k : Int) < (a.size : Int)) = true := by simp; omega
        have hlb : k < b.size := by omega
        have hlb' : (k : Int) < (b.size : Int) := by omega
        have HI := Lib.hid hiff
        clear hiff
        go_wp2_with fail
        go_quiet (fail)
        obtain ⟨z, hz, hz1, hz2⟩ : ∃ z : Nat, bits .or .u8 (dd : Int) (bits .xor .u8 (a[k].toNat : Int) (b[k].toNat : Int)) = (z : Int) ∧ z < 256 ∧ (z = 0 ↔ dd = 0 ∧ a[k].toNat = b[k].toNat) := by
          obtain ⟨h0, h1⟩ := bits8_range .or (dd : Int) (bits .xor .u8 (a[k].toNat : Int) (b[k].toNat : Int))
          have h2 := gor_xor_zero dd a[k].toNat b[k].toNat hdd (UInt8.toNat_lt _) (UInt8.toNat_lt _)
          exact ⟨_, (Int.toNat_of_nonneg h0).symm, by omega, by rw [← h2]; omega⟩
        rw [hz]
        have HZ := Lib.hid hz2
        clear hz hz2
        go_wp2_with fail
        go_roundw
        case rel =>
          refine ⟨k + 1, z, by omega, by go_num, rfl, hz1, ?_, below_drewN hbl _⟩
          have e1 : a.data.toList.take (k + 1) = a.data.toList.take k ++ [a[k]] := List.take_succ_eq_append_getElem (by rw [← Lib.size_eq]; exact hlt)
          have e2 : b.data.toList.take (k + 1) = b.data.toList.take k ++ [b[k]] := List.take_succ_eq_append_getElem (by rw [← Lib.size_eq]; exact hlb)
          rw [e1, e2, HZ.out, HI.out, UInt8.toNat_inj]
          constructor
          · rintro ⟨h1, h2⟩; rw [h1, h2]
          · intro h
            have hl : (a.data.toList.take k).length = (b.data.toList.take k).length := by rw [List.length_take, List.length_take, ← Lib.size_eq, ← Lib.size_eq, hne]
            obtain ⟨h1, h2⟩ := List.append_inj h hl
            exact ⟨h1, by simpa using h2⟩
        case measure => simp [intOf]; omega
      · have hd1 : decide ((k : Int) < (a.size : Int)) = false := by simp; omega
        obtain rfl : k = a.size := by omega
        have HR : Hid ((((dd : Nat) : Int) == 0) = (a.data.toList == b.data.toList)) := Lib.hid (by
          rw [List.take_of_length_le (by rw [← Lib.size_eq]; omega), List.take_of_length_le (by rw [← Lib.size_eq]; omega)] at hiff
          by_cases hz : dd = 0
          · rw [hz, hiff.1 hz]; simp
          · have : ¬ a.data.toList = b.data.toList := fun h => hz (hiff.2 h)
            have h1 : (((dd : Nat) : Int) == 0) = false := by simp; omega
            rw [h1]; simpa using this)
        clear hiff
        go_wp2_with fail
        go_ret
        exact ⟨by rw [← HR.out]; rfl, hbl⟩
  · have hd : ((a.size : Int) != (b.size : Int)) = true := by simp; omega
    have HR : Hid ((a.data.toList == b.data.toList) = false) := Lib.hid (by
      have : ¬ a.data.toList = b.data.toList := fun h => hne (by rw [Lib.size_eq, Lib.size_eq, h])
      simpa using this)
    go_enter Tryd.func26, Tryd.ntmps26
    go_wp2_with fail
    go_ret
    exact ⟨by rw [HR.out]; rfl, Below.refl _ _⟩
end Go.Proofs.YtoejkiblampecaaDoor
