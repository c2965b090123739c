/- Package der: tags, lengths, elements: isTag, isConstructed, lengthOf, element, Write. -/
import Derived.Test.YtimokmhgpigliaaDrChk
import Derived.Test.YtimokmhgpigliaaDrWr
import Derived.Test.YtimokmhgpigliaaToldG
namespace Go.Proofs.Ytimokmhgpigliaa
open Go.RowKit Go.Sort
set_option maxRecDepth 100000
set_option linter.unusedSimpArgs false
set_option linter.unusedVariables false

theorem and31 : ∀ b : Fin 256, bits .and .i64 ((b.val : Nat) : Int) 31 = ((b.val % 32 : Nat) : Int) := by decide +kernel
theorem and31_of (n : Int) (h0 : 0 ≤ n) (h1 : n ≤ 255) : bits .and .i64 n 31 = n % 32 := by
  have := and31 ⟨n.toNat, by omega⟩
  simp only at this
  rw [Int.toNat_of_nonneg h0] at this
  rw [this]
  omega
theorem and32 : ∀ b : Fin 256, (bits .and .i64 ((b.val : Nat) : Int) 32 != 0) = decide (b.val / 32 % 2 = 1) := by decide +kernel
theorem and32_of (b : Nat) (h : b < 256) : (bits .and .i64 (b : Int) 32 != 0) = decide (b / 32 % 2 = 1) := and32 ⟨b, h⟩
set_option maxHeartbeats 1000000 in
theorem isTag_any (n : Int) (w : World) (h0 : -9223372036854775808 ≤ n) (h1 : n ≤ 9223372036854775807) :
    Calls Try.prog 30 #[.int .i64 n] w fun e w' => e = .returned (.bool (isT n)) ∧ Below w.heap.size w w' := by
  have hv : isT n = (decide (0 ≤ n) && decide (n ≤ 255) && (n % 32 != 31)) := rfl
  by_cases c1 : 0 ≤ n
  · have d1 : decide (0 ≤ n) = true := decide_eq_true c1
    by_cases c2 : n ≤ 255
    · have d2 : decide (n ≤ 255) = true := decide_eq_true c2
      rw [d1, d2, Bool.true_and, Bool.true_and] at hv
      have hr := and31_of n c1 c2
      cases c3 : (n % 32 != 31) with
      | true =>
        rw [c3] at hv
        have HV := Lib.hid hv
        clear hv
        go_enter Try.func30, Try.ntmps30
        go_wp2_with fail
        go_ret
        exact ⟨by rw [HV.out]; rfl, Below.refl _ _⟩
      | false =>
        rw [c3] at hv
        have HV := Lib.hid hv
        clear hv
        go_enter Try.func30, Try.ntmps30
        go_wp2_with fail
        go_ret
        exact ⟨by rw [HV.out]; rfl, Below.refl _ _⟩
    · have d2 : decide (n ≤ 255) = false := decide_eq_false c2
      rw [d1, d2] at hv
      have HV := Lib.hid hv
      clear hv
      go_enter Try.func30, Try.ntmps30
      go_wp2_with fail
      go_ret
      exact ⟨by rw [HV.out]; rfl, Below.refl _ _⟩
  · have d1 : decide (0 ≤ n) = false := decide_eq_false c1
    rw [d1] at hv
    have HV := Lib.hid hv
    clear hv
    go_enter Try.func30, Try.ntmps30
    go_wp2_with fail
    go_ret
    exact ⟨by rw [HV.out]; rfl, Below.refl _ _⟩
theorem isConst_any (b : Nat) (w : World) (h : b < 256) :
    Calls Try.prog 50 #[.int .i64 (b : Int)] w fun e w' => e = .returned (.bool (decide (b / 32 % 2 = 1))) ∧ Below w.heap.size w w' := by
  have hd := and32_of b h
  generalize decide (b / 32 % 2 = 1) = q at *
  clear h
  go_enter Try.func50, Try.ntmps50
  go_wp2_with fail
  go_ret
  exact ⟨rfl, Below.refl _ _⟩
/-- The length's bytes as a text. -/
def lenB (n : Nat) : ByteArray := ⟨(lenL n).toArray⟩
set_option maxHeartbeats 4000000 in
theorem lengthOf_any (n : Nat) (w : World) (h : n < 65536) :
    Calls Try.prog 47 #[.int .i64 (n : Int)] w fun e w' => e = .returned (.string (lenB n)) ∧ Below w.heap.size w w' := by
  by_cases c1 : n < 128
  · have d1 : decide ((n : Int) < 128) = true := by simp; omega
    have wt : IntKind.u8.wrap (n : Int) = (n : Int) := by rw [IntKind.wrap_u8]; omega
    have HV : Hid (lenB n = ⟨[UInt8.ofNat n].toArray⟩) := Lib.hid (by rw [lenB, lenL, if_pos c1])
    have hb := below_new w (.cells #[.int .u8 (n : Int)] 5)
    have hcv := conv_text (w.alloc (.cells #[.int .u8 (n : Int)] 5)) w.heap.size 0 1 1 [UInt8.ofNat n] rfl (fun j x hx => by
      rw [Nat.zero_add]
      have e1 := cell_byte n (by omega)
      rw [cell_of_row _ w.heap.size j _ _ (0, 0) (blk_new w _)]
      match j, hx with
      | 0, hx => simp at hx; subst hx; simp only [e1]; rfl
      | j + 1, hx => simp at hx)
    go_enter Try.func47, Try.ntmps47
    go_wp2_with fail
    go_ret
    exact ⟨by rw [HV.out]; rfl, hb⟩
  have d1 : decide ((n : Int) < 128) = false := by simp; omega
  by_cases c2 : n < 256
  · have d2 : decide ((n : Int) < 256) = true := by simp; omega
    have wt : IntKind.u8.wrap (n : Int) = (n : Int) := by rw [IntKind.wrap_u8]; omega
    have HV : Hid (lenB n = ⟨[129, UInt8.ofNat n].toArray⟩) := Lib.hid (by rw [lenB, lenL, if_neg c1, if_pos c2])
    have hb := below_new w (.cells #[.int .u8 129, .int .u8 (n : Int)] 5)
    have hcv := conv_text (w.alloc (.cells #[.int .u8 129, .int .u8 (n : Int)] 5)) w.heap.size 0 2 2 [129, UInt8.ofNat n] rfl (fun j x hx => by
      rw [Nat.zero_add]
      have e1 := cell_byte n (by omega)
      rw [cell_of_row _ w.heap.size j _ _ (0, 0) (blk_new w _)]
      match j, hx with
      | 0, hx => simp at hx; subst hx; rfl
      | 1, hx => simp at hx; subst hx; simp only [e1]; rfl
      | j + 2, hx => simp at hx)
    go_enter Try.func47, Try.ntmps47
    go_wp2_with fail
    go_ret
    exact ⟨by rw [HV.out]; rfl, hb⟩
  have d2 : decide ((n : Int) < 256) = false := by simp; omega
  have w8 : IntKind.u8.wrap ((n : Int) / 256) = (n : Int) / 256 := by rw [IntKind.wrap_u8]; omega
  have w9 : IntKind.u8.wrap (n : Int) = (n : Int) % 256 := by rw [IntKind.wrap_u8]
  have HV : Hid (lenB n = ⟨[130, UInt8.ofNat (n / 256), UInt8.ofNat n].toArray⟩) := Lib.hid (by rw [lenB, lenL, if_neg c1, if_neg c2])
  have hb := below_new w (.cells #[.int .u8 130, .int .u8 ((n : Int) / 256), .int .u8 ((n : Int) % 256)] 5)
  have hcv := conv_text (w.alloc (.cells #[.int .u8 130, .int .u8 ((n : Int) / 256), .int .u8 ((n : Int) % 256)] 5)) w.heap.size 0 3 3 [130, UInt8.ofNat (n / 256), UInt8.ofNat n] rfl (fun j x hx => by
    rw [Nat.zero_add]
    have e1 : ((UInt8.ofNat (n / 256)).toNat : Int) = (n : Int) / 256 := by rw [UInt8.toNat_ofNat']; omega
    have e2 : ((UInt8.ofNat n).toNat : Int) = (n : Int) % 256 := by rw [UInt8.toNat_ofNat']; omega
    rw [cell_of_row _ w.heap.size j _ _ (0, 0) (blk_new w _)]
    match j, hx with
    | 0, hx => simp at hx; subst hx; rfl
    | 1, hx => simp at hx; subst hx; simp only [e1]; rfl
    | 2, hx => simp at hx; subst hx; simp only [e2]; rfl
    | j + 3, hx => simp at hx)
  go_enter Try.func47, Try.ntmps47
  go_wp2_with fail
  go_ret
  exact ⟨by rw [HV.out]; rfl, hb⟩
theorem lenB_size (n : Nat) : (lenB n).size ≤ 3 := by
  show (lenL n).length ≤ 3
  rw [lenL]
  split
  · simp
  split <;> simp
end Go.Proofs.Ytimokmhgpigliaa
