/- The number that a thing has in it: the reference's ReadInt. -/
import Derived.Test.YtimokmhgpigliaaDrRead
namespace Go.Proofs.Ytimokmhgpigliaa
open Go.RowKit Go.Sort
set_option maxRecDepth 100000
set_option linter.unusedSimpArgs false
set_option linter.unusedVariables false

def riBad (l : List UInt8) : Prop := 1 < l.length ∧ ((rdB l 0 = 0 ∧ rdB l 1 < 128) ∨ (rdB l 0 = 255 ∧ 128 ≤ rdB l 1))
instance (l : List UInt8) : Decidable (riBad l) := by unfold riBad; infer_instance
def riE (l : List UInt8) : Int := if l.length = 0 then 10 else if riBad l then 11 else if 8 < l.length then 13 else 0
/-- The number after so many bytes. -/
def riN (l : List UInt8) : Nat → Int
  | 0 => if 128 ≤ rdB l 0 then -1 else 0
  | k + 1 => riN l k * 256 + (rdB l k : Int)
def riV (s : ByteArray) : Int := if riE s.data.toList = 0 then riN s.data.toList s.data.toList.length else 0
def riErr (s : ByteArray) : Int := riE s.data.toList
theorem riN_first (l : List UInt8) : -128 ≤ riN l 1 ∧ riN l 1 < 128 := by
  have h := rdB_lt l 0
  rw [riN, riN]
  split <;> omega
theorem riN_bound (l : List UInt8) : ∀ k, -(128 * 256 ^ k : Nat) ≤ riN l (k + 1) ∧ riN l (k + 1) < (128 * 256 ^ k : Nat)
  | 0 => riN_first l
  | k + 1 => by
    have h := rdB_lt l (k + 1)
    have ih := riN_bound l k
    rw [riN, Nat.pow_succ]
    omega
theorem riN_small (l : List UInt8) (k : Nat) (h : k ≤ 7) : -36028797018963968 ≤ riN l k ∧ riN l k < 36028797018963968 := by
  cases k with
  | zero => rw [riN]; split <;> omega
  | succ k =>
    have ih := riN_bound l k
    have : 256 ^ k ≤ 256 ^ 6 := Nat.pow_le_pow_right (by decide) (by omega)
    have e6 : (256 : Nat) ^ 6 = 281474976710656 := by decide
    omega
theorem or_low8 (m : Int) (b : Nat) (hb : b < 256) (h0 : -36028797018963968 ≤ m) (h1 : m < 36028797018963968) : bits .or .i64 (m * 256) (b : Int) = m * 256 + (b : Int) := by
  have e1 : (BitVec.ofInt 64 (m * 256)).toNat = 2 ^ 8 * (m % 72057594037927936).toNat := by rw [BitVec.toNat_ofInt]; omega
  have e2 : (BitVec.ofInt 64 (b : Int)).toNat = b := by rw [BitVec.toNat_ofInt]; omega
  have h := Nat.two_pow_add_eq_or_of_lt (show b < 2 ^ 8 by omega) (m % 72057594037927936).toNat
  show IntKind.i64.wrap (((BitVec.ofInt 64 (m * 256) ||| BitVec.ofInt 64 (b : Int)).toNat : Nat) : Int) = _
  rw [BitVec.toNat_or, e1, e2, ← h, IntKind.wrap_i64]
  omega
theorem ri_bad (s : ByteArray) (e : Int) (h : riE s.data.toList = e) (he : e ≠ 0) : riV s = 0 ∧ riErr s = e := ⟨if_neg (by rw [h]; exact he), h⟩

set_option maxHeartbeats 16000000 in
theorem rReadInt_any (s : ByteArray) (w : World) (hs : s.size ≤ 1000000000) :
    Calls Try.prog 22 #[.string s] w fun e w' => e = .returned (.tuple #[.int .i64 (riV s), .int .i64 (riErr s)]) ∧ Below w.heap.size w w' := by
  have hl : s.data.toList.length = s.size := (Lib.size_eq s).symm
  have hb := Below.refl w.heap.size w
  by_cases c0 : s.size = 0
  · have q0 : (s.toList == []) = true := by rw [Lib.toList_data]; have : s.data.toList = [] := List.length_eq_zero_iff.1 (by omega); rw [this]; rfl
    have HB := Lib.hid (ri_bad s 10 (by rw [riE, if_pos (by omega)]) (by decide))
    generalize rdB s.data.toList 0 = b0 at *
    generalize rdB s.data.toList 1 = b1 at *
    clear hl hs 
    go_enter Try.func22, Try.ntmps22
    go_wp2_with fail
    go_ret2
    exact ⟨by rw [HB.out.1, HB.out.2]; rfl, hb⟩
  have q0 : (s.toList == []) = false := by rw [Lib.toList_data]; cases h : s.data.toList with | nil => rw [h] at hl; exact absurd hl.symm c0 | cons a r => rfl
  have hl0 : 0 < s.size := by omega
  have hi0 : (0 : Int) < (s.size : Int) := by omega
  have t0 := rd_at s 0 hl0
  have h0 := rdB_lt s.data.toList 0
  have n0 : ¬ s.data.toList.length = 0 := by omega
  by_cases c1 : s.size = 1
  · have d1 : decide ((1 : Int) < (s.size : Int)) = false := by simp; omega
    have nb : ¬ riBad s.data.toList := fun h => by have := h.1; omega
    have d8 : decide ((8 : Int) < (s.size : Int)) = false := by simp; omega
    by_cases c5 : 128 ≤ rdB s.data.toList 0
    · skip
      have HV : Hid (riV s = riN s.data.toList s.size ∧ riErr s = 0) := Lib.hid (by have h : riE s.data.toList = 0 := (by rw [riE, if_neg n0, if_neg nb, if_neg (by omega)]); exact ⟨by rw [riV, if_pos h, hl], h⟩)
      have HI : Hid (riN s.data.toList 0 = -1) := Lib.hid (by rw [riN, if_pos (by omega)])
      have d9 : decide (128 ≤ (rdB s.data.toList 0 : Int)) = true := by simp; omega
      have HR := Lib.hid (fun k (h : k < s.size) => rd_at s k h)
      have HS := Lib.hid (fun k => riN_small s.data.toList k)
      have HL := Lib.hid (fun k => rdB_lt s.data.toList k)
      have HN : Hid (∀ k, riN s.data.toList (k + 1) = riN s.data.toList k * 256 + (rdB s.data.toList k : Int)) := Lib.hid (fun k => rfl)
      have hs8 : s.size ≤ 8 := by omega
      skip
      clear hl hs n0 nb c5 c0 h0
      generalize rdB s.data.toList 1 = b1 at *
      obtain ⟨b0, eb⟩ : ∃ b0, rdB s.data.toList 0 = b0 := ⟨_, rfl⟩
      rw [eb] at t0 d9 
      clear eb
      go_enter Try.func22, Try.ntmps22
      go_wp2_with fail
      go_loopw [4, 5] (fun nv iv wr => ∃ k : Nat, k ≤ s.size ∧ nv = .int .i64 (riN s.data.toList k) ∧ iv = .int .i64 (k : Int) ∧ Below w.heap.size w wr) (fun _ iv _ => s.size - (intOf iv).toNat)
      case atStart => exact ⟨0, by omega, by rw [HI.out], rfl, hb⟩
      case round =>
        clear hb
        obtain ⟨k, hk, rfl, rfl, hb⟩ := hrel
        by_cases hlt : k < s.size
        · have hd : decide ((k : Int) < (s.size : Int)) = true := by simp; omega
          have hik : (k : Int) < (s.size : Int) := by omega
          have tk := HR.out k hlt
          have hbk := HL.out k
          obtain ⟨m0, m1⟩ := HS.out k (by omega)
          have ho := or_low8 (riN s.data.toList k) (rdB s.data.toList k) hbk m0 m1
          rw [← HN.out k] at ho
          have HX : Hid (∃ y, riN s.data.toList (k + 1) = y) := Lib.hid ⟨_, rfl⟩
          obtain ⟨y, hy⟩ := HX.out
          rw [hy] at ho
          have HY := Lib.hid hy
          clear hy HX
          have ws : IntKind.i64.wrap (riN s.data.toList k * 256) = riN s.data.toList k * 256 := by rw [IntKind.wrap_i64]; omega
          generalize riN s.data.toList k = m at *
          generalize rdB s.data.toList k = bk at *
          have wk : IntKind.i64.wrap (bk : Int) = (bk : Int) := by rw [IntKind.wrap_i64]; omega
          go_wp2_with fail
          go_roundw
          case rel => exact ⟨k + 1, by omega, by rw [HY.out], by go_num, hb⟩
          case measure => simp [intOf]; omega
        · have hd : decide ((k : Int) < (s.size : Int)) = false := by simp; omega
          obtain rfl : k = s.size := by omega
          obtain ⟨y, hy⟩ : ∃ y, riN s.data.toList s.size = y := ⟨_, rfl⟩
          rw [hy] at HV
          have HY := Lib.hid hy
          skip
          go_wp2_with fail
          go_ret2
          exact ⟨by rw [HV.out.1, HV.out.2, ← HY.out]; rfl, hb⟩
    · skip
      have HV : Hid (riV s = riN s.data.toList s.size ∧ riErr s = 0) := Lib.hid (by have h : riE s.data.toList = 0 := (by rw [riE, if_neg n0, if_neg nb, if_neg (by omega)]); exact ⟨by rw [riV, if_pos h, hl], h⟩)
      have HI : Hid (riN s.data.toList 0 = 0) := Lib.hid (by rw [riN, if_neg (by omega)])
      have d9 : decide (128 ≤ (rdB s.data.toList 0 : Int)) = false := by simp; omega
      have HR := Lib.hid (fun k (h : k < s.size) => rd_at s k h)
      have HS := Lib.hid (fun k => riN_small s.data.toList k)
      have HL := Lib.hid (fun k => rdB_lt s.data.toList k)
      have HN : Hid (∀ k, riN s.data.toList (k + 1) = riN s.data.toList k * 256 + (rdB s.data.toList k : Int)) := Lib.hid (fun k => rfl)
      have hs8 : s.size ≤ 8 := by omega
      skip
      clear hl hs n0 nb c5 c0 h0
      generalize rdB s.data.toList 1 = b1 at *
      obtain ⟨b0, eb⟩ : ∃ b0, rdB s.data.toList 0 = b0 := ⟨_, rfl⟩
      rw [eb] at t0 d9 
      clear eb
      go_enter Try.func22, Try.ntmps22
      go_wp2_with fail
      go_loopw [4, 5] (fun nv iv wr => ∃ k : Nat, k ≤ s.size ∧ nv = .int .i64 (riN s.data.toList k) ∧ iv = .int .i64 (k : Int) ∧ Below w.heap.size w wr) (fun _ iv _ => s.size - (intOf iv).toNat)
      case atStart => exact ⟨0, by omega, by rw [HI.out], rfl, hb⟩
      case round =>
        clear hb
        obtain ⟨k, hk, rfl, rfl, hb⟩ := hrel
        by_cases hlt : k < s.size
        · have hd : decide ((k : Int) < (s.size : Int)) = true := by simp; omega
          have hik : (k : Int) < (s.size : Int) := by omega
          have tk := HR.out k hlt
          have hbk := HL.out k
          obtain ⟨m0, m1⟩ := HS.out k (by omega)
          have ho := or_low8 (riN s.data.toList k) (rdB s.data.toList k) hbk m0 m1
          rw [← HN.out k] at ho
          have HX : Hid (∃ y, riN s.data.toList (k + 1) = y) := Lib.hid ⟨_, rfl⟩
          obtain ⟨y, hy⟩ := HX.out
          rw [hy] at ho
          have HY := Lib.hid hy
          clear hy HX
          have ws : IntKind.i64.wrap (riN s.data.toList k * 256) = riN s.data.toList k * 256 := by rw [IntKind.wrap_i64]; omega
          generalize riN s.data.toList k = m at *
          generalize rdB s.data.toList k = bk at *
          have wk : IntKind.i64.wrap (bk : Int) = (bk : Int) := by rw [IntKind.wrap_i64]; omega
          go_wp2_with fail
          go_roundw
          case rel => exact ⟨k + 1, by omega, by rw [HY.out], by go_num, hb⟩
          case measure => simp [intOf]; omega
        · have hd : decide ((k : Int) < (s.size : Int)) = false := by simp; omega
          obtain rfl : k = s.size := by omega
          obtain ⟨y, hy⟩ : ∃ y, riN s.data.toList s.size = y := ⟨_, rfl⟩
          rw [hy] at HV
          have HY := Lib.hid hy
          skip
          go_wp2_with fail
          go_ret2
          exact ⟨by rw [HV.out.1, HV.out.2, ← HY.out]; rfl, hb⟩
  have d1 : decide ((1 : Int) < (s.size : Int)) = true := by simp; omega
  have hl1 : 1 < s.size := by omega
  have hi1 : (1 : Int) < (s.size : Int) := by omega
  have t1 := rd_at s 1 hl1
  have h1 := rdB_lt s.data.toList 1
  by_cases c2 : rdB s.data.toList 0 = 0
  · have f0 : ((rdB s.data.toList 0 : Int) == 0) = true := by simp; omega
    have f1 : ((rdB s.data.toList 0 : Int) == 255) = false := by simp; omega
    by_cases c3 : rdB s.data.toList 1 < 128
    · have f2 : decide ((rdB s.data.toList 1 : Int) < 128) = true := by simp; omega
      have HB := Lib.hid (ri_bad s 11 (by rw [riE, if_neg n0, if_pos ⟨by omega, .inl ⟨c2, c3⟩⟩]) (by decide))
      generalize rdB s.data.toList 0 = b0 at *
      generalize rdB s.data.toList 1 = b1 at *
      clear hl hs n0 c0 c1 c2 c3
      go_enter Try.func22, Try.ntmps22
      go_wp2_with fail
      go_ret2
      exact ⟨by rw [HB.out.1, HB.out.2]; rfl, hb⟩
    have f2 : decide ((rdB s.data.toList 1 : Int) < 128) = false := by simp; omega
    have nb : ¬ riBad s.data.toList := fun h => by rcases h.2 with h | h <;> omega
    by_cases c8 : 8 < s.size
    · have d8 : decide ((8 : Int) < (s.size : Int)) = true := by simp; omega
      have HB := Lib.hid (ri_bad s 13 (by rw [riE, if_neg n0, if_neg nb, if_pos (by omega)]) (by decide))
      generalize rdB s.data.toList 0 = b0 at *
      generalize rdB s.data.toList 1 = b1 at *
      clear hl hs n0 nb c0 c1 c8
      go_enter Try.func22, Try.ntmps22
      go_wp2_with fail
      go_ret2
      exact ⟨by rw [HB.out.1, HB.out.2]; rfl, hb⟩
    have d8 : decide ((8 : Int) < (s.size : Int)) = false := by simp; omega
    have HV : Hid (riV s = riN s.data.toList s.size ∧ riErr s = 0) := Lib.hid (by have h : riE s.data.toList = 0 := (by rw [riE, if_neg n0, if_neg nb, if_neg (by omega)]); exact ⟨by rw [riV, if_pos h, hl], h⟩)
    have HI : Hid (riN s.data.toList 0 = 0) := Lib.hid (by rw [riN, if_neg (by omega)])
    have d9 : decide (128 ≤ (rdB s.data.toList 0 : Int)) = false := by simp; omega
    have HR := Lib.hid (fun k (h : k < s.size) => rd_at s k h)
    have HS := Lib.hid (fun k => riN_small s.data.toList k)
    have HL := Lib.hid (fun k => rdB_lt s.data.toList k)
    have HN : Hid (∀ k, riN s.data.toList (k + 1) = riN s.data.toList k * 256 + (rdB s.data.toList k : Int)) := Lib.hid (fun k => rfl)
    have hs8 : s.size ≤ 8 := by omega
    skip
    clear hl hs n0 nb c0 c1 c2 c3 c8 h0
    generalize rdB s.data.toList 1 = b1 at *
    obtain ⟨b0, eb⟩ : ∃ b0, rdB s.data.toList 0 = b0 := ⟨_, rfl⟩
    rw [eb] at t0 d9 f0 f1
    clear eb
    go_enter Try.func22, Try.ntmps22
    go_wp2_with fail
    go_loopw [4, 5] (fun nv iv wr => ∃ k : Nat, k ≤ s.size ∧ nv = .int .i64 (riN s.data.toList k) ∧ iv = .int .i64 (k : Int) ∧ Below w.heap.size w wr) (fun _ iv _ => s.size - (intOf iv).toNat)
    case atStart => exact ⟨0, by omega, by rw [HI.out], rfl, hb⟩
    case round =>
      clear hb
      obtain ⟨k, hk, rfl, rfl, hb⟩ := hrel
      by_cases hlt : k < s.size
      · have hd : decide ((k : Int) < (s.size : Int)) = true := by simp; omega
        have hik : (k : Int) < (s.size : Int) := by omega
        have tk := HR.out k hlt
        have hbk := HL.out k
        obtain ⟨m0, m1⟩ := HS.out k (by omega)
        have ho := or_low8 (riN s.data.toList k) (rdB s.data.toList k) hbk m0 m1
        rw [← HN.out k] at ho
        have HX : Hid (∃ y, riN s.data.toList (k + 1) = y) := Lib.hid ⟨_, rfl⟩
        obtain ⟨y, hy⟩ := HX.out
        rw [hy] at ho
        have HY := Lib.hid hy
        clear hy HX
        have ws : IntKind.i64.wrap (riN s.data.toList k * 256) = riN s.data.toList k * 256 := by rw [IntKind.wrap_i64]; omega
        generalize riN s.data.toList k = m at *
        generalize rdB s.data.toList k = bk at *
        have wk : IntKind.i64.wrap (bk : Int) = (bk : Int) := by rw [IntKind.wrap_i64]; omega
        go_wp2_with fail
        go_roundw
        case rel => exact ⟨k + 1, by omega, by rw [HY.out], by go_num, hb⟩
        case measure => simp [intOf]; omega
      · have hd : decide ((k : Int) < (s.size : Int)) = false := by simp; omega
        obtain rfl : k = s.size := by omega
        obtain ⟨y, hy⟩ : ∃ y, riN s.data.toList s.size = y := ⟨_, rfl⟩
        rw [hy] at HV
        have HY := Lib.hid hy
        skip
        go_wp2_with fail
        go_ret2
        exact ⟨by rw [HV.out.1, HV.out.2, ← HY.out]; rfl, hb⟩
  have f0 : ((rdB s.data.toList 0 : Int) == 0) = false := by simp; omega
  by_cases c4 : rdB s.data.toList 0 = 255
  · have f1 : ((rdB s.data.toList 0 : Int) == 255) = true := by simp; omega
    by_cases c3 : 128 ≤ rdB s.data.toList 1
    · have f2 : decide (128 ≤ (rdB s.data.toList 1 : Int)) = true := by simp; omega
      have HB := Lib.hid (ri_bad s 11 (by rw [riE, if_neg n0, if_pos ⟨by omega, .inr ⟨c4, c3⟩⟩]) (by decide))
      generalize rdB s.data.toList 0 = b0 at *
      generalize rdB s.data.toList 1 = b1 at *
      clear hl hs n0 c0 c1 c2 c3 c4
      go_enter Try.func22, Try.ntmps22
      go_wp2_with fail
      go_ret2
      exact ⟨by rw [HB.out.1, HB.out.2]; rfl, hb⟩
    have f2 : decide (128 ≤ (rdB s.data.toList 1 : Int)) = false := by simp; omega
    have nb : ¬ riBad s.data.toList := fun h => by rcases h.2 with h | h <;> omega
    by_cases c8 : 8 < s.size
    · have d8 : decide ((8 : Int) < (s.size : Int)) = true := by simp; omega
      have HB := Lib.hid (ri_bad s 13 (by rw [riE, if_neg n0, if_neg nb, if_pos (by omega)]) (by decide))
      generalize rdB s.data.toList 0 = b0 at *
      generalize rdB s.data.toList 1 = b1 at *
      clear hl hs n0 nb c0 c1 c8
      go_enter Try.func22, Try.ntmps22
      go_wp2_with fail
      go_ret2
      exact ⟨by rw [HB.out.1, HB.out.2]; rfl, hb⟩
    have d8 : decide ((8 : Int) < (s.size : Int)) = false := by simp; omega
    have HV : Hid (riV s = riN s.data.toList s.size ∧ riErr s = 0) := Lib.hid (by have h : riE s.data.toList = 0 := (by rw [riE, if_neg n0, if_neg nb, if_neg (by omega)]); exact ⟨by rw [riV, if_pos h, hl], h⟩)
    have HI : Hid (riN s.data.toList 0 = -1) := Lib.hid (by rw [riN, if_pos (by omega)])
    have d9 : decide (128 ≤ (rdB s.data.toList 0 : Int)) = true := by simp; omega
    have HR := Lib.hid (fun k (h : k < s.size) => rd_at s k h)
    have HS := Lib.hid (fun k => riN_small s.data.toList k)
    have HL := Lib.hid (fun k => rdB_lt s.data.toList k)
    have HN : Hid (∀ k, riN s.data.toList (k + 1) = riN s.data.toList k * 256 + (rdB s.data.toList k : Int)) := Lib.hid (fun k => rfl)
    have hs8 : s.size ≤ 8 := by omega
    skip
    clear hl hs n0 nb c0 c1 c2 c3 c4 c8 h0
    generalize rdB s.data.toList 1 = b1 at *
    obtain ⟨b0, eb⟩ : ∃ b0, rdB s.data.toList 0 = b0 := ⟨_, rfl⟩
    rw [eb] at t0 d9 f0 f1
    clear eb
    go_enter Try.func22, Try.ntmps22
    go_wp2_with fail
    go_loopw [4, 5] (fun nv iv wr => ∃ k : Nat, k ≤ s.size ∧ nv = .int .i64 (riN s.data.toList k) ∧ iv = .int .i64 (k : Int) ∧ Below w.heap.size w wr) (fun _ iv _ => s.size - (intOf iv).toNat)
    case atStart => exact ⟨0, by omega, by rw [HI.out], rfl, hb⟩
    case round =>
      clear hb
      obtain ⟨k, hk, rfl, rfl, hb⟩ := hrel
      by_cases hlt : k < s.size
      · have hd : decide ((k : Int) < (s.size : Int)) = true := by simp; omega
        have hik : (k : Int) < (s.size : Int) := by omega
        have tk := HR.out k hlt
        have hbk := HL.out k
        obtain ⟨m0, m1⟩ := HS.out k (by omega)
        have ho := or_low8 (riN s.data.toList k) (rdB s.data.toList k) hbk m0 m1
        rw [← HN.out k] at ho
        have HX : Hid (∃ y, riN s.data.toList (k + 1) = y) := Lib.hid ⟨_, rfl⟩
        obtain ⟨y, hy⟩ := HX.out
        rw [hy] at ho
        have HY := Lib.hid hy
        clear hy HX
        have ws : IntKind.i64.wrap (riN s.data.toList k * 256) = riN s.data.toList k * 256 := by rw [IntKind.wrap_i64]; omega
        generalize riN s.data.toList k = m at *
        generalize rdB s.data.toList k = bk at *
        have wk : IntKind.i64.wrap (bk : Int) = (bk : Int) := by rw [IntKind.wrap_i64]; omega
        go_wp2_with fail
        go_roundw
        case rel => exact ⟨k + 1, by omega, by rw [HY.out], by go_num, hb⟩
        case measure => simp [intOf]; omega
      · have hd : decide ((k : Int) < (s.size : Int)) = false := by simp; omega
        obtain rfl : k = s.size := by omega
        obtain ⟨y, hy⟩ : ∃ y, riN s.data.toList s.size = y := ⟨_, rfl⟩
        rw [hy] at HV
        have HY := Lib.hid hy
        skip
        go_wp2_with fail
        go_ret2
        exact ⟨by rw [HV.out.1, HV.out.2, ← HY.out]; rfl, hb⟩
  have f1 : ((rdB s.data.toList 0 : Int) == 255) = false := by simp; omega
  have nb : ¬ riBad s.data.toList := fun h => by rcases h.2 with h | h <;> omega
  by_cases c8 : 8 < s.size
  · have d8 : decide ((8 : Int) < (s.size : Int)) = true := by simp; omega
    have HB := Lib.hid (ri_bad s 13 (by rw [riE, if_neg n0, if_neg nb, if_pos (by omega)]) (by decide))
    generalize rdB s.data.toList 0 = b0 at *
    generalize rdB s.data.toList 1 = b1 at *
    clear hl hs n0 nb c0 c1 c8
    go_enter Try.func22, Try.ntmps22
    go_wp2_with fail
    go_ret2
    exact ⟨by rw [HB.out.1, HB.out.2]; rfl, hb⟩
  have d8 : decide ((8 : Int) < (s.size : Int)) = false := by simp; omega
  by_cases c5 : 128 ≤ rdB s.data.toList 0
  · skip
    have HV : Hid (riV s = riN s.data.toList s.size ∧ riErr s = 0) := Lib.hid (by have h : riE s.data.toList = 0 := (by rw [riE, if_neg n0, if_neg nb, if_neg (by omega)]); exact ⟨by rw [riV, if_pos h, hl], h⟩)
    have HI : Hid (riN s.data.toList 0 = -1) := Lib.hid (by rw [riN, if_pos (by omega)])
    have d9 : decide (128 ≤ (rdB s.data.toList 0 : Int)) = true := by simp; omega
    have HR := Lib.hid (fun k (h : k < s.size) => rd_at s k h)
    have HS := Lib.hid (fun k => riN_small s.data.toList k)
    have HL := Lib.hid (fun k => rdB_lt s.data.toList k)
    have HN : Hid (∀ k, riN s.data.toList (k + 1) = riN s.data.toList k * 256 + (rdB s.data.toList k : Int)) := Lib.hid (fun k => rfl)
    have hs8 : s.size ≤ 8 := by omega
    skip
    clear hl hs n0 nb c0 c1 c2 c4 c8 h0 c5
    generalize rdB s.data.toList 1 = b1 at *
    obtain ⟨b0, eb⟩ : ∃ b0, rdB s.data.toList 0 = b0 := ⟨_, rfl⟩
    rw [eb] at t0 d9 f0 f1
    clear eb
    go_enter Try.func22, Try.ntmps22
    go_wp2_with fail
    go_loopw [4, 5] (fun nv iv wr => ∃ k : Nat, k ≤ s.size ∧ nv = .int .i64 (riN s.data.toList k) ∧ iv = .int .i64 (k : Int) ∧ Below w.heap.size w wr) (fun _ iv _ => s.size - (intOf iv).toNat)
    case atStart => exact ⟨0, by omega, by rw [HI.out], rfl, hb⟩
    case round =>
      clear hb
      obtain ⟨k, hk, rfl, rfl, hb⟩ := hrel
      by_cases hlt : k < s.size
      · have hd : decide ((k : Int) < (s.size : Int)) = true := by simp; omega
        have hik : (k : Int) < (s.size : Int) := by omega
        have tk := HR.out k hlt
        have hbk := HL.out k
        obtain ⟨m0, m1⟩ := HS.out k (by omega)
        have ho := or_low8 (riN s.data.toList k) (rdB s.data.toList k) hbk m0 m1
        rw [← HN.out k] at ho
        have HX : Hid (∃ y, riN s.data.toList (k + 1) = y) := Lib.hid ⟨_, rfl⟩
        obtain ⟨y, hy⟩ := HX.out
        rw [hy] at ho
        have HY := Lib.hid hy
        clear hy HX
        have ws : IntKind.i64.wrap (riN s.data.toList k * 256) = riN s.data.toList k * 256 := by rw [IntKind.wrap_i64]; omega
        generalize riN s.data.toList k = m at *
        generalize rdB s.data.toList k = bk at *
        have wk : IntKind.i64.wrap (bk : Int) = (bk : Int) := by rw [IntKind.wrap_i64]; omega
        go_wp2_with fail
        go_roundw
        case rel => exact ⟨k + 1, by omega, by rw [HY.out], by go_num, hb⟩
        case measure => simp [intOf]; omega
      · have hd : decide ((k : Int) < (s.size : Int)) = false := by simp; omega
        obtain rfl : k = s.size := by omega
        obtain ⟨y, hy⟩ : ∃ y, riN s.data.toList s.size = y := ⟨_, rfl⟩
        rw [hy] at HV
        have HY := Lib.hid hy
        skip
        go_wp2_with fail
        go_ret2
        exact ⟨by rw [HV.out.1, HV.out.2, ← HY.out]; rfl, hb⟩
  · skip
    have HV : Hid (riV s = riN s.data.toList s.size ∧ riErr s = 0) := Lib.hid (by have h : riE s.data.toList = 0 := (by rw [riE, if_neg n0, if_neg nb, if_neg (by omega)]); exact ⟨by rw [riV, if_pos h, hl], h⟩)
    have HI : Hid (riN s.data.toList 0 = 0) := Lib.hid (by rw [riN, if_neg (by omega)])
    have d9 : decide (128 ≤ (rdB s.data.toList 0 : Int)) = false := by simp; omega
    have HR := Lib.hid (fun k (h : k < s.size) => rd_at s k h)
    have HS := Lib.hid (fun k => riN_small s.data.toList k)
    have HL := Lib.hid (fun k => rdB_lt s.data.toList k)
    have HN : Hid (∀ k, riN s.data.toList (k + 1) = riN s.data.toList k * 256 + (rdB s.data.toList k : Int)) := Lib.hid (fun k => rfl)
    have hs8 : s.size ≤ 8 := by omega
    skip
    clear hl hs n0 nb c0 c1 c2 c4 c8 h0 c5
    generalize rdB s.data.toList 1 = b1 at *
    obtain ⟨b0, eb⟩ : ∃ b0, rdB s.data.toList 0 = b0 := ⟨_, rfl⟩
    rw [eb] at t0 d9 f0 f1
    clear eb
    go_enter Try.func22, Try.ntmps22
    go_wp2_with fail
    go_loopw [4, 5] (fun nv iv wr => ∃ k : Nat, k ≤ s.size ∧ nv = .int .i64 (riN s.data.toList k) ∧ iv = .int .i64 (k : Int) ∧ Below w.heap.size w wr) (fun _ iv _ => s.size - (intOf iv).toNat)
    case atStart => exact ⟨0, by omega, by rw [HI.out], rfl, hb⟩
    case round =>
      clear hb
      obtain ⟨k, hk, rfl, rfl, hb⟩ := hrel
      by_cases hlt : k < s.size
      · have hd : decide ((k : Int) < (s.size : Int)) = true := by simp; omega
        have hik : (k : Int) < (s.size : Int) := by omega
        have tk := HR.out k hlt
        have hbk := HL.out k
        obtain ⟨m0, m1⟩ := HS.out k (by omega)
        have ho := or_low8 (riN s.data.toList k) (rdB s.data.toList k) hbk m0 m1
        rw [← HN.out k] at ho
        have HX : Hid (∃ y, riN s.data.toList (k + 1) = y) := Lib.hid ⟨_, rfl⟩
        obtain ⟨y, hy⟩ := HX.out
        rw [hy] at ho
        have HY := Lib.hid hy
        clear hy HX
        have ws : IntKind.i64.wrap (riN s.data.toList k * 256) = riN s.data.toList k * 256 := by rw [IntKind.wrap_i64]; omega
        generalize riN s.data.toList k = m at *
        generalize rdB s.data.toList k = bk at *
        have wk : IntKind.i64.wrap (bk : Int) = (bk : Int) := by rw [IntKind.wrap_i64]; omega
        go_wp2_with fail
        go_roundw
        case rel => exact ⟨k + 1, by omega, by rw [HY.out], by go_num, hb⟩
        case measure => simp [intOf]; omega
      · have hd : decide ((k : Int) < (s.size : Int)) = false := by simp; omega
        obtain rfl : k = s.size := by omega
        obtain ⟨y, hy⟩ : ∃ y, riN s.data.toList s.size = y := ⟨_, rfl⟩
        rw [hy] at HV
        have HY := Lib.hid hy
        skip
        go_wp2_with fail
        go_ret2
        exact ⟨by rw [HV.out.1, HV.out.2, ← HY.out]; rfl, hb⟩
end Go.Proofs.Ytimokmhgpigliaa
