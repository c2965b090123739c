/- The reference's rest: digits modulo the order. -/
import Derived.Test.YtjgpcfjnanideaaDoorScrStep
namespace Go.Proofs.YtjgpcfjnanideaaDoor
open Go.RowKit Go.Sort
set_option maxRecDepth 100000
set_option linter.unusedSimpArgs false
set_option linter.unusedVariables false

/-- A slice of so many digits, wherever it lies. -/
def DigsAt (W : World) (n : Nat) (v : Value) (l : List Nat) : Prop := ∃ D cap, v = .slice (some ⟨D, 0, none⟩) n cap ∧ ∀ j, j < n → W.cell? ⟨D, j, none⟩ = some (.int .i64 ((l.getD j 0 : Nat) : Int))
theorem DigsAt.dig {W : World} {v : Value} {l : List Nat} (h : DigsAt W 16 v l) : DigAt W v l := h
/-- What is left when so many bits have come in from above. -/
def resX (V m : Nat) : Nat := V / 2 ^ m % lF
theorem resX_lt (V m : Nat) : resX V m < lF := Nat.mod_lt _ lF_pos
theorem resX_step (V m : Nat) : (2 * resX V (m + 1) + V / 2 ^ m % 2) % lF = resX V m := rest_step V m
theorem resX_top (V m : Nat) (h : V < 2 ^ m) : resX V m = 0 := by rw [resX, Nat.div_eq_of_lt h, Nat.zero_mod]
theorem resX_end (V : Nat) : resX V 0 = V % lF := by rw [resX, Nat.pow_zero, Nat.div_one]
theorem zeros_nought : zerosF16 = dcl (digN 0) := by
  have : digN 0 = List.replicate 16 0 := by decide +kernel
  rw [this]; rfl
theorem digits_pow (l : List Nat) (n N : Nat) (hN : N = 16 * n) (h : ∀ j, j < n → l.getD j 0 < 65536) : dS l n < 2 ^ N := by
  have := dS_lt l n h
  rw [hN, Nat.pow_mul]
  exact this
theorem bit_i64 (d k : Nat) : bits .and .i64 ((d : Int) / 2 ^ k) 1 = ((d / 2 ^ k % 2 : Nat) : Int) := by
  rw [and_1i]; simp

set_option maxHeartbeats 4000000 in
theorem restRef_any (dv : Value) (l : List Nat) (n : Nat) (w : World) (hn : n ≤ 64) (hl : ∀ j, j < n → l.getD j 0 < 65536) (hv : DigsAt w n dv l) (hn0 : 0 < n) :
    Calls Tryd.prog 21 #[dv] w fun e w' => (∃ d', e = .returned d' ∧ DigAt w' d' (digN (dS l n % lF))) ∧ Below w.heap.size w w' := by
  obtain ⟨Dv, cv, rfl, hcv⟩ := hv
  have HCV := Lib.hid hcv
  have hlv := block_lt_of_cell (hcv 0 hn0)
  have HBit := Lib.hid (fun i k hi hk => dS_bit l n i k hl hi hk)
  have hlt0 := digits_pow l n (16 * n) rfl hl
  obtain ⟨V, hV⟩ : ∃ V, V = dS l n := ⟨_, rfl⟩
  rw [← hV] at HBit hlt0
  have HVV := Lib.hid hV
  have hmk := makeF16
  have hb0 := below_new w (.cells zerosF16 3)
  have HO0 : Hid (DigAt (w.alloc (.cells zerosF16 3)) (.slice (some ⟨w.heap.size, 0, none⟩) 16 16) (digN (resX V (16 * n)))) := Lib.hid (by
    rw [resX_top V _ hlt0]
    exact DigAt.of_block (by rw [← zeros_nought]; exact blk_new w _) (digN_length _))
  have HE := Lib.hid (resX_end V)
  have hw1 : wrap64 ((n : Int) - 1) = (n : Int) - 1 := by unfold wrap64; omega
  clear hcv hl hV hlt0
  go_enter Tryd.func21, Tryd.ntmps21
  go_wp2_with fail
  clear hmk
  generalize (w.alloc (.cells zerosF16 3)) = W0 at *
  go_loopw [3, 4] (fun ov iv wr => ∃ i : Nat, i ≤ n ∧ iv = .int .i64 ((i : Int) - 1) ∧ DigAt wr ov (digN (resX V (16 * i))) ∧ Below w.heap.size w wr) (fun _ iv _ => (intOf iv + 1).toNat)
  case atStart => exact ⟨n, Nat.le_refl _, rfl, HO0.out, hb0⟩
  case round =>
    clear HO0 hb0
    obtain ⟨i, hi, rfl, ho, hb⟩ := hrel
    have HO := Lib.hid ho
    clear ho
    by_cases hi0 : i = 0
    · subst hi0
      have hd : decide ((0 : Int) ≤ ((0 : Nat) : Int) - 1) = false := by decide
      rw [Nat.mul_zero, HE.out] at HO
      go_wp2_with fail
      go_ret
      exact ⟨⟨_, rfl, by rw [← HVV.out]; exact HO.out⟩, hb⟩
    · obtain ⟨t, rfl⟩ : ∃ t, i = t + 1 := ⟨i - 1, by omega⟩
      have hcast : ((t + 1 : Nat) : Int) - 1 = (t : Int) := by omega
      rw [hcast]
      have hd : decide ((0 : Int) ≤ (t : Int)) = true := by simp
      have htn : t < n := by omega
      have HO2 : Hid (DigAt wr _ (digN (resX V (16 * t + 16)))) := Lib.hid (show DigAt wr _ (digN (resX V (16 * (t + 1)))) from HO.out)
      clear HO hcast hi
      go_wp2_with fail
      go_loopw [3, 5] (fun ov kv wr => ∃ k : Nat, k ≤ 16 ∧ kv = .int .i64 ((k : Int) - 1) ∧ DigAt wr ov (digN (resX V (16 * t + k))) ∧ Below w.heap.size w wr) (fun _ kv _ => (intOf kv + 1).toNat)
      case atStart => exact ⟨16, by omega, rfl, HO2.out, hb⟩
      case round =>
        clear HO2 hb
        obtain ⟨k, hk, rfl, ho, hb⟩ := hrel
        have HO := Lib.hid ho
        clear ho
        by_cases hk0 : k = 0
        · subst hk0
          have hdk : decide ((0 : Int) ≤ ((0 : Nat) : Int) - 1) = false := by decide
          have HO3 : Hid (DigAt wr _ (digN (resX V (16 * t)))) := Lib.hid HO.out
          clear HO
          go_wp2_with fail
          go_roundw
          case rel => exact ⟨t, by omega, by go_num, HO3.out, hb⟩
          case measure => simp [intOf] <;> omega
        · obtain ⟨m, rfl⟩ : ∃ m, k = m + 1 := ⟨k - 1, by omega⟩
          have hcast : ((m + 1 : Nat) : Int) - 1 = (m : Int) := by omega
          rw [hcast]
          have hdk : decide ((0 : Int) ≤ (m : Int)) = true := by simp
          have hm16 : m < 16 := by omega
          have c1 := (hb.cell (p := ⟨Dv, t, none⟩) hlv).trans (HCV.out t htn)
          have hbit := HBit.out t m htn hm16
          have hst := resX_step V (16 * t + m)
          rw [← hbit] at hst
          have hx := resX_lt V (16 * t + m + 1)
          have HC := Lib.hid (stepRef_any _ (resX V (16 * t + m + 1)) (l.getD t 0 / 2 ^ m % 2) wr hx (by omega) HO.out)
          rw [hst] at HC
          have hbi := bit_i64 (l.getD t 0) m
          generalize l.getD t 0 = d at *
          have htm : ((m : Int)).toNat = m := by omega
          clear hst hbit hx HO hcast hk
          generalize d / 2 ^ m % 2 = bt at *
          go_wp2_with fail
          refine HC.out.mono ?_
          rintro e W2 ⟨⟨d2, rfl, hd2⟩, hb2⟩
          have HD2 := Lib.hid hd2
          have hb3 : Below w.heap.size w W2 := hb.trans (hb2.mono hb.size)
          clear hd2 hb2 HC c1 hb
          go_wp2_with fail
          go_roundw
          case rel => exact ⟨m, by omega, by go_num, HD2.out, hb3⟩
          case measure => simp [intOf] <;> omega
end Go.Proofs.YtjgpcfjnanideaaDoor
