/- The reference's small numbers. -/
import Derived.Test.YtfidcdkoggfjaaaDoorFrBelow
import Derived.Test.YtfidcdkoggfjaaaDoorFrAdd
namespace Go.Proofs.YtfidcdkoggfjaaaDoor
open Go.RowKit Go.Sort
set_option maxRecDepth 100000
set_option linter.unusedSimpArgs false
set_option linter.unusedVariables false

theorem and_16i (y : Int) : bits .and .i64 y 65535 = y % 65536 := by
  have h16 : (BitVec.ofInt 64 65535).toNat = 2 ^ 16 - 1 := by decide
  have key : (BitVec.ofInt 64 y &&& BitVec.ofInt 64 65535).toNat = (y % ((2 ^ 64 : Nat) : Int)).toNat % 2 ^ 16 := by
    rw [BitVec.toNat_and, BitVec.toNat_ofInt, h16, Nat.and_two_pow_sub_one_eq_mod]
  show IntKind.i64.wrap ((BitVec.ofInt 64 y &&& BitVec.ofInt 64 65535).toNat : Nat) = _
  rw [key, IntKind.wrap_i64]
  omega
theorem small_part (n : Nat) (h : n < 9223372036854775808) : partD (fun j => n / 65536 ^ j % 65536) 4 = digN n := nums_ext (partD_length ..) (digN_length _) fun i hi => by
  rw [partD_get _ _ _ hi, digN_get _ _ hi]
  split
  · rfl
  · have h4 : (65536 : Nat) ^ 4 ≤ 65536 ^ i := Nat.pow_le_pow_right (by decide) (by omega)
    rw [Nat.div_eq_of_lt (by have : (65536 : Nat) ^ 4 = 18446744073709551616 := by decide
                             omega)]

set_option maxHeartbeats 2000000 in
theorem smallRefPos_any (n : Nat) (w : World) (h : n < 9223372036854775808) :
    Calls Tryd.prog 20 #[.int .i64 (n : Int)] w fun e w' => (∃ d', e = .returned d' ∧ DigAt w' d' (digN n)) ∧ Below w.heap.size w w' := by
  have hd : decide ((n : Int) < 0) = false := by simp
  have HZ := Lib.hid (zero_any w)
  obtain ⟨f, hf⟩ : ∃ f : Nat → Nat, f = fun j => n / 65536 ^ j % 65536 := ⟨_, rfl⟩
  have HP := Lib.hid (small_part n h)
  rw [← hf] at HP
  have HF := Lib.hid (fun i (hi : i < 4) => (show bits .and .i64 ((n : Int) / 2 ^ (16 * i)) 65535 = ((f i : Nat) : Int) by
    have e : (n : Int) / 2 ^ (16 * i) = ((n / 65536 ^ i : Nat) : Int) := by
      rw [show (65536 : Nat) ^ i = 2 ^ (16 * i) by rw [Nat.pow_mul]]
      simp
    rw [and_16i, e, hf]
    simp))
  have HO := Lib.hid (show (w.alloc (.cells zeros16 3)).heap[w.heap.size]? = some (.cells (dcl (partD f 0)) 3) from blk_new w _)
  have hB0 := below_new w (.cells zeros16 3)
  clear hf
  go_enter Tryd.func20, Tryd.ntmps20
  go_wp2_with fail
  refine HZ.out.mono ?_
  rintro e W1 ⟨rfl, rfl⟩
  go_wp2_with fail
  clear HZ hd
  generalize (w.alloc (.cells zeros16 3)) = W0 at *
  generalize hBB : w.heap.size = O at *
  have HBB := Lib.hid hBB
  clear hBB
  go_loopw [10] (fun iv wr => ∃ i : Nat, i ≤ 4 ∧ iv = .int .i64 (i : Int) ∧ wr.heap[O]? = some (.cells (dcl (partD f i)) 3) ∧ Below O w wr) (fun iv _ => 4 - (intOf iv).toNat)
  case atStart => exact ⟨0, by omega, rfl, HO.out, hB0⟩
  case round =>
    clear HO hB0
    obtain ⟨i, hi, rfl, ho, hb⟩ := hrel
    have HO := Lib.hid ho
    clear ho
    by_cases hlt : i < 4
    · have hd : decide ((i : Int) < 4) = true := by simp; omega
      have HS := Lib.hid (partD_set f i (by omega))
      have hpl := partD_length f i
      have hv := HF.out i hlt
      have cx := dcl_cell HO.out i (by omega)
      have fx := frozen_of_row wr O i _ _ HO.out
      have r1 := dcl_set HO.out i (f i)
      rw [HS.out] at r1
      have HO1 := Lib.hid r1
      have hb1 : Below O w (wr.setCell ⟨O, i, none⟩ (.int .i64 ((f i : Nat) : Int))) := hb.setCell (by simp) _
      have h16 : (16 * (i : Int)).toNat = 16 * i := by omega
      clear r1 hb HS
      generalize (partD f i).getD i 0 = old at *
      generalize hfi : f i = v at *
      clear hfi
      go_wp2_with fail
      go_roundw
      case rel => exact ⟨i + 1, by omega, by go_num, HO1.out, hb1⟩
      case measure => simp [intOf]; omega
    · have hd : decide ((i : Int) < 4) = false := by simp; omega
      obtain rfl : i = 4 := by omega
      rw [HP.out] at HO
      go_wp2_with fail
      go_ret
      exact ⟨⟨_, rfl, DigAt.of_block HO.out (digN_length _)⟩, by rw [HBB.out]; exact hb⟩

set_option maxHeartbeats 4000000 in
theorem smallRefNeg_any (n : Int) (w : World) (h0 : n < 0) (h : -9223372036854775808 ≤ n) :
    Calls Tryd.prog 20 #[.int .i64 n] w fun e w' => (∃ d', e = .returned d' ∧ DigAt w' d' (digN (smallF n))) ∧ Below w.heap.size w w' := by
  have hd : decide (n < 0) = true := by simpa using h0
  have HZ := Lib.hid (zero_any w)
  obtain ⟨f, hf⟩ : ∃ f : Nat → Nat, f = fun j => (pF + negE n) / 65536 ^ j % 65536 := ⟨_, rfl⟩
  have HR := Lib.hid (small_neg_ref n h0 h)
  rw [← hf] at HR
  have HBd : Hid (belowD (digN (smallF n)) = digN (smallF n)) := Lib.hid (by
    rw [belowD_spec _ (digN_length _) (digN_lt _), digN_val _ (Nat.lt_trans (smallF_lt n) (by decide)), Nat.mod_eq_of_lt (smallF_lt n)])
  have HST := Lib.hid (fun i (hi : i < 16) => (show ((digN pF).getD i 0 + negE n / 65536 ^ i % 65536 + cyF pF (negE n) i) % 65536 = f i ∧ ((digN pF).getD i 0 + negE n / 65536 ^ i % 65536 + cyF pF (negE n) i) / 65536 = cyF pF (negE n) (i + 1) ∧ (digN pF).getD i 0 < 65536 ∧ negE n / 65536 ^ i % 65536 < 65536 ∧ ((negE n / 65536 ^ i % 65536 : Nat) : Int) = if i > 3 then 65535 else n / 65536 ^ i % 65536 by
    obtain ⟨s1, s2⟩ := cyF_step pF (negE n) i
    have s3 := digN_lt pF i hi
    rw [digN_get _ _ hi] at s3 ⊢
    exact ⟨by rw [hf]; exact s1, s2, s3, Nat.mod_lt _ (by decide), negE_digit n h0 h i hi⟩))
  have HM := Lib.hid (fun i : Nat => (show n / 65536 ^ i / 65536 = n / 65536 ^ (i + 1) ∧ -9223372036854775808 ≤ n / 65536 ^ i ∧ n / 65536 ^ i < 0 by
    have hp : (0 : Int) < 65536 ^ i := Int.pow_pos (by decide)
    refine ⟨by rw [Int.ediv_ediv_of_nonneg (Int.le_of_lt hp), Int.pow_succ], ?_, Int.ediv_neg_of_neg_of_pos h0 hp⟩
    have h1 : (1 : Int) ≤ 65536 ^ i := hp
    have h2 : -9223372036854775808 * (65536 : Int) ^ i ≤ n := by
      have : -9223372036854775808 * (65536 : Int) ^ i ≤ -9223372036854775808 * 1 := Int.mul_le_mul_of_nonpos_left (by decide) h1
      omega
    exact (Int.le_ediv_iff_mul_le hp).2 h2))
  have HC := Lib.hid (fun i : Nat => (show cyF pF (negE n) i ≤ 1 by
    have hp : 0 < 65536 ^ i := Nat.pow_pos (by decide)
    have h1 := Nat.mod_lt pF hp; have h2 := Nat.mod_lt (negE n) hp
    have : cyF pF (negE n) i < 2 := Nat.div_lt_of_lt_mul (by omega)
    omega))
  have hc0 := cyF_zero pF (negE n)
  have HC0 := Lib.hid hc0
  have HO := Lib.hid (show (w.alloc (.cells zeros16 3)).heap[w.heap.size]? = some (.cells (dcl (partD f 0)) 3) from blk_new w _)
  have hB0 := below_new w (.cells zeros16 3)
  clear hf hc0
  go_enter Tryd.func20, Tryd.ntmps20
  go_wp2_with fail
  refine HZ.out.mono ?_
  rintro e W1 ⟨rfl, rfl⟩
  go_wp2_with fail
  clear HZ hd
  have hsz0 : (w.alloc (.cells zeros16 3)).heap.size = w.heap.size + 1 := by simp
  generalize (w.alloc (.cells zeros16 3)) = Wz at *
  refine (modulus_any Wz).mono ?_
  rintro e W0 ⟨rfl, hM, hbM⟩
  have HMo := Lib.hid hM
  have HO := Lib.hid (blk_below hbM (blk_lt HO.out) HO.out)
  have hB0 := hB0.trans (hbM.mono (by omega))
  clear hM hbM
  rw [hsz0] at HMo ⊢
  go_wp2_with fail
  clear hsz0
  generalize hBB : w.heap.size = O at *
  have HBB := Lib.hid hBB
  clear hBB
  generalize cyF pF (negE n) = cy at *
  generalize negE n = E at *
  go_loopw [4, 5, 7] (fun mv bv iv wr => ∃ i : Nat, i ≤ 16 ∧ iv = .int .i64 (i : Int) ∧ mv = .int .i64 (n / 65536 ^ i) ∧ bv = .int .i64 ((cy i : Nat) : Int) ∧ wr.heap[O]? = some (.cells (dcl (partD f i)) 3) ∧ wr.heap[O + 1]? = some (.cells (dcl (digN pF)) 3) ∧ Below O w wr) (fun _ _ iv _ => 16 - (intOf iv).toNat)
  case atStart => exact ⟨0, by omega, rfl, by simp, by rw [HC0.out]; rfl, HO.out, HMo.out, hB0⟩
  case round =>
    clear HO HMo hB0
    obtain ⟨i, hi, rfl, rfl, rfl, ho, hmo, hb⟩ := hrel
    have HO := Lib.hid ho; have HMo := Lib.hid hmo
    clear ho hmo
    by_cases hlt : i < 16
    · have hd : decide ((i : Int) < 16) = true := by simp; omega
      obtain ⟨s1, s2, s3, s4, s5⟩ := HST.out i hlt
      obtain ⟨m1, m2, m3⟩ := HM.out i
      have c1 := HC.out i
      have HS := Lib.hid (partD_set f i hlt)
      have hpl := partD_length f i
      have cx := dcl_cell HO.out i (by omega)
      have cp := dcl_cell HMo.out i (by rw [digN_length]; exact hlt)
      have fx := frozen_of_row wr O i _ _ HO.out
      have r1 := dcl_set HO.out i (f i)
      rw [HS.out] at r1
      have HO1 := Lib.hid r1
      have HM1 := Lib.hid (show (wr.setCell ⟨O, i, none⟩ (.int .i64 ((f i : Nat) : Int))).heap[O + 1]? = some (.cells (dcl (digN pF)) 3) from by rw [heap_setCell_other _ _ _ _ (by simp)]; exact HMo.out)
      have hb1 : Below O w (wr.setCell ⟨O, i, none⟩ (.int .i64 ((f i : Nat) : Int))) := hb.setCell (by simp) _
      clear r1 hb HS HMo
      generalize (partD f i).getD i 0 = old at *
      generalize hfi : f i = v at *
      generalize (digN pF).getD i 0 = p at *
      generalize E / 65536 ^ i % 65536 = e at *
      generalize hcc : cy (i + 1) = c' at *
      have HCC := Lib.hid hcc
      generalize cy i = c at *
      have HMM := Lib.hid m1
      generalize hMn : n / 65536 ^ (i + 1) = M' at *
      have HMN := Lib.hid hMn
      clear hMn
      generalize n / 65536 ^ i = M at *
      have hx : ((p : Int) + (e : Int) + (c : Int)) = ((p + e + c : Nat) : Int) := by omega
      have a1 : bits .and .i64 ((p : Int) + (e : Int) + (c : Int)) 65535 = (v : Int) := by rw [and_16i]; omega
      have a2 : ((p : Int) + (e : Int) + (c : Int)) / 65536 = (c' : Int) := by omega
      have HV := Lib.hid a2
      have aM := and_16i M
      clear hfi hcc s1 s2 hx
      by_cases h3 : i > 3
      · rw [if_pos h3] at s5
        have hd3 : decide ((3 : Int) < (i : Int)) = true := by simp; omega
        rw [s5] at a1 HV
        clear a2 s5 h3
        go_wp2_with fail
        go_roundw
        case rel => exact ⟨i + 1, by omega, by go_num, by rw [HMN.out], by rw [HCC.out, HV.out], HO1.out, HM1.out, hb1⟩
        case measure => simp [intOf]; omega
      · rw [if_neg h3] at s5
        have hd3 : decide ((3 : Int) < (i : Int)) = false := by simp; omega
        rw [s5] at a1 HV
        clear a2 s5 h3
        go_wp2_with fail
        go_roundw
        case rel => exact ⟨i + 1, by omega, by go_num, by rw [HMN.out], by rw [HCC.out, HV.out], HO1.out, HM1.out, hb1⟩
        case measure => simp [intOf]; omega
    · have hd : decide ((i : Int) < 16) = false := by simp; omega
      obtain rfl : i = 16 := by omega
      rw [partD_full f, HR.out] at HO
      have hdg : DigAt wr (.slice (some ⟨O, 0, none⟩) 16 16) (digN (smallF n)) := DigAt.of_block HO.out (digN_length _)
      have HBl := Lib.hid (belowRef_any _ _ wr hdg (digN_length _) (digN_lt _))
      rw [HBd.out] at HBl
      have hsO : O ≤ wr.heap.size := Nat.le_of_lt (blk_lt HO.out)
      clear hdg
      go_wp2_with fail
      refine HBl.out.mono ?_
      rintro e W3 ⟨⟨d', rfl, hd3⟩, hb3⟩
      have HD3 := Lib.hid hd3
      have hb4 : Below O w W3 := hb.trans (hb3.mono hsO)
      clear hd3 hb3 HBl
      go_wp2_with fail
      go_ret
      exact ⟨⟨_, rfl, HD3.out⟩, by rw [HBB.out]; exact hb4⟩

theorem smallRef_any (n : Int) (w : World) (h0 : -9223372036854775808 ≤ n) (h1 : n < 9223372036854775808) :
    Calls Tryd.prog 20 #[.int .i64 n] w fun e w' => (∃ d', e = .returned d' ∧ DigAt w' d' (digN (smallF n))) ∧ Below w.heap.size w w' := by
  by_cases h : n < 0
  · exact smallRefNeg_any n w h h0
  · obtain ⟨m, rfl⟩ : ∃ m : Nat, n = (m : Int) := ⟨n.toNat, by omega⟩
    rw [smallF_pos m (by omega)]
    exact smallRefPos_any m w (by omega)
end Go.Proofs.YtfidcdkoggfjaaaDoor
