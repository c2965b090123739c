/- The reference's rest and digits. -/
import Derived.Test.YtbbpgplfdodpmaaPolyDig
namespace Go.Proofs.Ytbbpgplfdodpmaa
open Go.RowKit Go.Sort
set_option maxRecDepth 100000
set_option linter.unusedSimpArgs false
set_option linter.unusedVariables false

set_option maxHeartbeats 2000000 in
theorem rest_any (D : Nat) (v : List Int) (w : World) (hD : w.heap[D]? = some (.cells (ic v) 3)) (hl : v.length = 10) (hv : digitsIn 8191 v) :
    Calls Try.prog 19 #[.slice (some ⟨D, 0, none⟩) 10 10] w fun e w' => ∃ D', e = .returned (.slice (some ⟨D', 0, none⟩) 10 10) ∧ w'.heap[D']? = some (.cells (ic (restL v)) 3) ∧ Below w.heap.size w w' := by
  have HD := Lib.hid hD; have HLv := Lib.hid hl
  have c0 := ic_cell hD 0 (by omega)
  obtain ⟨x0, x1⟩ := getD_in hv 0 (by omega)
  have HG0 : Hid (greatB v 0 = decide (8187 ≤ v.getD 0 0)) := Lib.hid rfl
  have HR : Hid (restL v = if greatB v 9 = true then (List.replicate 10 0).set 0 (v.getD 0 0 - 8187) else v) := Lib.hid rfl
  clear hD hl hv
  generalize v.getD 0 0 = x at *
  go_enter Try.func19, Try.ntmps19
  go_wp2_with fail
  rw [← HG0.out]
  go_loopw [3, 4] (fun gv iv wr => ∃ j : Nat, j ≤ 9 ∧ iv = .int .i64 ((j : Int) + 1) ∧ gv = .bool (greatB v j) ∧ wr = w) (fun _ iv _ => 10 - (intOf iv).toNat)
  case atStart => exact ⟨0, by omega, rfl, rfl, by first | rfl | trivial⟩
  case round =>
    obtain ⟨j, hj, rfl, rfl, rfl⟩ := hrel
    by_cases hj9 : j < 9
    · have hdj : decide ((j : Int) + 1 < 10) = true := by simp; omega
      have cj := ic_cell HD.out (j + 1) (by rw [HLv.out]; omega)
      have HN : Hid (greatB v (j + 1) = (greatB v j && (v.getD (j + 1) 0 == 8191))) := Lib.hid rfl
      generalize v.getD (j + 1) 0 = y at *
      have p0 : (0 : Int) ≤ (j : Int) + 1 := by omega
      have p1 : (j : Int) + 1 < 10 := by omega
      cases hg : greatB v j with
      | true =>
        go_wp2_with fail
        go_roundw
        case rel => exact ⟨j + 1, by omega, by go_num, by rw [HN.out, hg]; simp, by first | rfl | trivial⟩
        case measure => simp [intOf]; omega
      | false =>
        go_wp2_with fail
        go_roundw
        case rel => exact ⟨j + 1, by omega, by go_num, by rw [HN.out, hg]; simp, by first | rfl | trivial⟩
        case measure => simp [intOf]; omega
    · have hdj : decide ((j : Int) + 1 < 10) = false := by simp; omega
      obtain rfl : j = 9 := by omega
      cases hg : greatB v 9 with
      | true =>
        have hmk := make10
        have HRt := Lib.hid (show restL v = (List.replicate 10 0).set 0 (x - 8187) from by rw [HR.out, if_pos hg])
        have r0 := blk_new wr (.cells zeros10 3)
        have cz := ic_cell (v := List.replicate 10 0) r0 0 (by simp)
        have fz := frozen_of_row _ wr.heap.size 0 _ _ r0
        have HR1 := Lib.hid (show (wr.alloc (.cells (zeros10.setIfInBounds 0 (.int .i64 (x - 8187))) 3)).heap[wr.heap.size]? = some (.cells (ic (restL v)) 3) from by rw [zeros10, ic_set, ← HRt.out]; exact blk_new wr _)
        have hB1 := below_new wr (.cells (zeros10.setIfInBounds 0 (.int .i64 (x - 8187))) 3)
        have cc := (below_new wr (.cells zeros10 3)).cell (p := ⟨D, 0, none⟩) (blk_lt HD.out) |>.trans c0
        clear HRt
        go_wp2_with fail
        go_ret
        exact ⟨wr.heap.size, rfl, HR1.out, hB1⟩
      | false =>
        have HRf := Lib.hid (show restL v = v from by rw [HR.out, hg]; simp)
        go_wp2_with fail
        go_ret
        exact ⟨D, rfl, by rw [HRf.out]; exact HD.out, Below.refl _ _⟩

theorem i64_or_nat (a b : Nat) (ha : a < 2 ^ 62) (hb : b < 2 ^ 62) : bits .or .i64 (a : Int) (b : Int) = ((a ||| b : Nat) : Int) := by
  have hx : a ||| b < 2 ^ 62 := Nat.or_lt_two_pow ha hb
  show IntKind.i64.wrap ((BitVec.ofInt 64 (a : Int) ||| BitVec.ofInt 64 (b : Int)).toNat : Int) = _
  have ea : (BitVec.ofInt 64 (a : Int)).toNat = a := by rw [BitVec.toNat_ofInt]; omega
  have eb : (BitVec.ofInt 64 (b : Int)).toNat = b := by rw [BitVec.toNat_ofInt]; omega
  rw [BitVec.toNat_or, ea, eb, IntKind.wrap_i64]
  omega
theorem or_bit (d : Int) (r : Nat) (h0 : 0 ≤ d) (h1 : d < 2 ^ r) (hr : r < 13) : bits .or .i64 d (2 ^ r) = d + 2 ^ r := by
  obtain ⟨n, rfl⟩ : ∃ n : Nat, d = (n : Int) := ⟨d.toNat, by omega⟩
  have h2 : (2 : Nat) ^ r ≤ 2 ^ 12 := Nat.pow_le_pow_right (by omega) (by omega)
  have hn : n < 2 ^ r := by exact_mod_cast h1
  have e : ((2 : Int) ^ r) = ((2 ^ r : Nat) : Int) := by simp
  have h3 := Nat.two_pow_add_eq_or_of_lt hn 1
  rw [e, i64_or_nat n (2 ^ r) (by omega) (by omega), Nat.or_comm]
  rw [Nat.mul_one] at h3
  rw [← h3]; omega
theorem and_one8 (y : Int) (h0 : 0 ≤ y) (h1 : y < 256) : bits .and .u8 y 1 = y % 2 := by go_bits2
set_option maxHeartbeats 2000000 in
theorem digits_any (s : ByteArray) (w : World) (hs : s.size ≤ 17) (hN : leN s.data.toList < 2 ^ 130) :
    Calls Try.prog 16 #[.string s] w fun e w' => ∃ D, e = .returned (.slice (some ⟨D, 0, none⟩) 10 10) ∧ w.heap.size ≤ D ∧ w'.heap[D]? = some (.cells (ic (digL (leN s.data.toList))) 3) ∧ Below w.heap.size w w' := by
  have hmk := make10
  have HL := Lib.hid (leN_lt s.data.toList)
  have HO := Lib.hid (show (w.alloc (.cells zeros10 3)).heap[w.heap.size]? = some (.cells (ic (digL (leN s.data.toList % 2 ^ (8 * 0)))) 3) from by rw [Nat.mul_zero, Nat.pow_zero, Nat.mod_one, digL_zero]; exact blk_new w _)
  have hB0 := below_new w (.cells zeros10 3)
  have HBit := Lib.hid (fun (i k : Nat) (hi : i < s.size) (hk : k < 8) => (leN_bit s.data.toList i k (by rw [← Lib.size_eq]; exact hi) hk).trans (show _ = s[i].toNat / 2 ^ k % 2 from rfl))
  have HNb := Lib.hid hN
  have HSz := Lib.hid (Lib.size_eq s)
  clear hN
  generalize hN : leN s.data.toList = N at *
  clear hN
  go_enter Try.func16, Try.ntmps16
  go_wp2_with fail
  clear hmk
  generalize (w.alloc (.cells zeros10 3)) = W0 at *
  generalize hBB : w.heap.size = O at *
  have HBB := Lib.hid hBB
  clear hBB
  go_loopw [4] (fun iv wr => ∃ i : Nat, i ≤ s.size ∧ iv = .int .i64 i ∧ wr.heap[O]? = some (.cells (ic (digL (N % 2 ^ (8 * i)))) 3) ∧ Below O w wr) (fun iv _ => s.size - (intOf iv).toNat)
  case atStart => exact ⟨0, by omega, rfl, HO.out, hB0⟩
  case round =>
    clear HO hB0
    obtain ⟨i, hi, rfl, ho, hb⟩ := hrel
    have HO := Lib.hid ho
    clear ho
    by_cases hlt : i < s.size
    · have hdi : (i : Int) < (s.size : Int) := by omega
      go_wp2_with fail
      go_loopw [5] (fun kv wr => ∃ k : Nat, k ≤ 8 ∧ kv = .int .i64 k ∧ wr.heap[O]? = some (.cells (ic (digL (N % 2 ^ (8 * i + k)))) 3) ∧ Below O w wr) (fun kv _ => 8 - (intOf kv).toNat)
      case atStart => exact ⟨0, by omega, rfl, HO.out, hb⟩
      case round =>
        clear HO hb
        obtain ⟨k, hk, rfl, ho, hb⟩ := hrel
        have HO := Lib.hid ho
        clear ho
        by_cases hk8 : k < 8
        · have hdk : decide ((k : Int) < 8) = true := by simp; omega
          have hbit := HBit.out i k hlt hk8
          have hsuc := mod_succ_bit N (8 * i + k)
          have hsb := UInt8.toNat_lt s[i]
          have hy : s[i].toNat / 2 ^ k < 256 := Nat.lt_of_le_of_lt (Nat.div_le_self _ _) hsb
          have hyz : (s[i].toNat : Int) / 2 ^ k = ((s[i].toNat / 2 ^ k : Nat) : Int) := by simp
          have ha := and_one8 ((s[i].toNat : Int) / 2 ^ k) (by rw [hyz]; exact Int.natCast_nonneg _) (by rw [hyz]; exact_mod_cast hy)
          rw [hbit] at hsuc
          rw [hyz] at ha
          by_cases hq : s[i].toNat / 2 ^ k % 2 = 1
          · have hd1 : (bits .and .u8 ((s[i].toNat : Int) / 2 ^ k) 1 == 1) = true := by
              rw [hyz, ha]; have : ((s[i].toNat / 2 ^ k : Nat) : Int) % 2 = 1 := by exact_mod_cast hq
              rw [this]; rfl
            rw [hq, Nat.mul_one] at hsuc
            have hn : 8 * i + k < 130 := by
              rcases Nat.lt_or_ge (8 * i + k) 130 with h | h
              · exact h
              · exfalso
                have h1 : 2 ^ 130 ≤ 2 ^ (8 * i + k) := Nat.pow_le_pow_right (by omega) h
                have h2 : N / 2 ^ (8 * i + k) = 0 := Nat.div_eq_of_lt (Nat.lt_of_lt_of_le HNb.out h1)
                rw [h2] at hbit; omega
            obtain ⟨a1, a2⟩ := digL_add (N % 2 ^ (8 * i + k)) (8 * i + k) (Nat.mod_lt _ (Nat.pow_pos (by omega))) hn
            rw [← hsuc] at a1
            obtain ⟨t, ht⟩ : ∃ t, (8 * i + k) / 13 = t := ⟨_, rfl⟩
            obtain ⟨r, hr⟩ : ∃ r, (8 * i + k) % 13 = r := ⟨_, rfl⟩
            have ht10 : t < 10 := by omega
            have hr13 : r < 13 := by omega
            have htz : (8 * (i : Int) + (k : Int)) / 13 = (t : Int) := by omega
            have hrz : (8 * (i : Int) + (k : Int)) % 13 = (r : Int) := by omega
            rw [ht, hr] at a1 a2
            obtain ⟨d0, d1⟩ := getD_in (digL_in (N % 2 ^ (8 * i + k))) t (by rw [digL_length]; exact ht10)
            have cd := ic_cell HO.out t (by rw [digL_length]; exact ht10)
            generalize (digL (N % 2 ^ (8 * i + k))).getD t 0 = d at *
            have hor := or_bit d r d0 a2 hr13
            have h2r : (2 : Int) ^ r ≤ 4096 := by
              have : (2 : Nat) ^ r ≤ 2 ^ 12 := Nat.pow_le_pow_right (by omega) (by omega)
              exact_mod_cast this
            have h2p : (0 : Int) < 2 ^ r := Int.pow_pos (by omega)
            have HA1 := Lib.hid a1
            have hik : (8 * (i : Int) + (k : Int)) < 130 := by omega
            clear hsuc hbit hq a1 ha hyz hy hsb a2
            go_wp2_with fail
            have hn0 : (0 : Int) ≤ 8 * (i : Int) + (k : Int) := by omega
            generalize hnn : 8 * (i : Int) + (k : Int) = nn at *
            have e39 : IntKind.i64.wrap (1 * 2 ^ r) = 2 ^ r := by rw [Int.one_mul]; exact IntWalk.i64_in _ (by omega)
            have kd := cell_regrown cd
            refine wp_region_reads_tail 13 (by kernel_rfl) (by kernel_rfl) ?_
            simp only [List.take_succ_cons, List.take_zero, List.drop_succ_cons, List.drop_zero]
            repeat (first | go_big_quiet_step (fail) | quiet_step (fail))
            refine wpQuiet_nil ?_
            intro W1 hb1
            have hO1 := blk_below hb1 (blk_lt HO.out) HO.out
            have hbl1 : Below O w W1 := hb.trans (hb1.mono (Nat.le_of_lt (blk_lt HO.out)))
            have cz := ic_cell hO1 t (by rw [digL_length]; exact ht10)
            have fz := frozen_of_row W1 O t _ _ hO1
            have s1 := heap_setCell_same W1 O t _ _ (.int .i64 (d + 2 ^ r)) hO1
            rw [ic_set, ← HA1.out] at s1
            have HS1 := Lib.hid s1
            have hbl2 : Below O w (W1.setCell ⟨O, t, none⟩ (.int .i64 (d + 2 ^ r))) := hbl1.setCell (Nat.le_refl _) _
            clear s1 kd cd hb1 hO1 hb
            go_wp2_with fail
            go_roundw
            case rel => exact ⟨k + 1, by omega, by go_num, HS1.out, hbl2⟩
            case measure => simp [intOf]; omega
          · have hq0 : s[i].toNat / 2 ^ k % 2 = 0 := by omega
            have hd1 : (bits .and .u8 ((s[i].toNat : Int) / 2 ^ k) 1 == 1) = false := by
              rw [hyz, ha]; have : ((s[i].toNat / 2 ^ k : Nat) : Int) % 2 = 0 := by exact_mod_cast hq0
              rw [this]; rfl
            rw [hq0, Nat.mul_zero, Nat.add_zero] at hsuc
            have HSu := Lib.hid (show N % 2 ^ (8 * i + (k + 1)) = N % 2 ^ (8 * i + k) from hsuc)
            clear hsuc hbit hq hq0 ha hyz hy hsb
            go_wp2_with fail
            go_roundw
            case rel => exact ⟨k + 1, by omega, by go_num, by rw [HSu.out]; exact HO.out, hb⟩
            case measure => simp [intOf]; omega
        · have hdk : decide ((k : Int) < 8) = false := by simp; omega
          obtain rfl : k = 8 := by omega
          rw [show 8 * i + 8 = 8 * (i + 1) by omega] at HO
          go_wp2_with fail
          go_roundw
          case rel => exact ⟨i + 1, by omega, by go_num, HO.out, hb⟩
          case measure => simp [intOf]; omega
    · have hdi : ¬ (i : Int) < (s.size : Int) := by omega
      obtain rfl : i = s.size := by omega
      have HE := Lib.hid (show N % 2 ^ (8 * s.size) = N from Nat.mod_eq_of_lt (by have := HL.out; rw [← HSz.out] at this; rwa [Nat.pow_mul]))
      rw [HE.out] at HO
      go_wp2_with fail
      go_ret
      exact ⟨O, rfl, by rw [HBB.out]; exact Nat.le_refl _, HO.out, by rw [HBB.out]; exact hb⟩
end Go.Proofs.Ytbbpgplfdodpmaa
