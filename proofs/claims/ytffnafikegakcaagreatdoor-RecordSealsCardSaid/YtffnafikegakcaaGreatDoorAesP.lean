/- The program's small functions on words of eight bytes; The program's columns: upward, mixture, load, store, column; The program's states: stateOf, plus, swapped, shifted, mixed; The program's states: swapped, shifted, mixed; The program's states: mixed, and the next round's key; The program's round keys; The program's block, encrypted; The program's Blocks, Block and Keys; From the row's condition on the table of squares to what the walks ask. -/
import Derived.Test.YtffnafikegakcaaGreatDoorAesA
import Derived.Test.YtffnafikegakcaaGreatDoorBase
import Derived.BigQuiet
import Derived.Test.YtffnafikegakcaaGreatDoorRows
import Derived.ProofKit
import Derived.LaidMore
import Derived.OpenShut
import Derived.Stop.Joined
import Derived.Lib.LaidTab
namespace Go.Proofs.YtffnafikegakcaaGreatDoor
section
open Go.RowKit Go.Sort
set_option maxRecDepth 100000
set_option linter.unusedSimpArgs false
set_option linter.unusedVariables false

/-- The variable holds the table. -/
def TabQ (w : World) : Prop := ∀ t, t < 8 → w.cell? ⟨3, t, none⟩ = some (.int .u64 ((sqT.getD t 0 : Nat) : Int))
theorem TabQ.lt {w : World} (h : TabQ w) : 3 < w.heap.size := block_lt_of_cell (h 0 (by omega))
theorem TabQ.below {w w' : World} {B : Nat} (h : TabQ w) (hb : Below B w w') (hB : 3 < B) : TabQ w' := fun t ht => (hb.cell hB).trans (h t ht)
theorem TabQ.step {w w' : World} (h : TabQ w) (hb : Below w.heap.size w w') : TabQ w' := h.below hb h.lt

theorem dbl_walk (a : Nat) (ha : a < 18446744073709551616) : bits .xor .u64 (IntKind.u64.wrap (bits .andNot .u64 (a : Int) 9259542123273814144 * 2)) (IntKind.u64.wrap (bits .and .u64 ((a : Int) / 128) 72340172838076673 * 27)) = ((dblW a : Nat) : Int) := by
  rw [IntKind.wrap_u64, IntKind.wrap_u64]
  have e1 := u64_andNot_nat a 9259542123273814144 ha (by decide)
  have e2 := u64_and_nat (a >>> 7) lowm (by rw [Nat.shiftRight_eq_div_pow]; omega) (by decide)
  rw [show (((a >>> 7 : Nat) : Nat) : Int) = (a : Int) / 128 from by rw [Nat.shiftRight_eq_div_pow]; simp] at e2
  rw [show ((9259542123273814144 : Nat) : Int) = 9259542123273814144 from rfl] at e1
  rw [show ((lowm : Nat) : Int) = 72340172838076673 from rfl] at e2
  rw [e1, e2]
  have l2 := low_mul_lt (a >>> 7) 27 (by decide)
  have e3 := u64_xor_nat ((a &&& 9187201950435737471) * 2 % 18446744073709551616) (((a >>> 7) &&& lowm) * 27) (Nat.mod_lt _ (by decide)) l2
  rw [dblW, ← e3]
  congr 1
  rw [Int.emod_eq_of_lt (by omega) (by omega)]
  simp

theorem doubled_any (a : Nat) (w : World) (ha : a < 18446744073709551616) :
    Calls Tryz.prog 150 #[.int .u64 (a : Int)] w fun e w' => e = .returned (.int .u64 ((dblW a : Nat) : Int)) ∧ w = w' := by
  have H := Lib.hid (dbl_walk a ha)
  go_enter Tryz.func150, Tryz.ntmps150
  go_wp2
  go_ret
  exact ⟨by rw [← H.out]; rfl, rfl⟩

theorem mul_walk (o x b : Nat) (ho : o < 18446744073709551616) (hx : x < 18446744073709551616) (hb : b < 18446744073709551616) : bits .xor .u64 (o : Int) (bits .and .u64 (x : Int) (IntKind.u64.wrap (bits .and .u64 (b : Int) 72340172838076673 * 255))) = ((o ^^^ (x &&& (b &&& lowm) * 255) : Nat) : Int) := by
  rw [IntKind.wrap_u64]
  have e2 := u64_and_nat b lowm hb (by decide)
  rw [show ((lowm : Nat) : Int) = 72340172838076673 from rfl] at e2
  have l2 := low_mul_lt b 255 (by decide)
  rw [e2, show (((b &&& lowm : Nat) : Int) * 255 % 18446744073709551616) = (((b &&& lowm) * 255 : Nat) : Int) from by rw [Int.emod_eq_of_lt (by omega) (by omega)]; simp, u64_and_nat x _ hx l2, u64_xor_nat o _ ho (and_lt64 l2)]

set_option maxHeartbeats 1000000 in
theorem lanesTimes_any (a b : Nat) (w : World) (ha : a < 18446744073709551616) (hb : b < 18446744073709551616) :
    Calls Tryz.prog 169 #[.int .u64 (a : Int), .int .u64 (b : Int)] w fun e w' => e = .returned (.int .u64 ((mulW a b : Nat) : Int)) ∧ w = w' := by
  go_enter Tryz.func169, Tryz.ntmps169
  go_wp2_with fail
  go_loopw [0, 1, 5, 6] (fun av bv ov i wr => ∃ k : Nat, k ≤ 8 ∧ i = .int .i64 (k : Int) ∧ av = .int .u64 (((mulS a b k).2 : Nat) : Int) ∧ bv = .int .u64 ((b >>> k : Nat) : Int) ∧ ov = .int .u64 (((mulS a b k).1 : Nat) : Int) ∧ w = wr) (fun _ _ _ i _ => 8 - (intOf i).toNat)
  case atStart => exact ⟨0, by omega, rfl, rfl, rfl, rfl, rfl⟩
  case round =>
    obtain ⟨k, hk, rfl, rfl, rfl, rfl, rfl⟩ := hrel
    by_cases hlt : k < 8
    · have hd : decide ((k : Int) < 8) = true := by simp; omega
      obtain ⟨l1, l2⟩ := mulS_lt a b ha k
      have lb : b >>> k < 18446744073709551616 := by rw [Nat.shiftRight_eq_div_pow]; exact Nat.lt_of_le_of_lt (Nat.div_le_self _ _) hb
      have HW := Lib.hid (mul_walk (mulS a b k).1 (mulS a b k).2 (b >>> k) l1 l2 lb)
      have HS1 : Hid ((mulS a b (k + 1)).1 = (mulS a b k).1 ^^^ ((mulS a b k).2 &&& ((b >>> k) &&& lowm) * 255)) := Lib.hid rfl
      have HS2 : Hid ((mulS a b (k + 1)).2 = dblW (mulS a b k).2) := Lib.hid rfl
      have HS3 : Hid (((b >>> k : Nat) : Int) / 2 = ((b >>> (k + 1) : Nat) : Int)) := Lib.hid (by rw [Nat.shiftRight_succ]; simp)
      have HD := Lib.hid (fun W => doubled_any (mulS a b k).2 W l2)
      generalize (mulS a b k).1 = o at *
      generalize (mulS a b k).2 = x at *
      generalize hbb : b >>> k = bb at *
      have HB := Lib.hid hbb
      clear hbb
      go_wp2_with fail
      refine (HD.out w).mono ?_
      rintro e W1 ⟨rfl, rfl⟩
      go_wp2_with fail
      go_roundw
      case rel => exact ⟨k + 1, by omega, by go_num, by rw [HS2.out], by rw [← HS3.out], by rw [HS1.out, ← HW.out], trivial⟩
      case measure => simp [intOf]; omega
    · have hd : decide ((k : Int) < 8) = false := by simp; omega
      obtain rfl : k = 8 := by omega
      have hr : (mulS a b 8).1 = mulW a b := rfl
      rw [hr]
      go_wp2_with fail
      go_ret
      exact ⟨rfl, rfl⟩

theorem sq_walk (o b c : Nat) (ho : o < 18446744073709551616) (hb : b < 18446744073709551616) (hc : c < 256) : bits .xor .u64 (o : Int) (IntKind.u64.wrap (bits .and .u64 (b : Int) 72340172838076673 * (c : Int))) = ((o ^^^ (b &&& lowm) * c : Nat) : Int) := by
  rw [IntKind.wrap_u64]
  have e2 := u64_and_nat b lowm hb (by decide)
  rw [show ((lowm : Nat) : Int) = 72340172838076673 from rfl] at e2
  have l2 := low_mul_lt b c hc
  rw [e2, show (((b &&& lowm : Nat) : Int) * (c : Int) % 18446744073709551616) = (((b &&& lowm) * c : Nat) : Int) from by rw [Int.emod_eq_of_lt (by rw [← Int.natCast_mul]; omega) (by rw [← Int.natCast_mul]; omega)]; simp, u64_xor_nat o _ ho l2]

set_option maxHeartbeats 1000000 in
theorem squared_any (a n : Nat) (w : World) (ha : a < 18446744073709551616) (hn : n < 1000) (hT : TabQ w) :
    Calls Tryz.prog 168 #[.int .u64 (a : Int), .int .i64 (n : Int)] w fun e w' => e = .returned (.int .u64 ((sqN a n : Nat) : Int)) ∧ Below w.heap.size w w' := by
  have HT := Lib.hid hT
  clear hT
  go_enter Tryz.func168, Tryz.ntmps168
  go_wp2_with fail
  go_loopw [0, 8] (fun av i wr => ∃ k : Nat, k ≤ n ∧ i = .int .i64 (k : Int) ∧ av = .int .u64 ((sqN a k : Nat) : Int) ∧ Below w.heap.size w wr) (fun _ i _ => n - (intOf i).toNat)
  case atStart => exact ⟨0, by omega, rfl, rfl, Below.refl _ _⟩
  case round =>
    obtain ⟨k, hk, rfl, rfl, hb⟩ := hrel
    have HTr := Lib.hid (HT.out.step hb)
    by_cases hlt : k < n
    · have hd : decide ((k : Int) < (n : Int)) = true := by simp; omega
      have la := sqN_lt a ha k
      have HX : Hid (sqN a (k + 1) = sqS (sqN a k) 8) := Lib.hid rfl
      generalize sqN a k = x at *
      go_wp2_with fail
      go_loopw [5, 10] (fun ov i ws => ∃ j : Nat, j ≤ 8 ∧ i = .int .i64 (j : Int) ∧ ov = .int .u64 ((sqS x j : Nat) : Int) ∧ Below w.heap.size w ws ∧ TabQ ws) (fun _ i _ => 8 - (intOf i).toNat)
      case atStart => exact ⟨0, by omega, rfl, rfl, hb, HTr.out⟩
      case round =>
        clear hb HTr
        obtain ⟨j, hj, rfl, rfl, hb, hTr⟩ := hrel
        have HTr := Lib.hid hTr
        clear hTr
        by_cases hlj : j < 8
        · have hd2 : decide ((j : Int) < 8) = true := by simp; omega
          have lo := sqS_lt x j
          have lb : x >>> j < 18446744073709551616 := by rw [Nat.shiftRight_eq_div_pow]; exact Nat.lt_of_le_of_lt (Nat.div_le_self _ _) la
          have HW := Lib.hid (sq_walk (sqS x j) (x >>> j) (sqT.getD j 0) lo lb (sqT_lt j))
          have HN : Hid (sqS x (j + 1) = sqS x j ^^^ ((x >>> j) &&& lowm) * sqT.getD j 0) := Lib.hid rfl
          have hc := HTr.out j hlj
          have HE := Lib.hid (show ((x >>> j : Nat) : Int) = (x : Int) / 2 ^ j from by rw [Nat.shiftRight_eq_div_pow]; simp)
          generalize sqS x j = o at *
          generalize sqT.getD j 0 = c at *
          go_wp2_with fail
          go_quiet (fail)
          go_wp2_with fail
          go_roundw
          case rel => exact ⟨j + 1, by omega, by go_num, by rw [HN.out, ← HW.out, HE.out], below_drewN hb _, HTr.out⟩
          case measure => simp [intOf]; omega
        · have hd2 : decide ((j : Int) < 8) = false := by simp; omega
          obtain rfl : j = 8 := by omega
          go_wp2_with fail
          go_roundw
          case rel => exact ⟨k + 1, by omega, by go_num, by rw [HX.out], hb⟩
          case measure => simp [intOf]; omega
    · have hd : decide ((k : Int) < (n : Int)) = false := by simp; omega
      obtain rfl : k = n := by omega
      go_wp2_with fail
      go_ret
      exact ⟨rfl, hb⟩

theorem rot_walk (a n : Nat) (ha : a < 18446744073709551616) (hn : 0 < n) (hn5 : n < 5) :
    bits .or .u64 (IntKind.u64.wrap (bits .and .u64 (a : Int) ((stay n : Nat) : Int) * 2 ^ n)) (bits .andNot .u64 ((a : Int) / 2 ^ (8 - n)) (IntKind.u64.wrap (((stay n : Nat) : Int) * 2 ^ n))) = ((rotN a n : Nat) : Int) := by
  have hs := stay_lt n hn5 hn
  have e0 : IntKind.u64.wrap (((stay n : Nat) : Int) * 2 ^ n) = ((stay n * 2 ^ n % 18446744073709551616 : Nat) : Int) := by rw [IntKind.wrap_u64]; simp
  have e1 := u64_andNot_nat (a >>> (8 - n)) (stay n * 2 ^ n % 18446744073709551616) (by rw [Nat.shiftRight_eq_div_pow]; exact Nat.lt_of_le_of_lt (Nat.div_le_self _ _) ha) (Nat.mod_lt _ (by decide))
  rw [show ((a >>> (8 - n) : Nat) : Int) = (a : Int) / 2 ^ (8 - n) from by rw [Nat.shiftRight_eq_div_pow]; simp] at e1
  have e2 : IntKind.u64.wrap (((a &&& stay n : Nat) : Int) * 2 ^ n) = (((a &&& stay n) * 2 ^ n % 18446744073709551616 : Nat) : Int) := by rw [IntKind.wrap_u64]; simp
  rw [e0, e1, u64_and_nat a (stay n) ha hs, e2]
  exact u64_or_nat ((a &&& stay n) * 2 ^ n % 18446744073709551616) (a >>> (8 - n) &&& gone n) (Nat.mod_lt _ (by decide)) (and_lt64 (gone_lt n))

set_option maxHeartbeats 1000000 in
theorem rotated_any (a n : Nat) (w : World) (ha : a < 18446744073709551616) (hn : 0 < n) (hn5 : n < 5) :
    Calls Tryz.prog 167 #[.int .u64 (a : Int), .int .i64 (n : Int)] w fun e w' => e = .returned (.int .u64 ((rotN a n : Nat) : Int)) ∧ Below w.heap.size w w' := by
  have HW := Lib.hid (rot_walk a n ha hn hn5)
  have HS := Lib.hid (show IntKind.u64.wrap (72340172838076673 * ((255 : Int) / 2 ^ n)) = ((stay n : Nat) : Int) from by
    have : ∀ n, n < 5 → 0 < n → IntKind.u64.wrap (72340172838076673 * ((255 : Int) / 2 ^ n)) = ((stay n : Nat) : Int) := by decide +kernel
    exact this n hn5 hn)
  have e8 : (8 - (n : Int)).toNat = 8 - n := by omega
  have n8 : (0 : Int) ≤ 8 - (n : Int) := by omega
  go_enter Tryz.func167, Tryz.ntmps167
  go_wp2_with fail
  go_quiet (fail)
  go_wp2_with fail
  go_ret
  exact ⟨by rw [← HW.out, ← HS.out]; rfl, below_drewN (Below.refl _ _) _⟩

set_option maxHeartbeats 1000000 in
theorem inverse_any (a : Nat) (w : World) (ha : a < 18446744073709551616) (hT : TabQ w) :
    Calls Tryz.prog 166 #[.int .u64 (a : Int)] w fun e w' => e = .returned (.int .u64 ((invW a : Nat) : Int)) ∧ Below w.heap.size w w' := by
  have HI : Hid (invW a = mulW (mulW (sqN (mulW (sqN (mulW (sqN a 1) a) 2) (mulW (sqN a 1) a)) 4) (sqN (mulW (sqN a 1) a) 2)) (sqN a 1)) := Lib.hid rfl
  have h2 := sqN_lt a ha 1
  have h3 := mulW_lt (sqN a 1) a h2
  generalize h2e : sqN a 1 = two at *
  generalize h3e : mulW two a = three at *
  have h12 := sqN_lt three h3 2
  generalize h12e : sqN three 2 = twelve at *
  have h15 := mulW_lt twelve three h12
  generalize h15e : mulW twelve three = fifteen at *
  have hz := sqN_lt fifteen h15 4
  generalize hze : sqN fifteen 4 = z at *
  have hy := mulW_lt z twelve hz
  generalize hye : mulW z twelve = y at *
  have H2 := Lib.hid h2e; have H3 := Lib.hid h3e; have H12 := Lib.hid h12e; have H15 := Lib.hid h15e; have HZ := Lib.hid hze; have HY := Lib.hid hye
  clear h2e h3e h12e h15e hze hye
  go_enter Tryz.func166, Tryz.ntmps166
  go_wp2_with fail
  refine (squared_any a 1 w ha (by omega) hT).mono ?_
  rintro e W1 ⟨rfl, hb1⟩
  have hT1 := hT.step hb1
  rw [H2.out]
  clear hT
  go_wp2_with fail
  refine (lanesTimes_any two a W1 h2 ha).mono ?_
  rintro e W ⟨rfl, rfl⟩
  rw [H3.out]
  go_wp2_with fail
  refine (squared_any three 2 W1 h3 (by omega) hT1).mono ?_
  rintro e W2 ⟨rfl, hb2⟩
  have hT2 := hT1.step hb2
  have hb02 := hb1.trans (hb2.mono hb1.size)
  rw [H12.out]
  clear hT1 hb2
  go_wp2_with fail
  refine (lanesTimes_any twelve three W2 h12 h3).mono ?_
  rintro e W ⟨rfl, rfl⟩
  rw [H15.out]
  go_wp2_with fail
  refine (squared_any fifteen 4 W2 h15 (by omega) hT2).mono ?_
  rintro e W3 ⟨rfl, hb3⟩
  have hb03 := hb02.trans (hb3.mono hb02.size)
  rw [HZ.out]
  clear hT2 hb3
  go_wp2_with fail
  refine (lanesTimes_any z twelve W3 hz h12).mono ?_
  rintro e W ⟨rfl, rfl⟩
  rw [HY.out]
  go_wp2_with fail
  refine (lanesTimes_any y two W3 hy h2).mono ?_
  rintro e W ⟨rfl, rfl⟩
  go_wp2_with fail
  go_ret
  exact ⟨by rw [HI.out]; rfl, hb03⟩

theorem swap_walk (i r1 r2 r3 r4 : Nat) (h : i < 18446744073709551616) (h1 : r1 < 18446744073709551616) (h2 : r2 < 18446744073709551616) (h3 : r3 < 18446744073709551616) (h4 : r4 < 18446744073709551616) :
    bits .xor .u64 (bits .xor .u64 (bits .xor .u64 (bits .xor .u64 (bits .xor .u64 (i : Int) (r1 : Int)) (r2 : Int)) (r3 : Int)) (r4 : Int)) 7161677110969590627 = ((i ^^^ r1 ^^^ r2 ^^^ r3 ^^^ r4 ^^^ 7161677110969590627 : Nat) : Int) := by
  rw [u64_xor_nat i r1 h h1, u64_xor_nat _ r2 (xor_lt64 h h1) h2, u64_xor_nat _ r3 (xor_lt64 (xor_lt64 h h1) h2) h3, u64_xor_nat _ r4 (xor_lt64 (xor_lt64 (xor_lt64 h h1) h2) h3) h4]
  exact u64_xor_nat _ 7161677110969590627 (xor_lt64 (xor_lt64 (xor_lt64 (xor_lt64 h h1) h2) h3) h4) (by decide)

set_option maxHeartbeats 1000000 in
theorem lanesSwapped_any (a : Nat) (w : World) (ha : a < 18446744073709551616) (hT : TabQ w) :
    Calls Tryz.prog 161 #[.int .u64 (a : Int)] w fun e w' => e = .returned (.int .u64 ((swW a : Nat) : Int)) ∧ Below w.heap.size w w' := by
  have HI : Hid (swW a = invW a ^^^ rotN (invW a) 1 ^^^ rotN (invW a) 2 ^^^ rotN (invW a) 3 ^^^ rotN (invW a) 4 ^^^ 7161677110969590627) := Lib.hid rfl
  have hi := invW_lt a ha
  have HV := Lib.hid (inverse_any a w ha hT)
  clear hT
  generalize invW a = i at *
  have HW := Lib.hid (swap_walk i (rotN i 1) (rotN i 2) (rotN i 3) (rotN i 4) hi (rotN_lt _ _) (rotN_lt _ _) (rotN_lt _ _) (rotN_lt _ _))
  have R1 := Lib.hid (fun W => rotated_any i 1 W hi (by omega) (by omega))
  have R2 := Lib.hid (fun W => rotated_any i 2 W hi (by omega) (by omega))
  have R3 := Lib.hid (fun W => rotated_any i 3 W hi (by omega) (by omega))
  have R4 := Lib.hid (fun W => rotated_any i 4 W hi (by omega) (by omega))
  generalize rotN i 1 = r1 at *
  generalize rotN i 2 = r2 at *
  generalize rotN i 3 = r3 at *
  generalize rotN i 4 = r4 at *
  go_enter Tryz.func161, Tryz.ntmps161
  go_wp2_with fail
  refine HV.out.mono ?_
  rintro e W1 ⟨rfl, hb1⟩
  go_wp2_with fail
  refine (R1.out W1).mono ?_
  rintro e W2 ⟨rfl, hb2⟩
  have hb02 := hb1.trans (hb2.mono hb1.size)
  clear hb2
  go_wp2_with fail
  refine (R2.out W2).mono ?_
  rintro e W3 ⟨rfl, hb3⟩
  have hb03 := hb02.trans (hb3.mono hb02.size)
  clear hb3 hb02
  go_wp2_with fail
  refine (R3.out W3).mono ?_
  rintro e W4 ⟨rfl, hb4⟩
  have hb04 := hb03.trans (hb4.mono hb03.size)
  clear hb4 hb03
  go_wp2_with fail
  refine (R4.out W4).mono ?_
  rintro e W5 ⟨rfl, hb5⟩
  have hb05 := hb04.trans (hb5.mono hb04.size)
  clear hb5 hb04
  go_wp2_with fail
  go_ret
  exact ⟨by rw [HI.out, ← HW.out]; rfl, hb05⟩
end

section
open Go.RowKit Go.Sort
set_option maxRecDepth 100000
set_option linter.unusedSimpArgs false
set_option linter.unusedVariables false

/-- Four bytes moved up by so many, and around. -/
def upW (a n : Nat) : Nat := (a * 2 ^ (32 - 8 * n)) % 4294967296 ||| a / 2 ^ (8 * n)
theorem lane_up (a n i : Nat) (ha : a < 4294967296) (hn : 0 < n) (hn4 : n < 4) (hi : i < 4) : lane i (upW a n) = lane ((i + n) % 4) a := by
  apply Nat.eq_of_testBit_eq
  intro j
  have e1 : (a * 2 ^ (32 - 8 * n)) % 4294967296 = (a <<< (32 - 8 * n)) % 2 ^ 32 := by rw [Nat.shiftLeft_eq]
  have e2 : a / 2 ^ (8 * n) = a >>> (8 * n) := by rw [Nat.shiftRight_eq_div_pow]
  rw [upW, e1, e2]
  simp only [lane_bit, Nat.testBit_or, Nat.testBit_mod_two_pow, Nat.testBit_shiftLeft, Nat.testBit_shiftRight]
  by_cases hj : j < 8
  · by_cases hc : i + n < 4
    · have h1 : ¬ (8 * i + j ≥ 32 - 8 * n) := by omega
      rw [Nat.mod_eq_of_lt hc]
      simp [hj, h1, show 8 * n + (8 * i + j) = 8 * (i + n) + j by omega]
    · have h1 : (8 * i + j ≥ 32 - 8 * n) := by omega
      have h2 : a.testBit (8 * n + (8 * i + j)) = false := Nat.testBit_lt_two_pow (Nat.lt_of_lt_of_le ha (show 2 ^ 32 ≤ 2 ^ (8 * n + (8 * i + j)) from Nat.pow_le_pow_right (by decide) (by omega)))
      rw [h2, show (i + n) % 4 = i + n - 4 by omega]
      simp [hj, h1, show 8 * i + j < 32 by omega, show 8 * i + j - (32 - 8 * n) = 8 * (i + n - 4) + j by omega]
  · simp [hj]
theorem upW_lt (a n : Nat) (ha : a < 4294967296) : upW a n < 4294967296 := Nat.or_lt_two_pow (n := 32) (Nat.mod_lt _ (by decide)) (Nat.lt_of_le_of_lt (Nat.div_le_self _ _) ha)

theorem aroll_any (v n : Int) (w : World) (h : n = -8 ∨ n = -16 ∨ n = -24) :
    Calls Tryz.prog 164 #[.int .u32 v, .int .i64 n] w fun e w' => e = .returned (.int .u32 (bits .or .u32 (IntKind.u32.wrap (v * 2 ^ (32 + n).toNat)) (v / 2 ^ (-n).toNat))) ∧ w = w' := by
  have k1 : bits .and .u64 (IntKind.u64.wrap (-8)) 31 = 24 := by decide +kernel
  have k2 : bits .and .u64 (IntKind.u64.wrap (-16)) 31 = 16 := by decide +kernel
  have k3 : bits .and .u64 (IntKind.u64.wrap (-24)) 31 = 8 := by decide +kernel
  rcases h with rfl | rfl | rfl <;>
  · go_enter Tryz.func164, Tryz.ntmps164
    go_wp2
    go_ret
    exact ⟨by simp [IntKind.wrap_u32'], rfl⟩

theorem upward_any (a n : Nat) (w : World) (ha : a < 4294967296) (hn : 0 < n) (hn4 : n < 4) :
    Calls Tryz.prog 158 #[.int .u64 (a : Int), .int .i64 (n : Int)] w fun e w' => e = .returned (.int .u64 ((upW a n : Nat) : Int)) ∧ w = w' := by
  have hv : ∀ m : Int, m = -8 * (n : Int) → bits .or .u32 (IntKind.u32.wrap ((a : Int) * 2 ^ (32 + m).toNat)) ((a : Int) / 2 ^ (-m).toNat) = ((upW a n : Nat) : Int) := by
    rintro m rfl
    rw [show (32 + -8 * (n : Int)).toNat = 32 - 8 * n by omega, show (-(-8 * (n : Int))).toNat = 8 * n by omega]
    have h1 : IntKind.u32.wrap ((a : Int) * 2 ^ (32 - 8 * n)) = (((a * 2 ^ (32 - 8 * n)) % 4294967296 : Nat) : Int) := by rw [IntKind.wrap_u32']; simp
    have h2 : (a : Int) / 2 ^ (8 * n) = ((a / 2 ^ (8 * n) : Nat) : Int) := by simp
    rw [h1, h2]
    exact u32_or_nat _ _ (Nat.mod_lt _ (by decide)) (Nat.lt_of_le_of_lt (Nat.div_le_self _ _) ha)
  have hc : ∀ (m : Int), m = -8 * (n : Int) → (m = -8 ∨ m = -16 ∨ m = -24) := by intro m hm; omega
  have HC := Lib.hid (fun W => aroll_any (a : Int) (-8 * (n : Int)) W (hc _ rfl))
  rw [hv _ rfl] at HC
  have e1 : (a : Int) % 4294967296 = (a : Int) := by omega
  have e2 : ((upW a n : Nat) : Int) % 18446744073709551616 = ((upW a n : Nat) : Int) := by have := upW_lt a n ha; omega
  clear hv hc
  generalize upW a n = r at *
  go_enter Tryz.func158, Tryz.ntmps158
  go_wp2_with fail
  refine (HC.out w).mono ?_
  rintro e W1 ⟨rfl, rfl⟩
  go_wp2_with fail
  go_ret
  exact ⟨by first | rfl | (rw [← e2]; rfl), rfl⟩

/-- What replaces a column. -/
def mixW (a : Nat) : Nat := dblW (a ^^^ upW a 1) ^^^ upW a 1 ^^^ upW a 2 ^^^ upW a 3
theorem lane_mix (a i : Nat) (ha : a < 4294967296) (hi : i < 4) : lane i (mixW a) = dbl1 (lane i a ^^^ lane ((i + 1) % 4) a) ^^^ lane ((i + 1) % 4) a ^^^ lane ((i + 2) % 4) a ^^^ lane ((i + 3) % 4) a := by
  simp only [mixW, lane_xor, lane_dbl _ i (show i < 8 by omega), lane_up a 1 i ha (by omega) (by omega) hi, lane_up a 2 i ha (by omega) (by omega) hi, lane_up a 3 i ha (by omega) (by omega) hi]
theorem mix_walk (d b c e : Nat) (hd : d < 18446744073709551616) (hb : b < 18446744073709551616) (hc : c < 18446744073709551616) (he : e < 18446744073709551616) :
    bits .xor .u64 (bits .xor .u64 (bits .xor .u64 (d : Int) (b : Int)) (c : Int)) (e : Int) = ((d ^^^ b ^^^ c ^^^ e : Nat) : Int) := by
  rw [u64_xor_nat d b hd hb, u64_xor_nat _ c (xor_lt64 hd hb) hc, u64_xor_nat _ e (xor_lt64 (xor_lt64 hd hb) hc) he]

set_option maxHeartbeats 1000000 in
theorem mixture_any (a : Nat) (w : World) (ha : a < 4294967296) :
    Calls Tryz.prog 163 #[.int .u64 (a : Int)] w fun e w' => e = .returned (.int .u64 ((mixW a : Nat) : Int)) ∧ w = w' := by
  have HM : Hid (mixW a = dblW (a ^^^ upW a 1) ^^^ upW a 1 ^^^ upW a 2 ^^^ upW a 3) := Lib.hid rfl
  have l1 := upW_lt a 1 ha; have l2 := upW_lt a 2 ha; have l3 := upW_lt a 3 ha
  have U1 := Lib.hid (fun W => upward_any a 1 W ha (by omega) (by omega))
  have U2 := Lib.hid (fun W => upward_any a 2 W ha (by omega) (by omega))
  have U3 := Lib.hid (fun W => upward_any a 3 W ha (by omega) (by omega))
  generalize upW a 1 = b at *
  generalize upW a 2 = c at *
  generalize upW a 3 = d at *
  have hx : a ^^^ b < 18446744073709551616 := xor_lt64 (by omega) (by omega)
  have HX := Lib.hid (u64_xor_nat a b (by omega) (by omega))
  have HD := Lib.hid (fun W => doubled_any (a ^^^ b) W hx)
  have HW := Lib.hid (mix_walk (dblW (a ^^^ b)) b c d (dblW_lt _) (by omega) (by omega) (by omega))
  generalize dblW (a ^^^ b) = z at *
  generalize a ^^^ b = x at *
  go_enter Tryz.func163, Tryz.ntmps163
  go_wp2_with fail
  refine (U1.out w).mono ?_
  rintro e W1 ⟨rfl, rfl⟩
  go_wp2_with fail
  refine (U2.out w).mono ?_
  rintro e W1 ⟨rfl, rfl⟩
  go_wp2_with fail
  refine (U3.out w).mono ?_
  rintro e W1 ⟨rfl, rfl⟩
  go_wp2_with fail
  rw [HX.out]
  refine (HD.out w).mono ?_
  rintro e W1 ⟨rfl, rfl⟩
  go_wp2_with fail
  go_ret
  exact ⟨by rw [HM.out, ← HW.out]; rfl, rfl⟩

/-- Bytes of memory as one number. -/
def pkB (l : List UInt8) : Nat := pk (l.map UInt8.toNat)
theorem pk_snoc (x : Nat) : ∀ l : List Nat, pk (l ++ [x]) = pk l + 256 ^ l.length * x
  | [] => by simp [pk]
  | b :: r => by
    rw [List.cons_append, pk, pk, pk_snoc x r, List.length_cons, Nat.pow_succ, Nat.mul_add, Nat.add_assoc]
    congr 2
    rw [← Nat.mul_assoc, Nat.mul_comm 256 (256 ^ r.length)]
theorem pkB_in (l : List UInt8) : ∀ x ∈ l.map UInt8.toNat, x < 256 := by
  intro x hx
  simp only [List.mem_map] at hx
  obtain ⟨y, _, rfl⟩ := hx
  exact UInt8.toNat_lt y
theorem pkB_lt (l : List UInt8) : pkB l < 256 ^ l.length := by have := pk_lt _ (pkB_in l); rwa [List.length_map] at this
theorem pkB_lane (l : List UInt8) (i : Nat) : lane i (pkB l) = (l.getD i 0).toNat := by
  rw [pkB, pk_lane _ _ (pkB_in l)]
  simp only [List.getD_eq_getElem?_getD, List.getElem?_map]
  cases l[i]? <;> rfl
theorem pow_lt8 (k : Nat) (h : k ≤ 8) : 256 ^ k ≤ 18446744073709551616 := by
  have : (256 : Nat) ^ k ≤ 256 ^ 8 := Nat.pow_le_pow_right (by decide) h
  simpa using this
theorem load_walk (l : List UInt8) (x : UInt8) (h : l.length < 8) : bits .or .u64 ((pkB l : Nat) : Int) (IntKind.u64.wrap ((x.toNat : Int) * 2 ^ (8 * l.length))) = ((pkB (l ++ [x]) : Nat) : Int) := by
  have h1 := pkB_lt l
  have h2 := pow_lt8 l.length (by omega)
  have hx := UInt8.toNat_lt x
  have h3 : pkB (l ++ [x]) = pkB l + 256 ^ l.length * x.toNat := by rw [pkB, List.map_append]; exact (pk_snoc _ _).trans (by rw [List.length_map]; rfl)
  have h4 := pkB_lt (l ++ [x])
  have h5 := pow_lt8 (l ++ [x]).length (by simp; omega)
  have e : (2 : Nat) ^ (8 * l.length) = 256 ^ l.length := by rw [Nat.pow_mul]
  have hm : x.toNat * 2 ^ (8 * l.length) < 18446744073709551616 := by rw [e, Nat.mul_comm]; omega
  have hw : IntKind.u64.wrap ((x.toNat : Int) * 2 ^ (8 * l.length)) = ((x.toNat * 2 ^ (8 * l.length) : Nat) : Int) := by
    rw [IntKind.wrap_u64, show ((x.toNat : Int) * 2 ^ (8 * l.length)) = ((x.toNat * 2 ^ (8 * l.length) : Nat) : Int) by simp]
    omega
  rw [hw, u64_or_nat _ _ (by omega) hm, Nat.or_comm, nat_join (8 * l.length) _ _ (by simp) (by omega), h3, e, Nat.mul_comm x.toNat, Nat.add_comm]

set_option maxHeartbeats 1000000 in
theorem aload_any (l : List UInt8) (b off n cap : Nat) (w : World) (hn : l.length = n) (h8 : n ≤ 8) (hc : ∀ j x, l[j]? = some x → w.cell? ⟨b, off + j, none⟩ = some (.int .u8 (x.toNat : Int))) :
    Calls Tryz.prog 159 #[.slice (some ⟨b, off, none⟩) n cap] w fun e w' => e = .returned (.int .u64 ((pkB l : Nat) : Int)) ∧ w = w' := by
  have HC := Lib.hid hc
  have HN := Lib.hid hn
  clear hc hn
  go_enter Tryz.func159, Tryz.ntmps159
  go_wp2_with fail
  go_loopw [3, 8] (fun ov i wr => ∃ k : Nat, k ≤ n ∧ i = .int .i64 (k : Int) ∧ ov = .int .u64 ((pkB (l.take k) : Nat) : Int) ∧ w = wr) (fun _ i _ => n - (intOf i).toNat)
  case atStart => exact ⟨0, by omega, rfl, rfl, rfl⟩
  case round =>
    obtain ⟨k, hk, rfl, rfl, rfl⟩ := hrel
    by_cases hlt : k < n
    · have hd : decide ((k : Int) < (n : Int)) = true := by simp; omega
      have hkl : k < l.length := by rw [HN.out]; exact hlt
      have hx := HC.out k l[k] (List.getElem?_eq_getElem hkl)
      have hlen : (l.take k).length = k := by simp; omega
      have HW := Lib.hid (load_walk (l.take k) l[k] (by omega))
      rw [hlen, show l.take k ++ [l[k]] = l.take (k + 1) from (List.take_succ_eq_append_getElem hkl).symm] at HW
      have hb := UInt8.toNat_lt l[k]
      generalize pkB (l.take k) = o at *
      generalize l[k].toNat = x at *
      have e1 : (x : Int) % 18446744073709551616 = (x : Int) := by omega
      have e8 : (8 * (k : Int)).toNat = 8 * k := by omega
      have n8 : (0 : Int) ≤ 8 * (k : Int) := by omega
      go_wp2_with fail
      go_roundw
      case rel => exact ⟨k + 1, by omega, by go_num, by rw [← HW.out], trivial⟩
      case measure => simp [intOf]; omega
    · have hd : decide ((k : Int) < (n : Int)) = false := by simp; omega
      obtain rfl : k = n := by omega
      rw [show l.take k = l from List.take_of_length_le (by rw [HN.out]; exact Nat.le_refl _)]
      go_wp2_with fail
      go_ret
      exact ⟨rfl, rfl⟩

theorem wbyte_lane (w k : Nat) : wbyte ((w : Nat) : Int) (8 * k) = UInt8.ofNat (lane k w) := by
  rw [wbyte, lane, Nat.shiftRight_eq_div_pow]
  congr 1

set_option maxHeartbeats 1000000 in
theorem astore_any (l : List UInt8) (b off n cap : Nat) (T : TypeId) (v : Int) (w : World) (hg : w.heap[b]? = some (.cells (bcells l) T)) (hn : n ≤ 8) (ho : off + n ≤ l.length) :
    Calls Tryz.prog 162 #[.slice (some ⟨b, off, none⟩) n cap, .int .u64 v] w fun e w' => e = .returned (.tuple #[]) ∧ w'.heap[b]? = some (.cells (bcells (putA l off v n)) T) ∧ But b w w' := by
  have HG := Lib.hid hg
  clear hg
  go_enter Tryz.func162, Tryz.ntmps162
  go_wp2_with fail
  go_loopw [7] (fun i wr => ∃ k : Nat, k ≤ n ∧ i = .int .i64 (k : Int) ∧ wr.heap[b]? = some (.cells (bcells (putA l off v k)) T) ∧ But b w wr) (fun i _ => n - (intOf i).toNat)
  case atStart => exact ⟨0, by omega, rfl, HG.out, But.refl _ _⟩
  case round =>
    clear HG
    obtain ⟨k, hk, rfl, hg, hb⟩ := hrel
    have HG := Lib.hid hg
    clear hg
    by_cases hlt : k < n
    · have hd : decide ((k : Int) < (n : Int)) = true := by simp; omega
      have hj : off + k < (putA l off v k).length := by rw [putA_length]; omega
      have hx : wr.cell? ⟨b, off + k, none⟩ = some (.int .u8 ((putA l off v k)[off + k].toNat : Int)) := by rw [cell_of_row wr _ _ _ _ _ HG.out]; exact bcells_get _ _ _ (List.getElem?_eq_getElem hj)
      have hf : wr.frozen? ⟨b, off + k, none⟩ = false := frozen_of_row wr _ _ _ _ HG.out
      generalize ((putA l off v k)[off + k].toNat : Int) = x at hx
      have HS := Lib.hid (show ∀ x : Int, x = v / 2 ^ (8 * k) % 256 → (wr.setCell ⟨b, off + k, none⟩ (.int .u8 x)).heap[b]? = some (.cells (bcells (putA l off v (k + 1))) T) from by
        rintro x rfl
        rw [← wbyte_toNat v (8 * k), putA, ← bcells_set]
        exact Go.heap_setCell_same _ _ _ _ _ _ HG.out)
      have e8 : (8 * (k : Int)).toNat = 8 * k := by omega
      have n8 : (0 : Int) ≤ 8 * (k : Int) := by omega
      go_wp2_with fail
      go_roundw
      case rel => exact ⟨k + 1, by omega, by go_num, HS.out _ (by simp), hb.trans (But.setCell _ _ _ _ rfl)⟩
      case measure => simp [intOf]; omega
    · have hd : decide ((k : Int) < (n : Int)) = false := by simp; omega
      obtain rfl : k = n := by omega
      go_wp2_with fail
      go_end0
      exact ⟨rfl, HG.out, hb⟩

set_option maxHeartbeats 1000000 in
theorem column_any (b c : Nat) (cs : Array Value) (T : TypeId) (w : World) (hg : w.heap[b]? = some (.cells cs T)) (hc : c < 4) :
    Calls Tryz.prog 160 #[.pointer (some ⟨b, 0, none⟩), .int .i64 (c : Int)] w fun e w' => e = .returned (.slice (some ⟨b, 4 * c, none⟩) 4 (16 - 4 * c)) ∧ w = w' := by
  have sl := arr_sliced_at 163 16 b (4 * c) (4 * c + 4) (by kernel_rfl) (by kernel_rfl) (by kernel_rfl) (by omega) (by omega) (by omega) (4 * (c : Int)) (4 * (c : Int) + 4) (by omega) (by omega)
  rw [show 4 * c + 4 - 4 * c = 4 by omega] at sl
  have e1 : IntKind.i64.wrap (4 * (c : Int)) = 4 * (c : Int) := IntWalk.i64_in _ (by omega)
  have e2 : IntKind.i64.wrap (4 * (c : Int) + 4) = 4 * (c : Int) + 4 := IntWalk.i64_in _ (by omega)
  go_enter Tryz.func160, Tryz.ntmps160
  go_wp2_with fail
  go_ret
  exact ⟨rfl, rfl⟩
end

section
open Go.RowKit Go.Sort
set_option maxRecDepth 100000
set_option linter.unusedSimpArgs false
set_option linter.unusedVariables false

def szeros : Array Value := bcells (List.replicate 16 0)
theorem infoAes : (Tryz.prog.info? 163).map (fun i => (i.zero, i.size)) = some (some (.agg szeros), 16) := by kernel_rfl
theorem sizeAes (l : List UInt8) (h : l.length = 16) : (Tryz.prog.info? 163).map (·.size) = some (bcells l).size := by rw [bcells_size, h]; exact (zero_of_info infoAes).2
theorem szeros_size (l : List UInt8) (h : l.length = 16) : szeros.size = (bcells l).size := by rw [bcells_size, h]; exact bcells_size _
theorem bsize_eq {l m : List UInt8} (h : l.length = 16) (k : m.length = 16) : (bcells l).size = (bcells m).size := by rw [bcells_size, bcells_size, h, k]
theorem u8x (x y : UInt8) : bits .xor .u8 (x.toNat : Int) (y.toNat : Int) = ((x ^^^ y).toNat : Int) := by
  rw [u8_xor_nat _ _ (UInt8.toNat_lt x) (UInt8.toNat_lt y), UInt8.toNat_xor]

/-- The copy of a text into a new state. -/
theorem copy_state (V : World) (k : ByteArray) (h : k.size = 16) :
    (Builtin.copy_ #[46, 9] 3 #[.slice (some ⟨V.heap.size, 0, none⟩) 16 16, .string k]).run Tryz.prog (V.alloc (.cells szeros 163)) = .ok (.int .i64 k.size) ((V.alloc (.cells szeros 163)).setRow V.heap.size (bcells k.data.toList)) := by
  obtain ⟨i0, hi, hz0, hz1, hz2⟩ := info_parts info_u8
  have hinfo : (Tryz.prog.info? 5).map (·.size) = some 1 := by rw [hi]; simp [hz1]
  have hl : k.data.toList.length = k.size := (Lib.size_eq k).symm
  have hcp := Lib.run_copy_row_string (P := Tryz.prog) (V.alloc (.cells szeros 163)) 46 9 3 5 V.heap.size 0 16 16 k szeros 163 Tryz.underlying46 hinfo (blk_new V _) (by omega) (by rw [show szeros.size = 16 from bcells_size _]; omega)
  rw [hcp]
  have e : (szeros.toList.take 0 ++ Lib.byteCells k.data.toList ++ szeros.toList.drop (0 + k.size)).toArray = bcells k.data.toList := by
    rw [List.take_zero, List.nil_append, List.drop_of_length_le (by rw [Array.length_toList, show szeros.size = 16 from bcells_size _]; omega), List.append_nil]
    rfl
  rw [e]
  rfl

set_option maxHeartbeats 1000000 in
theorem stateOf_any (s : ByteArray) (w : World) (h : s.size = 16) :
    Calls Tryz.prog 132 #[.string s] w fun e w' => e = .returned (.agg (bcells s.data.toList)) ∧ Below w.heap.size w w' := by
  obtain ⟨hz, hi⟩ := zero_of_info infoAes
  have hl : s.data.toList.length = 16 := by rw [← Lib.size_eq]; exact h
  have HI := Lib.hid (sizeAes _ hl)
  have HO := Lib.hid (szeros_size _ hl)
  have H1 := Lib.hid (arr_one s.data.toList)
  have HR0 := Lib.hid (blk_new w (.cells szeros 163))
  have hb0 := below_new w (.cells szeros 163)
  have hc0 := copy_state (w.alloc (.cells szeros 163)) s h
  have sl := arr_sliced_all 163 16 (w.alloc (.cells szeros 163)).heap.size (by kernel_rfl) (by kernel_rfl) (by kernel_rfl) (by omega)
  have hB : (w.alloc (.cells szeros 163)).heap.size = w.heap.size + 1 := by simp
  have HG := Lib.hid (setRow_heap ((w.alloc (.cells szeros 163)).alloc (.cells szeros 163)) (w.alloc (.cells szeros 163)).heap.size _ (bcells s.data.toList) _ _ (blk_new (w.alloc (.cells szeros 163)) (.cells szeros 163)))
  have HR := Lib.hid (show (((w.alloc (.cells szeros 163)).alloc (.cells szeros 163)).setRow (w.alloc (.cells szeros 163)).heap.size (bcells s.data.toList)).heap[w.heap.size]? = some (.cells szeros 163) from by rw [setRow_other _ _ _ _ (by rw [hB]; omega)]; exact blk_old HR0.out)
  have hb2 : Below w.heap.size w (((w.alloc (.cells szeros 163)).alloc (.cells szeros 163)).setRow (w.alloc (.cells szeros 163)).heap.size (bcells s.data.toList)) := below_setRow (hb0.alloc (by rw [hB]; omega) _) (by rw [hB]; omega) _
  simp only [hB] at hc0 sl HG HR hb2
  clear hi hl h HR0 hb0 hB
  generalize hrow : s.data.toList = row at *
  have HROW := Lib.hid hrow
  clear hrow
  go_enter Tryz.func132, Tryz.ntmps132
  go_wp2_with (first
    | (with_reducible refine wpList_load_row rfl 163 _ rfl (w.heap.size + 1) rfl 163 _ (0, 0) _ HG.out Tryz.underlying163 rfl HI.out ?_)
    | (with_reducible refine wpList_store_row rfl 163 _ _ rfl w.heap.size (bcells row) rfl rfl 163 _ HR.out HI.out HO.out H1.out ?_))
  exact bodyPost_ret (v := .agg (bcells row)) (results_cell_row (by rfl) _ _ w.heap.size 163 _ (0, 0) _ rfl (setRow_heap _ _ _ _ _ _ HR.out) Tryz.underlying163 rfl HI.out) rfl ⟨rfl, below_setRow hb2 (Nat.le_refl _) _⟩

/-- The sum while it is laid. -/
def plP (s k : List UInt8) (m : Nat) : List UInt8 := (List.range 16).map fun i => if i < m then s.getD i 0 ^^^ k.getD i 0 else s.getD i 0
theorem plP_length (s k : List UInt8) (m : Nat) : (plP s k m).length = 16 := by simp [plP]
theorem plP_zero (s k : List UInt8) (h : s.length = 16) : plP s k 0 = s := bytes_ext (plP_length _ _ _) h fun i hi => by rw [plP, range_getD _ _ _ hi]; simp
theorem plP_full (s k : List UInt8) : plP s k 16 = plS s k := bytes_ext (plP_length _ _ _) (plS_length _ _) fun i hi => by rw [plP, range_getD _ _ _ hi, plS, range_getD _ _ _ hi, if_pos hi]
theorem set_getD (l : List UInt8) (j i : Nat) (x : UInt8) (hj : j < l.length) : (l.set j x).getD i 0 = if i = j then x else l.getD i 0 := by
  rw [List.getD_eq_getElem?_getD, List.getElem?_set]
  by_cases h : j = i
  · subst h; simp [hj]
  · rw [if_neg h, if_neg (fun e => h e.symm), ← List.getD_eq_getElem?_getD]
theorem plP_succ (s k : List UInt8) (m : Nat) (h : m < 16) : (plP s k m).set m ((plP s k m).getD m 0 ^^^ k.getD m 0) = plP s k (m + 1) := by
  refine bytes_ext (by rw [List.length_set, plP_length]) (plP_length _ _ _) fun i hi => ?_
  rw [set_getD _ _ _ _ (by rw [plP_length]; exact h)]
  unfold plP
  rw [range_getD _ _ _ hi, range_getD _ _ _ hi, range_getD _ _ _ h]
  by_cases e : i = m
  · subst e; simp
  · by_cases h2 : i < m
    · simp [e, h2, show i < m + 1 by omega]
    · simp [e, h2, show ¬ i < m + 1 by omega]

set_option maxHeartbeats 1000000 in
theorem stPlus_any (s k : List UInt8) (w : World) (hs : s.length = 16) (hk : k.length = 16) :
    Calls Tryz.prog 151 #[.agg (bcells s), .agg (bcells k)] w fun e w' => e = .returned (.agg (bcells (plS s k))) ∧ Below w.heap.size w w' := by
  obtain ⟨hz, hi⟩ := zero_of_info infoAes
  have HG0 := Lib.hid (blk_old (o := .cells szeros 163) (blk_old (o := .cells (bcells k) 163) (blk_new w (.cells (bcells s) 163))))
  have HK0 := Lib.hid (blk_old (o := .cells szeros 163) (blk_new2 w (.cells (bcells s) 163) (.cells (bcells k) 163)))
  have HR0 := Lib.hid (blk_new3 w (.cells (bcells s) 163) (.cells (bcells k) 163) (.cells szeros 163))
  have hb0 := below_new3 w (.cells (bcells s) 163) (.cells (bcells k) 163) (.cells szeros 163)
  have HS := Lib.hid hs; have HKL := Lib.hid hk
  clear hi hs hk
  go_enter Tryz.func151, Tryz.ntmps151
  go_wp2_with fail
  clear hz
  generalize (((w.alloc _).alloc _).alloc _) = W0 at *
  generalize hBB : w.heap.size = B at *
  have HBB := Lib.hid hBB
  clear hBB
  go_loopw [6] (fun i wr => ∃ m : Nat, m ≤ 16 ∧ i = .int .i64 (m : Int) ∧ wr.heap[B]? = some (.cells (bcells (plP s k m)) 163) ∧ wr.heap[B + 1]? = some (.cells (bcells k) 163) ∧ wr.heap[B + 1 + 1]? = some (.cells szeros 163) ∧ Below B w wr) (fun i _ => 16 - (intOf i).toNat)
  case atStart => exact ⟨0, by omega, rfl, by rw [plP_zero s k HS.out]; exact HG0.out, HK0.out, HR0.out, hb0⟩
  case round =>
    clear HG0 HK0 HR0 hb0
    obtain ⟨m, hm, rfl, hg, hk, hr, hb⟩ := hrel
    have HG := Lib.hid hg; have HK := Lib.hid hk; have HR := Lib.hid hr
    clear hg hk hr
    by_cases hlt : m < 16
    · have hd : decide ((m : Int) < 16) = true := by simp; omega
      have HL := Lib.hid (plP_length s k m)
      have cx := bcell_at HG.out m (by rw [HL.out]; exact hlt)
      have ck := bcell_at HK.out m (by rw [HKL.out]; exact hlt)
      have HX := Lib.hid (u8x ((plP s k m).getD m 0) (k.getD m 0))
      have HSet := Lib.hid (fun (Y : World) (hY : Y.heap[B]? = some (.cells (bcells (plP s k m)) 163)) => bheap_set hY m ((plP s k m).getD m 0 ^^^ k.getD m 0))
      rw [plP_succ s k m hlt] at HSet
      generalize (plP s k m).getD m 0 = x at *
      generalize k.getD m 0 = y at *
      go_wp2_with fail
      have q1 := cell_regrown cx
      have q2 := cell_regrown ck
      refine wp_region_reads_tail 8 (by kernel_rfl) (by kernel_rfl) ?_
      simp only [List.take_succ_cons, List.take_zero, List.drop_succ_cons, List.drop_zero]
      repeat (first | go_big_quiet_step (fail) | quiet_step (fail))
      refine wpQuiet_nil ?_
      intro Y hY
      have hltw : B + 1 + 1 < wr.heap.size := blk_lt HR.out
      have HG2 := Lib.hid (blk_below hY (by omega) HG.out)
      have HK2 := Lib.hid (blk_below hY (by omega) HK.out)
      have HR2 := Lib.hid (blk_below hY hltw HR.out)
      have hb2 : Below B w Y := hb.trans (hY.mono (by omega))
      have cy := bcell_at HG2.out m (by rw [HL.out]; exact hlt)
      have fy := frozen_of_row Y B m _ _ HG2.out
      clear hY q1 q2 cx ck HG HK HR hb hltw
      rw [HX.out]
      go_wp2_with fail
      go_roundw
      case rel => exact ⟨m + 1, by omega, by go_num, HSet.out Y HG2.out, by rw [heap_setCell_other _ _ _ _ (by simp)]; exact HK2.out, by rw [heap_setCell_other _ _ _ _ (by simp <;> omega)]; exact HR2.out, hb2.setCell (by simp) _⟩
      case measure => simp [intOf]; omega
    · have hd : decide ((m : Int) < 16) = false := by simp; omega
      obtain rfl : m = 16 := by omega
      have HG2 := Lib.hid (show wr.heap[B]? = some (.cells (bcells (plS s k)) 163) from by rw [← plP_full]; exact HG.out)
      have hl := plS_length s k
      generalize hrow : plS s k = row at *
      have HROW := Lib.hid hrow
      clear HG hrow
      have HI := Lib.hid (sizeAes row hl)
      have HO := Lib.hid (szeros_size row hl)
      have H1 := Lib.hid (arr_one row)
      go_wp2_with (first
        | (with_reducible refine wpList_load_row rfl 163 _ rfl B rfl 163 _ (0, 0) _ HG2.out Tryz.underlying163 rfl HI.out ?_)
        | (with_reducible refine wpList_store_row rfl 163 _ _ rfl (B + 1 + 1) (bcells row) rfl rfl 163 _ HR.out HI.out HO.out H1.out ?_))
      exact bodyPost_ret (v := .agg (bcells row)) (results_cell_row (by rfl) _ _ (B + 1 + 1) 163 _ (0, 0) _ rfl (setRow_heap _ _ _ _ _ _ HR.out) Tryz.underlying163 rfl HI.out) rfl ⟨by first | (with_reducible rfl) | rw [HROW.out], by rw [HBB.out]; exact below_setRow hb (by omega) _⟩
end

section
open Go.RowKit Go.Sort
set_option maxRecDepth 100000
set_option linter.unusedSimpArgs false
set_option linter.unusedVariables false

/-- The swapped bytes while they are laid: so many halves. -/
def swP (s : List UInt8) (m : Nat) : List UInt8 := (List.range 16).map fun i => if i < 8 * m then sb (s.getD i 0) else s.getD i 0
theorem swP_length (s : List UInt8) (m : Nat) : (swP s m).length = 16 := by simp [swP]
theorem swP_zero (s : List UInt8) (h : s.length = 16) : swP s 0 = s := bytes_ext (swP_length _ _) h fun i hi => by rw [swP, range_getD _ _ _ hi]; simp
theorem swS_getD (s : List UInt8) (i : Nat) (h : i < s.length) : (swS s).getD i 0 = sb (s.getD i 0) := by
  simp [swS, List.getD_eq_getElem?_getD, h]
theorem swP_full (s : List UInt8) (h : s.length = 16) : swP s 2 = swS s := bytes_ext (swP_length _ _) (by rw [swS_length, h]) fun i hi => by rw [swP, range_getD _ _ _ hi, swS_getD _ _ (by omega), if_pos (by omega)]
/-- Bytes from a place on, in a word. -/
def partL (s : List UInt8) (off n : Nat) : List UInt8 := (List.range n).map fun j => s.getD (off + j) 0
theorem partL_length (s : List UInt8) (off n : Nat) : (partL s off n).length = n := by simp [partL]
theorem partL_get (s : List UInt8) (off n j : Nat) (h : j < n) : (partL s off n).getD j 0 = s.getD (off + j) 0 := range_getD _ _ _ h
theorem partL_cells {W : World} {b : Nat} {l : List UInt8} {T : TypeId} {fr : Nat × Nat} (h : W.heap[b]? = some (.cells (bcells l) T fr)) (off n : Nat) (ho : off + n ≤ l.length) :
    ∀ j x, (partL l off n)[j]? = some x → W.cell? ⟨b, off + j, none⟩ = some (.int .u8 (x.toNat : Int)) := fun j x hx => by
  have hj : j < n := by have := (List.getElem?_eq_some_iff.1 hx).1; rwa [partL_length] at this
  rw [bcell_at h (off + j) (by omega), ← partL_get l off n j hj, List.getD_eq_getElem?_getD, hx]; rfl
theorem swP_succ (s : List UInt8) (m : Nat) (h : m < 2) : putA (swP s m) (8 * m) ((swW (pkB (partL (swP s m) (8 * m) 8)) : Nat) : Int) 8 = swP s (m + 1) := by
  refine bytes_ext (by rw [putA_length, swP_length]) (swP_length _ _) fun i hi => ?_
  rw [putA_get _ _ _ _ _ (by rw [swP_length]; omega)]
  by_cases h1 : 8 * m ≤ i ∧ i < 8 * m + 8
  · rw [if_pos h1, wbyte_lane, lane_swT _ _ (by omega), pkB_lane, partL_get _ _ _ _ (by omega), show 8 * m + (i - 8 * m) = i by omega]
    unfold swP
    rw [range_getD _ _ _ hi, range_getD _ _ _ hi, if_neg (by omega), if_pos (by omega)]
    rfl
  · rw [if_neg h1]
    unfold swP
    rw [range_getD _ _ _ hi, range_getD _ _ _ hi]
    by_cases h2 : i < 8 * m
    · rw [if_pos h2, if_pos (by omega)]
    · rw [if_neg h2, if_neg (by omega)]

set_option maxHeartbeats 1000000 in
theorem stSwapped_any (s : List UInt8) (w : World) (hs : s.length = 16) (hT : TabQ w) :
    Calls Tryz.prog 152 #[.agg (bcells s)] w fun e w' => e = .returned (.agg (bcells (swS s))) ∧ Below w.heap.size w w' := by
  obtain ⟨hz, hi⟩ := zero_of_info infoAes
  have HG0 := Lib.hid (blk_old (o := .cells szeros 163) (blk_new w (.cells (bcells s) 163)))
  have HR0 := Lib.hid (blk_new2 w (.cells (bcells s) 163) (.cells szeros 163))
  have hb0 := below_new2 w (.cells (bcells s) 163) (.cells szeros 163)
  have HS := Lib.hid hs
  have hTl := hT.lt
  have HT0 := Lib.hid (hT.step hb0)
  clear hi hs hT
  go_enter Tryz.func152, Tryz.ntmps152
  go_wp2_with fail
  clear hz
  generalize ((w.alloc _).alloc _) = W0 at *
  generalize hBB : w.heap.size = B at *
  have HBB := Lib.hid hBB
  clear hBB
  go_loopw [5] (fun i wr => ∃ m : Nat, m ≤ 2 ∧ i = .int .i64 (m : Int) ∧ wr.heap[B]? = some (.cells (bcells (swP s m)) 163) ∧ wr.heap[B + 1]? = some (.cells szeros 163) ∧ Below B w wr ∧ TabQ wr) (fun i _ => 2 - (intOf i).toNat)
  case atStart => exact ⟨0, by omega, rfl, by rw [swP_zero s HS.out]; exact HG0.out, HR0.out, hb0, HT0.out⟩
  case round =>
    clear HG0 HR0 hb0 HT0
    obtain ⟨m, hm, rfl, hg, hr, hb, hT⟩ := hrel
    have HG := Lib.hid hg; have HR := Lib.hid hr; have HT := Lib.hid hT
    clear hg hr hT
    by_cases hlt : m < 2
    · have hd : decide ((m : Int) < 2) = true := by simp; omega
      have HL := Lib.hid (swP_length s m)
      have HN := Lib.hid (swP_succ s m hlt)
      generalize swP s m = l at *
      have sl := arr_sliced_at 163 16 B (8 * m) (8 * m + 8) (by kernel_rfl) (by kernel_rfl) (by kernel_rfl) (by omega) (by omega) (by omega) (8 * (m : Int)) (8 * (m : Int) + 8) (by omega) (by omega)
      rw [show 8 * m + 8 - 8 * m = 8 by omega] at sl
      have e1 : IntKind.i64.wrap (8 * (m : Int)) = 8 * (m : Int) := IntWalk.i64_in _ (by omega)
      have e2 : IntKind.i64.wrap (8 * (m : Int) + 8) = 8 * (m : Int) + 8 := IntWalk.i64_in _ (by omega)
      have HLd := Lib.hid (aload_any (partL l (8 * m) 8) B (8 * m) 8 (16 - 8 * m) wr (partL_length _ _ _) (by omega) (partL_cells HG.out (8 * m) 8 (by rw [HL.out]; omega)))
      have hpl := pkB_lt (partL l (8 * m) 8)
      rw [partL_length] at hpl
      generalize pkB (partL l (8 * m) 8) = a at *
      have HSw := Lib.hid (fun W hT => lanesSwapped_any a W (by omega) hT)
      generalize swW a = v at *
      go_wp2_with fail
      refine HLd.out.mono ?_
      rintro e W1 ⟨rfl, rfl⟩
      clear HLd
      go_wp2_with fail
      refine (HSw.out wr HT.out).mono ?_
      rintro e W1 ⟨rfl, hb1⟩
      clear HSw
      have hltw : B + 1 < wr.heap.size := blk_lt HR.out
      have HG1 := Lib.hid (blk_below hb1 (by omega) HG.out)
      have HR1 := Lib.hid (blk_below hb1 hltw HR.out)
      have HT1 := Lib.hid (HT.out.step hb1)
      have hb2 : Below B w W1 := hb.trans (hb1.mono (by omega))
      have hl1 := blk_lt HR1.out
      clear HG HR HT hb hb1 hltw
      go_wp2_with fail
      refine (astore_any l B (8 * m) 8 (16 - 8 * m) _ _ W1 HG1.out (by omega) (by rw [HL.out]; omega)).mono ?_
      rintro e Z ⟨rfl, hg3, hbut⟩
      rw [HN.out] at hg3
      have HG3 := Lib.hid hg3
      clear hg3 HG1
      have HR3 := Lib.hid ((hbut.block (B + 1) (by omega) (by omega)).trans HR1.out)
      have hb3 : Below B w Z := hb2.trans (hbut.below (by omega) (by omega))
      have HT3 := Lib.hid (show TabQ Z from HT1.out.below (B := B) (hbut.below (by omega) (by omega)) hTl)
      clear HR1 hb2 hbut hl1 HT1
      go_wp2_with fail
      go_roundw
      case rel => exact ⟨m + 1, by omega, by go_num, HG3.out, HR3.out, hb3, HT3.out⟩
      case measure => simp [intOf]; omega
    · have hd : decide ((m : Int) < 2) = false := by simp; omega
      obtain rfl : m = 2 := by omega
      have HG2 := Lib.hid (show wr.heap[B]? = some (.cells (bcells (swS s)) 163) from by rw [← swP_full s HS.out]; exact HG.out)
      have hl : (swS s).length = 16 := by rw [swS_length, HS.out]
      generalize hrow : swS s = row at *
      have HROW := Lib.hid hrow
      clear HG hrow
      have HI := Lib.hid (sizeAes row hl)
      have HO := Lib.hid (szeros_size row hl)
      have H1 := Lib.hid (arr_one row)
      go_wp2_with (first
        | (with_reducible refine wpList_load_row rfl 163 _ rfl B rfl 163 _ (0, 0) _ HG2.out Tryz.underlying163 rfl HI.out ?_)
        | (with_reducible refine wpList_store_row rfl 163 _ _ rfl (B + 1) (bcells row) rfl rfl 163 _ HR.out HI.out HO.out H1.out ?_))
      exact bodyPost_ret (v := .agg (bcells row)) (results_cell_row (by rfl) _ _ (B + 1) 163 _ (0, 0) _ rfl (setRow_heap _ _ _ _ _ _ HR.out) Tryz.underlying163 rfl HI.out) rfl ⟨by first | (with_reducible rfl) | rw [HROW.out], by rw [HBB.out]; exact below_setRow hb (by omega) _⟩

/-- The shifted bytes while they are laid. -/
def shP (s : List UInt8) (m : Nat) : List UInt8 := (List.range 16).map fun i => if i < m then s.getD ((i + 4 * (i % 4)) % 16) 0 else 0
theorem shP_length (s : List UInt8) (m : Nat) : (shP s m).length = 16 := by simp [shP]
theorem shP_zero (s : List UInt8) : shP s 0 = List.replicate 16 0 := by simp [shP]; rfl
theorem shP_full (s : List UInt8) : shP s 16 = shS s := bytes_ext (shP_length _ _) (shS_length _) fun i hi => by rw [shP, range_getD _ _ _ hi, shS, range_getD _ _ _ hi, if_pos hi]
theorem shP_succ (s : List UInt8) (c r : Nat) (hc : c < 4) (hr : r < 4) : (shP s (4 * c + r)).set (4 * c + r) (s.getD (4 * ((c + r) % 4) + r) 0) = shP s (4 * c + (r + 1)) := by
  refine bytes_ext (by rw [List.length_set, shP_length]) (shP_length _ _) fun i hi => ?_
  rw [set_getD _ _ _ _ (by rw [shP_length]; omega)]
  unfold shP
  rw [range_getD _ _ _ hi, range_getD _ _ _ hi]
  by_cases e : i = 4 * c + r
  · subst e
    rw [if_pos rfl, if_pos (by omega), show (4 * c + r + 4 * ((4 * c + r) % 4)) % 16 = 4 * ((c + r) % 4) + r by omega]
  · rw [if_neg e]
    by_cases h2 : i < 4 * c + r
    · rw [if_pos h2, if_pos (by omega)]
    · rw [if_neg h2, if_neg (by omega)]

set_option maxHeartbeats 1000000 in
theorem stShifted_any (s : List UInt8) (w : World) (hs : s.length = 16) :
    Calls Tryz.prog 153 #[.agg (bcells s)] w fun e w' => e = .returned (.agg (bcells (shS s))) ∧ Below w.heap.size w w' := by
  obtain ⟨hz, hi⟩ := zero_of_info infoAes
  have HG0 := Lib.hid (blk_old (o := .cells szeros 163) (blk_old (o := .cells szeros 163) (blk_new w (.cells (bcells s) 163))))
  have HR0 := Lib.hid (blk_old (o := .cells szeros 163) (blk_new2 w (.cells (bcells s) 163) (.cells szeros 163)))
  have HO0 := Lib.hid (blk_new3 w (.cells (bcells s) 163) (.cells szeros 163) (.cells szeros 163))
  have hb0 := below_new3 w (.cells (bcells s) 163) (.cells szeros 163) (.cells szeros 163)
  have HS := Lib.hid hs
  clear hi hs
  go_enter Tryz.func153, Tryz.ntmps153
  go_wp2_with fail
  clear hz
  generalize (((w.alloc _).alloc _).alloc _) = W0 at *
  generalize hBB : w.heap.size = B at *
  have HBB := Lib.hid hBB
  clear hBB
  go_loopw [6] (fun i wr => ∃ c : Nat, c ≤ 4 ∧ i = .int .i64 (c : Int) ∧ wr.heap[B]? = some (.cells (bcells s) 163) ∧ wr.heap[B + 1]? = some (.cells szeros 163) ∧ wr.heap[B + 1 + 1]? = some (.cells (bcells (shP s (4 * c))) 163) ∧ Below B w wr) (fun i _ => 4 - (intOf i).toNat)
  case atStart => exact ⟨0, by omega, rfl, HG0.out, HR0.out, by rw [shP_zero s]; exact HO0.out, hb0⟩
  case round =>
    clear HG0 HR0 HO0 hb0
    obtain ⟨c, hc, rfl, hg, hr, ho, hb⟩ := hrel
    have HG := Lib.hid hg; have HR := Lib.hid hr; have HO := Lib.hid ho
    clear hg hr ho
    by_cases hlt : c < 4
    · have hd : decide ((c : Int) < 4) = true := by simp; omega
      go_wp2_with fail
      go_loopw [9] (fun i wr => ∃ r : Nat, r ≤ 4 ∧ i = .int .i64 (r : Int) ∧ wr.heap[B]? = some (.cells (bcells s) 163) ∧ wr.heap[B + 1]? = some (.cells szeros 163) ∧ wr.heap[B + 1 + 1]? = some (.cells (bcells (shP s (4 * c + r))) 163) ∧ Below B w wr) (fun i _ => 4 - (intOf i).toNat)
      case atStart => exact ⟨0, by omega, rfl, HG.out, HR.out, HO.out, hb⟩
      case round =>
        clear HG HR HO hb
        obtain ⟨r, hr4, rfl, hg, hr, ho, hb⟩ := hrel
        have HG := Lib.hid hg; have HR := Lib.hid hr; have HO := Lib.hid ho
        clear hg hr ho
        by_cases hlr : r < 4
        · have hd2 : decide ((r : Int) < 4) = true := by simp; omega
          have HN := Lib.hid (shP_succ s c r hlt hlr)
          have cx := bcell_at HG.out (4 * ((c + r) % 4) + r) (by rw [HS.out]; omega)
          have co := bcell_at HO.out (4 * c + r) (by rw [shP_length]; omega)
          have fo := frozen_of_row _ (B + 1 + 1) (4 * c + r) _ _ HO.out
          have HSet := Lib.hid (bheap_set HO.out (4 * c + r) (s.getD (4 * ((c + r) % 4) + r) 0))
          rw [HN.out] at HSet
          generalize s.getD (4 * ((c + r) % 4) + r) 0 = x at *
          have e1 : IntKind.i64.wrap (4 * (c : Int)) = 4 * (c : Int) := IntWalk.i64_in _ (by omega)
          have e2 : IntKind.i64.wrap (4 * (c : Int) + (r : Int)) = 4 * (c : Int) + (r : Int) := IntWalk.i64_in _ (by omega)
          have e3 : IntKind.i64.wrap ((c : Int) + (r : Int)) = (c : Int) + (r : Int) := IntWalk.i64_in _ (by omega)
          go_wp2_with fail
          go_roundw
          case rel => exact ⟨r + 1, by omega, by go_num, by rw [heap_setCell_other _ _ _ _ (by simp <;> omega)]; exact HG.out, by rw [heap_setCell_other _ _ _ _ (by simp <;> omega)]; exact HR.out, HSet.out, hb.setCell (by simp <;> omega) _⟩
          case measure => simp [intOf]; omega
        · have hd2 : decide ((r : Int) < 4) = false := by simp; omega
          obtain rfl : r = 4 := by omega
          go_wp2_with fail
          go_roundw
          case rel => exact ⟨c + 1, by omega, by go_num, HG.out, HR.out, HO.out, hb⟩
          case measure => simp [intOf]; omega
    · have hd : decide ((c : Int) < 4) = false := by simp; omega
      obtain rfl : c = 4 := by omega
      have HG2 := Lib.hid (show wr.heap[B + 1 + 1]? = some (.cells (bcells (shS s)) 163) from by rw [← shP_full s]; exact HO.out)
      have hl := shS_length s
      generalize hrow : shS s = row at *
      have HROW := Lib.hid hrow
      clear HO hrow
      have HI := Lib.hid (sizeAes row hl)
      have HZ := Lib.hid (szeros_size row hl)
      have H1 := Lib.hid (arr_one row)
      go_wp2_with (first
        | (with_reducible refine wpList_load_row rfl 163 _ rfl (B + 1 + 1) rfl 163 _ (0, 0) _ HG2.out Tryz.underlying163 rfl HI.out ?_)
        | (with_reducible refine wpList_store_row rfl 163 _ _ rfl (B + 1) (bcells row) rfl rfl 163 _ HR.out HI.out HZ.out H1.out ?_))
      exact bodyPost_ret (v := .agg (bcells row)) (results_cell_row (by rfl) _ _ (B + 1) 163 _ (0, 0) _ rfl (setRow_heap _ _ _ _ _ _ HR.out) Tryz.underlying163 rfl HI.out) rfl ⟨by first | (with_reducible rfl) | rw [HROW.out], by rw [HBB.out]; exact below_setRow hb (by omega) _⟩
end

section
open Go.RowKit Go.Sort
set_option maxRecDepth 100000
set_option linter.unusedSimpArgs false
set_option linter.unusedVariables false

theorem mxB_toNat (a b c d : UInt8) : (mxB a b c d).toNat = dbl1 (a.toNat ^^^ b.toNat) ^^^ b.toNat ^^^ c.toNat ^^^ d.toNat := by
  rw [mxB, UInt8.toNat_xor, UInt8.toNat_xor, UInt8.toNat_xor, dbl8_toNat, UInt8.toNat_xor]
/-- The mixed bytes while they are laid: so many columns. -/
def mxP (s : List UInt8) (m : Nat) : List UInt8 := (List.range 16).map fun i => if i < 4 * m then mxB (s.getD (i / 4 * 4 + i % 4) 0) (s.getD (i / 4 * 4 + (i % 4 + 1) % 4) 0) (s.getD (i / 4 * 4 + (i % 4 + 2) % 4) 0) (s.getD (i / 4 * 4 + (i % 4 + 3) % 4) 0) else s.getD i 0
theorem mxP_length (s : List UInt8) (m : Nat) : (mxP s m).length = 16 := by simp [mxP]
theorem mxP_zero (s : List UInt8) (h : s.length = 16) : mxP s 0 = s := bytes_ext (mxP_length _ _) h fun i hi => by rw [mxP, range_getD _ _ _ hi]; simp
theorem mxP_full (s : List UInt8) : mxP s 4 = mxS s := bytes_ext (mxP_length _ _) (mxS_length _) fun i hi => by rw [mxP, range_getD _ _ _ hi, mxS, range_getD _ _ _ hi, if_pos (by omega)]
theorem mxP_late (s : List UInt8) (m i : Nat) (h : 4 * m ≤ i) (hi : i < 16) : (mxP s m).getD i 0 = s.getD i 0 := by rw [mxP, range_getD _ _ _ hi, if_neg (by omega)]
theorem pk4_lt (l : List UInt8) (off : Nat) : pkB (partL l off 4) < 4294967296 := by have := pkB_lt (partL l off 4); rwa [partL_length] at this
theorem mxP_succ (s : List UInt8) (m : Nat) (h : m < 4) : putA (mxP s m) (4 * m) ((mixW (pkB (partL (mxP s m) (4 * m) 4)) : Nat) : Int) 4 = mxP s (m + 1) := by
  refine bytes_ext (by rw [putA_length, mxP_length]) (mxP_length _ _) fun i hi => ?_
  rw [putA_get _ _ _ _ _ (by rw [mxP_length]; omega)]
  by_cases h1 : 4 * m ≤ i ∧ i < 4 * m + 4
  · obtain ⟨r, hr, rfl⟩ : ∃ r, r < 4 ∧ i = 4 * m + r := ⟨i - 4 * m, by omega, by omega⟩
    rw [if_pos h1, wbyte_lane, lane_mix _ _ (pk4_lt _ _) (by omega), pkB_lane, pkB_lane, pkB_lane, pkB_lane, show 4 * m + r - 4 * m = r by omega]
    rw [partL_get _ _ _ _ (by omega), partL_get _ _ _ _ (by omega), partL_get _ _ _ _ (by omega), partL_get _ _ _ _ (by omega), mxP_late _ _ _ (by omega) (by omega), mxP_late _ _ _ (by omega) (by omega), mxP_late _ _ _ (by omega) (by omega), mxP_late _ _ _ (by omega) (by omega), ← mxB_toNat]
    rw [mxP, range_getD _ _ _ hi, if_pos (by omega), show (4 * m + r) / 4 * 4 = 4 * m by omega, show (4 * m + r) % 4 = r by omega]
    simp
  · rw [if_neg h1]
    unfold mxP
    rw [range_getD _ _ _ hi, range_getD _ _ _ hi]
    by_cases h2 : i < 4 * m
    · rw [if_pos h2, if_pos (by omega)]
    · rw [if_neg h2, if_neg (by omega)]

set_option maxHeartbeats 1000000 in
theorem stMixed_any (s : List UInt8) (w : World) (hs : s.length = 16) :
    Calls Tryz.prog 154 #[.agg (bcells s)] w fun e w' => e = .returned (.agg (bcells (mxS s))) ∧ Below w.heap.size w w' := by
  obtain ⟨hz, hi⟩ := zero_of_info infoAes
  have HG0 := Lib.hid (blk_old (o := .cells szeros 163) (blk_new w (.cells (bcells s) 163)))
  have HR0 := Lib.hid (blk_new2 w (.cells (bcells s) 163) (.cells szeros 163))
  have hb0 := below_new2 w (.cells (bcells s) 163) (.cells szeros 163)
  have HS := Lib.hid hs
  clear hi hs
  go_enter Tryz.func154, Tryz.ntmps154
  go_wp2_with fail
  clear hz
  generalize ((w.alloc _).alloc _) = W0 at *
  generalize hBB : w.heap.size = B at *
  have HBB := Lib.hid hBB
  clear hBB
  go_loopw [5] (fun i wr => ∃ m : Nat, m ≤ 4 ∧ i = .int .i64 (m : Int) ∧ wr.heap[B]? = some (.cells (bcells (mxP s m)) 163) ∧ wr.heap[B + 1]? = some (.cells szeros 163) ∧ Below B w wr) (fun i _ => 4 - (intOf i).toNat)
  case atStart => exact ⟨0, by omega, rfl, by rw [mxP_zero s HS.out]; exact HG0.out, HR0.out, hb0⟩
  case round =>
    clear HG0 HR0 hb0
    obtain ⟨m, hm, rfl, hg, hr, hb⟩ := hrel
    have HG := Lib.hid hg; have HR := Lib.hid hr
    clear hg hr
    by_cases hlt : m < 4
    · have hd : decide ((m : Int) < 4) = true := by simp; omega
      have HL := Lib.hid (mxP_length s m)
      have HN := Lib.hid (mxP_succ s m hlt)
      generalize mxP s m = l at *
      have HC := Lib.hid (column_any B m _ 163 wr HG.out hlt)
      have HLd := Lib.hid (aload_any (partL l (4 * m) 4) B (4 * m) 4 (16 - 4 * m) wr (partL_length _ _ _) (by omega) (partL_cells HG.out (4 * m) 4 (by rw [HL.out]; omega)))
      have hpl := pk4_lt l (4 * m)
      generalize pkB (partL l (4 * m) 4) = a at *
      have HM := Lib.hid (mixture_any a wr hpl)
      generalize mixW a = v at *
      go_wp2_with fail
      refine HC.out.mono ?_
      rintro e W1 ⟨rfl, rfl⟩
      clear HC
      go_wp2_with fail
      refine HLd.out.mono ?_
      rintro e W1 ⟨rfl, rfl⟩
      clear HLd
      go_wp2_with fail
      refine HM.out.mono ?_
      rintro e W1 ⟨rfl, rfl⟩
      clear HM
      go_wp2_with fail
      have hl1 := blk_lt HR.out
      refine (astore_any l B (4 * m) 4 (16 - 4 * m) _ _ wr HG.out (by omega) (by rw [HL.out]; omega)).mono ?_
      rintro e Z ⟨rfl, hg3, hbut⟩
      rw [HN.out] at hg3
      have HG3 := Lib.hid hg3
      clear hg3 HG
      have HR3 := Lib.hid ((hbut.block (B + 1) (by omega) (by omega)).trans HR.out)
      have hb3 : Below B w Z := hb.trans (hbut.below (by omega) (by omega))
      clear HR hb hbut hl1
      go_wp2_with fail
      go_roundw
      case rel => exact ⟨m + 1, by omega, by go_num, HG3.out, HR3.out, hb3⟩
      case measure => simp [intOf]; omega
    · have hd : decide ((m : Int) < 4) = false := by simp; omega
      obtain rfl : m = 4 := by omega
      have HG2 := Lib.hid (show wr.heap[B]? = some (.cells (bcells (mxS s)) 163) from by rw [← mxP_full s]; exact HG.out)
      have hl := mxS_length s
      generalize hrow : mxS s = row at *
      have HROW := Lib.hid hrow
      clear HG hrow
      have HI := Lib.hid (sizeAes row hl)
      have HO := Lib.hid (szeros_size row hl)
      have H1 := Lib.hid (arr_one row)
      go_wp2_with (first
        | (with_reducible refine wpList_load_row rfl 163 _ rfl B rfl 163 _ (0, 0) _ HG2.out Tryz.underlying163 rfl HI.out ?_)
        | (with_reducible refine wpList_store_row rfl 163 _ _ rfl (B + 1) (bcells row) rfl rfl 163 _ HR.out HI.out HO.out H1.out ?_))
      exact bodyPost_ret (v := .agg (bcells row)) (results_cell_row (by rfl) _ _ (B + 1) 163 _ (0, 0) _ rfl (setRow_heap _ _ _ _ _ _ HR.out) Tryz.underlying163 rfl HI.out) rfl ⟨by first | (with_reducible rfl) | rw [HROW.out], by rw [HBB.out]; exact below_setRow hb (by omega) _⟩

/-- Byte r of what goes into the word c of the next round's key. -/
def nbPre (k : List UInt8) (p : UInt8) (r : Nat) : Nat → UInt8
  | 0 => sb (k.getD (12 + (r + 1) % 4) 0) ^^^ (if r = 0 then p else 0)
  | c + 1 => nb k p r c
theorem nb_pre (k : List UInt8) (p : UInt8) (r c : Nat) : nbPre k p r c ^^^ k.getD (4 * c + r) 0 = nb k p r c := by
  cases c with
  | zero => simp [nbPre, nb]
  | succ c => rfl
/-- The next round's key while it is laid. -/
def nxP (k : List UInt8) (p : UInt8) (c : Nat) : List UInt8 := (List.range 16).map fun i => if i < 4 * c then nb k p (i % 4) (i / 4) else k.getD i 0
theorem nxP_length (k : List UInt8) (p : UInt8) (c : Nat) : (nxP k p c).length = 16 := by simp [nxP]
theorem nxP_zero (k : List UInt8) (p : UInt8) (h : k.length = 16) : nxP k p 0 = k := bytes_ext (nxP_length _ _ _) h fun i hi => by rw [nxP, range_getD _ _ _ hi]; simp
theorem nxP_full (k : List UInt8) (p : UInt8) : nxP k p 4 = nxL k p := bytes_ext (nxP_length _ _ _) (nxL_length _ _) fun i hi => by rw [nxP, range_getD _ _ _ hi, nxL, range_getD _ _ _ hi, if_pos (by omega)]
/-- The word's first four bytes. -/
def NxW (k : List UInt8) (p : UInt8) (c a : Nat) : Prop := a < 18446744073709551616 ∧ ∀ r, r < 4 → lane r a = (nbPre k p r c).toNat
theorem lane_byte (r n : Nat) (h : n < 256) (hr : r < 4) : lane r n = if r = 0 then n else 0 := by
  cases r with
  | zero => rw [lane_zero]; simp; omega
  | succ r => rw [lane_succ, show n / 256 = 0 by omega]; simp [lane]
theorem nxW_first (k : List UInt8) (p : UInt8) (h : k.length = 16) : NxW k p 0 (swW (upW (pkB (partL k 12 4)) 1) ^^^ p.toNat) := by
  have hp := UInt8.toNat_lt p
  refine ⟨xor_lt64 (swW_lt _ (by have := upW_lt (pkB (partL k 12 4)) 1 (pk4_lt _ _); omega)) (by omega), fun r hr => ?_⟩
  rw [lane_xor, lane_swT _ _ (by omega), lane_up _ 1 r (pk4_lt _ _) (by omega) (by omega) hr, pkB_lane, partL_get _ _ _ _ (by omega), lane_byte r _ hp hr, nbPre, UInt8.toNat_xor, sb_toNat]
  congr 1
  split <;> rfl
theorem nxW_next (k : List UInt8) (p : UInt8) (c a : Nat) (hc : c < 4) (h : NxW k p c a) : NxW k p (c + 1) (a ^^^ pkB (partL (nxP k p c) (4 * c) 4)) := by
  refine ⟨xor_lt64 h.1 (by have := pk4_lt (nxP k p c) (4 * c); omega), fun r hr => ?_⟩
  rw [lane_xor, h.2 r hr, pkB_lane, partL_get _ _ _ _ hr, nxP, range_getD _ _ _ (by omega), if_neg (by omega), ← UInt8.toNat_xor, nb_pre]
  rfl
theorem nxP_succ (k : List UInt8) (p : UInt8) (c a : Nat) (hc : c < 4) (h : NxW k p (c + 1) a) : putA (nxP k p c) (4 * c) ((a : Nat) : Int) 4 = nxP k p (c + 1) := by
  refine bytes_ext (by rw [putA_length, nxP_length]) (nxP_length _ _ _) fun i hi => ?_
  rw [putA_get _ _ _ _ _ (by rw [nxP_length]; omega)]
  by_cases h1 : 4 * c ≤ i ∧ i < 4 * c + 4
  · obtain ⟨r, hr, rfl⟩ : ∃ r, r < 4 ∧ i = 4 * c + r := ⟨i - 4 * c, by omega, by omega⟩
    rw [if_pos h1, wbyte_lane, show 4 * c + r - 4 * c = r by omega, h.2 r hr, nxP, range_getD _ _ _ hi, if_pos (by omega), show (4 * c + r) % 4 = r by omega, show (4 * c + r) / 4 = c by omega]
    simp [nbPre]
  · rw [if_neg h1]
    unfold nxP
    rw [range_getD _ _ _ hi, range_getD _ _ _ hi]
    by_cases h2 : i < 4 * c
    · rw [if_pos h2, if_pos (by omega)]
    · rw [if_neg h2, if_neg (by omega)]

set_option maxHeartbeats 1000000 in
theorem next_any (k : List UInt8) (p : UInt8) (w : World) (hk : k.length = 16) (hT : TabQ w) :
    Calls Tryz.prog 149 #[.agg (bcells k), .int .u64 (p.toNat : Int)] w fun e w' => e = .returned (.agg (bcells (nxL k p))) ∧ Below w.heap.size w w' := by
  obtain ⟨hz, hi⟩ := zero_of_info infoAes
  have hp := UInt8.toNat_lt p
  have HG0 := Lib.hid (blk_old (o := .cells szeros 163) (blk_new w (.cells (bcells k) 163)))
  have HR0 := Lib.hid (blk_new2 w (.cells (bcells k) 163) (.cells szeros 163))
  have hb0 := below_new2 w (.cells (bcells k) 163) (.cells szeros 163)
  have HS := Lib.hid hk
  have HT0 := Lib.hid (hT.step hb0)
  have HF := Lib.hid (nxW_first k p hk)
  have hpl := pk4_lt k 12
  have hul := upW_lt (pkB (partL k 12 4)) 1 hpl
  have HX := Lib.hid (u64_xor_nat (swW (upW (pkB (partL k 12 4)) 1)) p.toNat (swW_lt _ (by omega)) (by omega))
  have HC := Lib.hid (column_any w.heap.size 3 _ 163 _ HG0.out (by omega))
  have HLd := Lib.hid (aload_any (partL k 12 4) w.heap.size 12 4 4 _ (partL_length _ _ _) (by omega) (partL_cells HG0.out 12 4 (by rw [hk]; omega)))
  have HU := Lib.hid (fun W => upward_any (pkB (partL k 12 4)) 1 W hpl (by omega) (by omega))
  have HSw := Lib.hid (lanesSwapped_any (upW (pkB (partL k 12 4)) 1) _ (by omega) HT0.out)
  clear hi hk hT
  generalize pkB (partL k 12 4) = a0 at *
  generalize upW a0 1 = a1 at *
  generalize swW a1 = a2 at *
  generalize a2 ^^^ p.toNat = a3 at *
  go_enter Tryz.func149, Tryz.ntmps149
  go_wp2_with fail
  clear hz
  generalize ((w.alloc _).alloc _) = W0 at *
  generalize hBB : w.heap.size = B at *
  have HBB := Lib.hid hBB
  clear hBB
  refine HC.out.mono ?_
  rintro e W1 ⟨rfl, rfl⟩
  clear HC
  go_wp2_with fail
  refine HLd.out.mono ?_
  rintro e W1 ⟨rfl, rfl⟩
  clear HLd
  go_wp2_with fail
  refine (HU.out _).mono ?_
  rintro e W1 ⟨rfl, rfl⟩
  clear HU
  go_wp2_with fail
  refine HSw.out.mono ?_
  rintro e W1 ⟨rfl, hb1⟩
  clear HSw
  have hl0 := blk_lt HR0.out
  have HG1 := Lib.hid (blk_below hb1 (by omega) HG0.out)
  have HR1 := Lib.hid (blk_below hb1 hl0 HR0.out)
  have hb2 : Below B w W1 := hb0.trans (hb1.mono (by omega))
  clear HG0 HR0 HT0 hb0 hb1 hl0
  go_wp2_with fail
  rw [HX.out]
  go_loopw [5, 14] (fun wd i wr => ∃ (c a : Nat), c ≤ 4 ∧ i = .int .i64 (c : Int) ∧ wd = .int .u64 (a : Int) ∧ NxW k p c a ∧ wr.heap[B]? = some (.cells (bcells (nxP k p c)) 163) ∧ wr.heap[B + 1]? = some (.cells szeros 163) ∧ Below B w wr) (fun _ i _ => 4 - (intOf i).toNat)
  case atStart => exact ⟨0, a3, by omega, rfl, rfl, HF.out, by rw [nxP_zero k p HS.out]; exact HG1.out, HR1.out, hb2⟩
  case round =>
    clear HG1 HR1 hb2 HF HX
    obtain ⟨c, a, hc, rfl, rfl, hw, hg, hr, hb⟩ := hrel
    have HG := Lib.hid hg; have HR := Lib.hid hr; have HW := Lib.hid hw
    clear hg hr hw
    by_cases hlt : c < 4
    · have hd : decide ((c : Int) < 4) = true := by simp; omega
      have HL := Lib.hid (nxP_length k p c)
      have HW2 := Lib.hid (nxW_next k p c a hlt HW.out)
      have HN := Lib.hid (nxP_succ k p c _ hlt HW2.out)
      have HC := Lib.hid (column_any B c _ 163 wr HG.out hlt)
      have HLd := Lib.hid (aload_any (partL (nxP k p c) (4 * c) 4) B (4 * c) 4 (16 - 4 * c) wr (partL_length _ _ _) (by omega) (partL_cells HG.out (4 * c) 4 (by rw [HL.out]; omega)))
      have hpl2 := pk4_lt (nxP k p c) (4 * c)
      have HX := Lib.hid (u64_xor_nat a (pkB (partL (nxP k p c) (4 * c) 4)) HW.out.1 (by omega))
      generalize pkB (partL (nxP k p c) (4 * c) 4) = b at *
      generalize a ^^^ b = v at *
      go_wp2_with fail
      refine HC.out.mono ?_
      rintro e W1 ⟨rfl, rfl⟩
      clear HC
      go_wp2_with fail
      refine HLd.out.mono ?_
      rintro e W1 ⟨rfl, rfl⟩
      clear HLd
      go_wp2_with fail
      rw [HX.out]
      have hl1 := blk_lt HR.out
      refine (astore_any (nxP k p c) B (4 * c) 4 (16 - 4 * c) _ _ wr HG.out (by omega) (by rw [HL.out]; omega)).mono ?_
      rintro e Z ⟨rfl, hg3, hbut⟩
      rw [HN.out] at hg3
      have HG3 := Lib.hid hg3
      clear hg3 HG
      have HR3 := Lib.hid ((hbut.block (B + 1) (by omega) (by omega)).trans HR.out)
      have hb3 : Below B w Z := hb.trans (hbut.below (by omega) (by omega))
      clear HR hb hbut hl1
      go_wp2_with fail
      go_roundw
      case rel => exact ⟨c + 1, v, by omega, by go_num, rfl, HW2.out, HG3.out, HR3.out, hb3⟩
      case measure => simp [intOf]; omega
    · have hd : decide ((c : Int) < 4) = false := by simp; omega
      obtain rfl : c = 4 := by omega
      have HG2 := Lib.hid (show wr.heap[B]? = some (.cells (bcells (nxL k p)) 163) from by rw [← nxP_full k p]; exact HG.out)
      have hl := nxL_length k p
      generalize hrow : nxL k p = row at *
      have HROW := Lib.hid hrow
      clear HG hrow
      have HI := Lib.hid (sizeAes row hl)
      have HO := Lib.hid (szeros_size row hl)
      have H1 := Lib.hid (arr_one row)
      go_wp2_with (first
        | (with_reducible refine wpList_load_row rfl 163 _ rfl B rfl 163 _ (0, 0) _ HG2.out Tryz.underlying163 rfl HI.out ?_)
        | (with_reducible refine wpList_store_row rfl 163 _ _ rfl (B + 1) (bcells row) rfl rfl 163 _ HR.out HI.out HO.out H1.out ?_))
      exact bodyPost_ret (v := .agg (bcells row)) (results_cell_row (by rfl) _ _ (B + 1) 163 _ (0, 0) _ rfl (setRow_heap _ _ _ _ _ _ HR.out) Tryz.underlying163 rfl HI.out) rfl ⟨by first | (with_reducible rfl) | rw [HROW.out], by rw [HBB.out]; exact below_setRow hb (by omega) _⟩
end

section
open Go.RowKit Go.Sort
set_option maxRecDepth 100000
set_option linter.unusedSimpArgs false
set_option linter.unusedVariables false

def kzeros : Array Value := bcells (List.replicate 176 0)
theorem infoSch : (Tryz.prog.info? 165).map (fun i => (i.zero, i.size)) = some (some (.agg kzeros), 176) := by kernel_rfl
theorem sizeSch (l : List UInt8) (h : l.length = 176) : (Tryz.prog.info? 165).map (·.size) = some (bcells l).size := by rw [bcells_size, h]; exact (zero_of_info infoSch).2
theorem kzeros_size (l : List UInt8) (h : l.length = 176) : kzeros.size = (bcells l).size := by rw [bcells_size, h]; exact bcells_size _
/-- The round keys while they are laid: so many. -/
def ksL (key : List UInt8) (m : Nat) : List UInt8 := (List.range 176).map fun i => if i / 16 < m then (rk key (i / 16)).getD (i % 16) 0 else 0
theorem ksL_length (key : List UInt8) (m : Nat) : (ksL key m).length = 176 := by simp [ksL]
theorem ksL_zero (key : List UInt8) : ksL key 0 = List.replicate 176 0 := bytes_ext (ksL_length _ _) (by simp) fun i hi => by
    rw [ksL, range_getD _ _ _ hi, if_neg (by omega), List.getD_eq_getElem?_getD, List.getElem?_replicate, if_pos hi]; rfl
theorem ksL_sub (key : List UInt8) (m i : Nat) (h : i < m) (hm : m ≤ 11) (hk : key.length = 16) : subL (ksL key m) (16 * i) 16 = rk key i := by
  refine bytes_ext (subL_length _ _ _ (by rw [ksL_length]; omega)) (rk_length key hk i) fun j hj => ?_
  rw [subL_getD _ _ _ _ hj, ksL, range_getD _ _ _ (by omega), show (16 * i + j) / 16 = i by omega, show (16 * i + j) % 16 = j by omega, if_pos h]
theorem ksL_succ (key : List UInt8) (m : Nat) (hm : m < 11) (hk : key.length = 16) : putMany (ksL key m) (16 * m) (rk key m) = ksL key (m + 1) := by
  have hr := rk_length key hk m
  refine bytes_ext (by rw [putMany_length, ksL_length]) (ksL_length _ _) fun i hi => ?_
  rw [putMany_get _ _ _ _ (by rw [ksL_length, hr]; omega), hr]
  by_cases h1 : 16 * m ≤ i ∧ i < 16 * m + 16
  · rw [if_pos h1, ksL, range_getD _ _ _ hi, if_pos (by omega), show i / 16 = m by omega, show i - 16 * m = i % 16 by omega]
  · rw [if_neg h1, ksL, range_getD _ _ _ hi, ksL, range_getD _ _ _ hi]
    by_cases h2 : i / 16 < m
    · rw [if_pos h2, if_pos (by omega)]
    · rw [if_neg h2, if_neg (by omega)]
theorem pw_dbl (i : Nat) : dblW (pw i).toNat = (pw (i + 1)).toNat ∨ 8 ≤ i := by
  by_cases h : i < 8
  · have : ∀ i, i < 8 → dblW (pw i).toNat = (pw (i + 1)).toNat := by decide +kernel
    exact .inl (this i h)
  · exact .inr (by omega)

theorem pw_dbl9 : ∀ i, i < 10 → dblW (pw i).toNat = (pw (i + 1)).toNat := by decide +kernel

set_option maxHeartbeats 1000000 in
theorem roundKeys_any (s : ByteArray) (w : World) (h : s.size = 16) (hT : TabQ w) :
    Calls Tryz.prog 131 #[.string s] w fun e w' => e = .returned (.agg (bcells (ksL s.data.toList 11))) ∧ Below w.heap.size w w' := by
  obtain ⟨hz, hi⟩ := zero_of_info infoSch
  have hl : s.data.toList.length = 16 := by rw [← Lib.size_eq]; exact h
  have HKL := Lib.hid hl
  have HR0 := Lib.hid (blk_old (o := .cells kzeros 165) (blk_new w (.cells kzeros 165)))
  have HG0 := Lib.hid (blk_new2 w (.cells kzeros 165) (.cells kzeros 165))
  have hb0 := below_new2 w (.cells kzeros 165) (.cells kzeros 165)
  have hTl := hT.lt
  have HT0 := Lib.hid (hT.step hb0)
  have HS := Lib.hid (fun W => stateOf_any s W h)
  clear hi hl h hT
  generalize hkey : s.data.toList = key at *
  have HKEY := Lib.hid hkey
  clear hkey
  go_enter Tryz.func131, Tryz.ntmps131
  go_wp2_with fail
  clear hz
  generalize ((w.alloc _).alloc _) = W0 at *
  generalize hBB : w.heap.size = B at *
  have HBB := Lib.hid hBB
  clear hBB
  refine (HS.out W0).mono ?_
  rintro e W1 ⟨rfl, hb1⟩
  have hl0 := blk_lt HG0.out
  have HR1 := Lib.hid (blk_below hb1 (by omega) HR0.out)
  have HG1 := Lib.hid (show W1.heap[B + 1]? = some (.cells (bcells (ksL key 0)) 165) from by rw [ksL_zero]; exact blk_below hb1 hl0 HG0.out)
  have HT1 := Lib.hid (HT0.out.step hb1)
  have hb2 : Below B w W1 := hb0.trans (hb1.mono (by omega))
  have hl1 := blk_lt HG1.out
  clear HS HR0 HG0 HT0 hb0 hb1 hl0
  have HIS := Lib.hid (show (Tryz.prog.info? 163).map (·.size) = some key.length from by rw [HKL.out]; exact (zero_of_info infoAes).2)
  have HP0 := Lib.hid (ksL_succ key 0 (by omega) HKL.out)
  rw [show rk key 0 = key from rfl, show 16 * 0 = 0 from rfl, show 0 + 1 = 1 from rfl] at HP0
  have HLn := Lib.hid (show 0 + key.length ≤ (ksL key 0).length from by rw [ksL_length, HKL.out]; omega)
  have HG2 := Lib.hid (setRow_heap W1 (B + 1) _ (bcells (putMany (ksL key 0) 0 key)) _ _ HG1.out)
  have HR2 := Lib.hid (show (W1.setRow (B + 1) (bcells (putMany (ksL key 0) 0 key))).heap[B]? = some (.cells kzeros 165) from by rw [setRow_other _ _ _ _ (by omega)]; exact HR1.out)
  have hb3 : Below B w (W1.setRow (B + 1) (bcells (putMany (ksL key 0) 0 key))) := below_setRow hb2 (by omega) _
  have HT2 := Lib.hid (show TabQ (W1.setRow (B + 1) (bcells (putMany (ksL key 0) 0 key))) from HT1.out.below (B := B) (below_setRow (Below.refl _ _) (by omega) _) hTl)
  rw [HP0.out] at HG2 HR2 hb3 HT2
  go_wp2_with (with_reducible refine wpList_store_sub rfl 163 _ _ rfl (B + 1) 0 (ksL key 0) key rfl rfl 165 HG1.out HIS.out HLn.out ?_)
  rw [HP0.out]
  clear HG1 HR1 HT1 hb2 HP0 HLn hl1
  generalize W1.setRow _ _ = W2 at *
  go_loopw [4, 9] (fun pv i wr => ∃ c : Nat, c ≤ 10 ∧ i = .int .i64 (c : Int) ∧ pv = .int .u64 (((pw c).toNat : Nat) : Int) ∧ wr.heap[B]? = some (.cells kzeros 165) ∧ wr.heap[B + 1]? = some (.cells (bcells (ksL key (c + 1))) 165) ∧ Below B w wr ∧ TabQ wr) (fun _ i _ => 10 - (intOf i).toNat)
  case atStart => exact ⟨0, by omega, rfl, rfl, HR2.out, HG2.out, hb3, HT2.out⟩
  case round =>
    clear HG2 HR2 hb3 HT2
    obtain ⟨c, hc, rfl, rfl, hr, hg, hb, hT⟩ := hrel
    have HG := Lib.hid hg; have HR := Lib.hid hr; have HT := Lib.hid hT
    clear hg hr hT
    by_cases hlt : c < 10
    · have hd : decide ((c : Int) < 10) = true := by simp; omega
      have e1 : IntKind.i64.wrap ((c : Int) + 1) = (c : Int) + 1 := IntWalk.i64_in _ (by omega)
      have HKN := Lib.hid (rk_length key HKL.out (c + 1))
      have HIN := Lib.hid (show (Tryz.prog.info? 163).map (·.size) = some (rk key (c + 1)).length from by rw [HKN.out]; exact (zero_of_info infoAes).2)
      have HI16 := Lib.hid (zero_of_info infoAes).2
      have HSub := Lib.hid (show subL (ksL key (c + 1)) (c * 16) 16 = rk key c from by rw [Nat.mul_comm]; exact ksL_sub key (c + 1) c (by omega) (by omega) HKL.out)
      have HPut := Lib.hid (show putMany (ksL key (c + 1)) ((c + 1) * 16) (rk key (c + 1)) = ksL key (c + 1 + 1) from by rw [Nat.mul_comm]; exact ksL_succ key (c + 1) (by omega) HKL.out)
      have HLs := Lib.hid (show c * 16 + 16 ≤ (ksL key (c + 1)).length from by rw [ksL_length]; omega)
      have HLp := Lib.hid (show (c + 1) * 16 + (rk key (c + 1)).length ≤ (ksL key (c + 1)).length from by rw [ksL_length, HKN.out]; omega)
      have HN := Lib.hid (next_any (rk key c) (pw c) wr (rk_length key HKL.out c) HT.out)
      rw [show nxL (rk key c) (pw c) = rk key (c + 1) from rfl] at HN
      have HD := Lib.hid (fun W => doubled_any (pw c).toNat W (by have := UInt8.toNat_lt (pw c); omega))
      have hpw : dblW (pw c).toNat = (pw (c + 1)).toNat := by
        have := pw_dbl9
        exact this c hlt
      rw [hpw] at HD
      clear hpw
      generalize pw c = p at *
      generalize rk key (c + 1) = kn at *
      generalize rk key c = kc at *
      generalize ksL key (c + 1) = l at *
      go_wp2_with (with_reducible refine wpList_load_sub rfl 163 _ rfl (B + 1) (c * 16) rfl 165 l 16 (0, 0) _ HG.out Tryz.underlying163 rfl HI16.out HLs.out ?_)
      rw [HSub.out]
      refine HN.out.mono ?_
      rintro e W1 ⟨rfl, hb1⟩
      clear HN HSub HLs
      have hl0 := blk_lt HG.out
      have HR1 := Lib.hid (blk_below hb1 (by omega) HR.out)
      have HG1 := Lib.hid (blk_below hb1 hl0 HG.out)
      have HT1 := Lib.hid (HT.out.step hb1)
      have hb2 : Below B w W1 := hb.trans (hb1.mono (by omega))
      have hl1 := blk_lt HG1.out
      clear HR HG HT hb hb1 hl0
      have HG2 := Lib.hid (setRow_heap W1 (B + 1) _ (bcells (putMany l ((c + 1) * 16) kn)) _ _ HG1.out)
      have HR2 := Lib.hid (show (W1.setRow (B + 1) (bcells (putMany l ((c + 1) * 16) kn))).heap[B]? = some (.cells kzeros 165) from by rw [setRow_other _ _ _ _ (by omega)]; exact HR1.out)
      have hb3 : Below B w (W1.setRow (B + 1) (bcells (putMany l ((c + 1) * 16) kn))) := below_setRow hb2 (by omega) _
      have HT2 := Lib.hid (show TabQ (W1.setRow (B + 1) (bcells (putMany l ((c + 1) * 16) kn))) from HT1.out.below (B := B) (below_setRow (Below.refl _ _) (by omega) _) hTl)
      rw [HPut.out] at HG2 HR2 hb3 HT2
      go_wp2_with (with_reducible refine wpList_store_sub rfl 163 _ _ rfl (B + 1) ((c + 1) * 16) l kn rfl rfl 165 HG1.out HIN.out HLp.out ?_)
      rw [HPut.out]
      clear HG1 HR1 HT1 hb2 hl1
      generalize W1.setRow _ _ = W2 at *
      refine (HD.out _).mono ?_
      rintro e W3 ⟨rfl, rfl⟩
      go_wp2_with fail
      go_roundw
      case rel => exact ⟨c + 1, by omega, by go_num, rfl, HR2.out, HG2.out, hb3, HT2.out⟩
      case measure => simp [intOf]; omega
    · have hd : decide ((c : Int) < 10) = false := by simp; omega
      obtain rfl : c = 10 := by omega
      have HI := Lib.hid (sizeSch _ (ksL_length key (10 + 1)))
      have HO := Lib.hid (kzeros_size _ (ksL_length key (10 + 1)))
      have H1 := Lib.hid (arr_one (ksL key (10 + 1)))
      go_wp2_with (first
        | (with_reducible refine wpList_load_row rfl 165 _ rfl (B + 1) rfl 165 _ (0, 0) _ HG.out Tryz.underlying165 rfl HI.out ?_)
        | (with_reducible refine wpList_store_row rfl 165 _ _ rfl B (bcells (ksL key (10 + 1))) rfl rfl 165 _ HR.out HI.out HO.out H1.out ?_))
      exact bodyPost_ret (v := .agg (bcells (ksL key (10 + 1)))) (results_cell_row (by rfl) _ _ B 165 _ (0, 0) _ rfl (setRow_heap _ _ _ _ _ _ HR.out) Tryz.underlying165 rfl HI.out) rfl ⟨rfl, by rw [HBB.out]; exact below_setRow hb (by omega) _⟩
end

section
open Go.RowKit Go.Sort
set_option maxRecDepth 100000
set_option linter.unusedSimpArgs false
set_option linter.unusedVariables false

theorem keys_sliced (a : Nat) (w : World) :
    (Instr.sliceAt 165 (.pointer (some ⟨a, 0, none⟩)) (some (.int .i64 1)) (some (.int .i64 10)) none).run Tryz.prog w = .ok (.slice (some ⟨a, 16, none⟩) 9 10) w := by
  have hsz : ∀ w, (sizeOf (Tryz.prog.elem 165)).run Tryz.prog w = .ok 16 w := fun w => by
    have hi : (Tryz.prog.info? (Tryz.prog.elem 165)).map (·.size) = some 16 := by kernel_rfl
    cases hq : Tryz.prog.info? (Tryz.prog.elem 165) with
    | none => simp [hq] at hi
    | some i => simp [hq] at hi; simp [sizeOf, typeInfo, hq, hi]
  have hn : Tryz.prog.arrayLen 165 = 11 := by kernel_rfl
  rw [run_sliceAt_array_lh w 165 ⟨a, 0, none⟩ (by kernel_rfl) .i64 .i64 1 10 (by omega) (by omega) (by rw [hn]; omega), hsz, hn]
  simp [slicedAt, Addr.add]

set_option maxHeartbeats 2000000 in
theorem encrypted_any (key blk : List UInt8) (w : World) (hk : key.length = 16) (hs : blk.length = 16) (hT : TabQ w) :
    Calls Tryz.prog 133 #[.agg (bcells blk), .agg (bcells (ksL key 11))] w fun e w' => e = .returned (.agg (bcells (enL key blk))) ∧ Below w.heap.size w w' := by
  obtain ⟨hz, hi⟩ := zero_of_info infoAes
  have HG0 := Lib.hid (blk_old (o := .cells szeros 163) (blk_old (o := .cells (bcells (ksL key 11)) 165) (blk_new w (.cells (bcells blk) 163))))
  have HK0 := Lib.hid (blk_old (o := .cells szeros 163) (blk_new2 w (.cells (bcells blk) 163) (.cells (bcells (ksL key 11)) 165)))
  have HR0 := Lib.hid (blk_new3 w (.cells (bcells blk) 163) (.cells (bcells (ksL key 11)) 165) (.cells szeros 163))
  have hb0 := below_new3 w (.cells (bcells blk) 163) (.cells (bcells (ksL key 11)) 165) (.cells szeros 163)
  have hTl := hT.lt
  have HT0 := Lib.hid (hT.step hb0)
  have HKL := Lib.hid hk; have HS := Lib.hid hs
  have HIb := Lib.hid (sizeAes blk hs)
  have HI16 := Lib.hid (zero_of_info infoAes).2
  have HLs0 := Lib.hid (show 0 + 16 ≤ (ksL key 11).length from by rw [ksL_length]; omega)
  have HSub0 := Lib.hid (ksL_sub key 11 0 (by omega) (by omega) hk)
  rw [show 16 * 0 = 0 from rfl, show rk key 0 = key from rfl] at HSub0
  have HP := Lib.hid (fun W => stPlus_any blk key W hs hk)
  have sl := keys_sliced (w.heap.size + 1)
  clear hi hk hs hT
  go_enter Tryz.func133, Tryz.ntmps133
  go_wp2_with (first
    | (with_reducible refine wpList_load_row rfl 163 _ rfl w.heap.size rfl 163 _ (0, 0) _ HG0.out Tryz.underlying163 rfl HIb.out ?_)
    | (with_reducible refine wpList_load_sub rfl 163 _ rfl (w.heap.size + 1) 0 rfl 165 (ksL key 11) 16 (0, 0) _ HK0.out Tryz.underlying163 rfl HI16.out HLs0.out ?_))
  rw [HSub0.out]
  generalize (((w.alloc _).alloc _).alloc _) = W0 at *
  generalize hBB : w.heap.size = B at *
  have HBB := Lib.hid hBB
  clear hBB
  refine (HP.out W0).mono ?_
  rintro e W1 ⟨rfl, hb1⟩
  have hl0 := blk_lt HR0.out
  have HG1 := Lib.hid (blk_below hb1 (by omega) HG0.out)
  have HK1 := Lib.hid (blk_below hb1 (by omega) HK0.out)
  have HR1 := Lib.hid (blk_below hb1 hl0 HR0.out)
  have HT1 := Lib.hid (HT0.out.step hb1)
  have hb2 : Below B w W1 := hb0.trans (hb1.mono (by omega))
  have hl1 := blk_lt HR1.out
  rw [show plS blk key = roS key blk 0 from rfl]
  have hrl := roS_length key blk 0
  have HIr := Lib.hid (sizeAes _ hrl)
  have HOr := Lib.hid (bsize_eq HS.out hrl)
  have H1r := Lib.hid (arr_one (roS key blk 0))
  clear HG0 HK0 HR0 HT0 hb0 hb1 hl0 HP HIb HLs0 HSub0
  have HG2 := Lib.hid (setRow_heap W1 B _ (bcells (roS key blk 0)) _ _ HG1.out)
  have HK2 := Lib.hid (show (W1.setRow B (bcells (roS key blk 0))).heap[B + 1]? = some (.cells (bcells (ksL key 11)) 165) from by rw [setRow_other _ _ _ _ (by omega)]; exact HK1.out)
  have HR2 := Lib.hid (show (W1.setRow B (bcells (roS key blk 0))).heap[B + 1 + 1]? = some (.cells szeros 163) from by rw [setRow_other _ _ _ _ (by omega)]; exact HR1.out)
  have hb3 : Below B w (W1.setRow B (bcells (roS key blk 0))) := below_setRow hb2 (by omega) _
  have HT2 := Lib.hid (show TabQ (W1.setRow B (bcells (roS key blk 0))) from HT1.out.below (B := B) (below_setRow (Below.refl _ _) (by omega) _) hTl)
  go_wp2_with (with_reducible refine wpList_store_row rfl 163 _ _ rfl B (bcells (roS key blk 0)) rfl rfl 163 _ HG1.out HIr.out HOr.out H1r.out ?_)
  clear HG1 HK1 HR1 HT1 hb2 hrl HIr HOr H1r hl1
  generalize W1.setRow _ _ = W2 at *
  go_loopw [13] (fun i wr => ∃ c : Nat, c ≤ 9 ∧ i = .int .i64 (c : Int) ∧ wr.heap[B]? = some (.cells (bcells (roS key blk c)) 163) ∧ wr.heap[B + 1]? = some (.cells (bcells (ksL key 11)) 165) ∧ wr.heap[B + 1 + 1]? = some (.cells szeros 163) ∧ Below B w wr ∧ TabQ wr) (fun i _ => 9 - (intOf i).toNat)
  case atStart => exact ⟨0, by omega, rfl, HG2.out, HK2.out, HR2.out, hb3, HT2.out⟩
  case round =>
    clear HG2 HK2 HR2 hb3 HT2
    obtain ⟨c, hc, rfl, hg, hkk, hr, hb, hT⟩ := hrel
    have HG := Lib.hid hg; have HR := Lib.hid hr; have HT := Lib.hid hT; have HK := Lib.hid hkk
    clear hg hr hT hkk
    have hl0 := blk_lt HR.out
    by_cases hlt : c < 9
    · have hd : decide ((c : Int) < 9) = true := by simp; omega
      have HLs := Lib.hid (show 16 + c * 16 + 16 ≤ (ksL key 11).length from by rw [ksL_length]; omega)
      have hsub : subL (ksL key 11) (16 + c * 16) 16 = rk key (c + 1) := by rw [show 16 + c * 16 = 16 * (c + 1) by omega]; exact ksL_sub key 11 (c + 1) (by omega) (by omega) HKL.out
      have HKN := Lib.hid hsub
      have hkn : (subL (ksL key 11) (16 + c * 16) 16).length = 16 := by rw [hsub]; exact rk_length key HKL.out (c + 1)
      have HIk := Lib.hid (sizeAes _ hkn)
      have HOk := Lib.hid (szeros_size _ hkn)
      have H1k := Lib.hid (arr_one (subL (ksL key 11) (16 + c * 16) 16))
      have HX0 := Lib.hid (blk_new wr (.cells szeros 163))
      have HX := Lib.hid (setRow_heap (wr.alloc (.cells szeros 163)) wr.heap.size _ (bcells (subL (ksL key 11) (16 + c * 16) 16)) _ _ HX0.out)
      have hneq : ∀ k, k < wr.heap.size → ((wr.alloc (.cells szeros 163)).setRow wr.heap.size (bcells (subL (ksL key 11) (16 + c * 16) 16))).heap[k]? = (wr.alloc (.cells szeros 163)).heap[k]? := fun k hk => setRow_other _ _ _ _ (by omega)
      have HG1 := Lib.hid ((hneq B (by omega)).trans (blk_old HG.out))
      have HK1 := Lib.hid ((hneq (B + 1) (by omega)).trans (blk_old HK.out))
      have HR1 := Lib.hid ((hneq (B + 1 + 1) (by omega)).trans (blk_old HR.out))
      have hb1 : Below wr.heap.size wr ((wr.alloc (.cells szeros 163)).setRow wr.heap.size (bcells (subL (ksL key 11) (16 + c * 16) 16))) := below_setRow (below_new _ _) (Nat.le_refl _) _
      have HT1 := Lib.hid (HT.out.step hb1)
      have hb2 : Below B w ((wr.alloc (.cells szeros 163)).setRow wr.heap.size (bcells (subL (ksL key 11) (16 + c * 16) 16))) := hb.trans (hb1.mono (by omega))
      have HKNL := Lib.hid hkn
      clear hsub hkn
      go_wp2_with (first
        | (with_reducible refine wpList_load_sub rfl 163 _ rfl (B + 1) (16 + c * 16) rfl 165 (ksL key 11) 16 (0, 0) _ HK.out Tryz.underlying163 rfl HI16.out HLs.out ?_)
        | (with_reducible refine wpList_store_row rfl 163 _ _ rfl wr.heap.size (bcells (subL (ksL key 11) (16 + c * 16) 16)) rfl rfl 163 _ HX0.out HIk.out HOk.out H1k.out ?_))
      clear HG HK HR HT hb hb1 hneq HX0 HOk H1k HLs
      have hkn := HKNL.out
      generalize subL (ksL key 11) (16 + c * 16) 16 = kn at *
      generalize wr.heap.size = X at *
      generalize World.setRow (World.alloc wr _) _ _ = W3 at *
      have HS0 := Lib.hid (roS_length key blk c)
      have HS1 := Lib.hid (show (swS (roS key blk c)).length = 16 from by rw [swS_length, HS0.out])
      have HS2 := Lib.hid (shS_length (swS (roS key blk c)))
      have HS3 := Lib.hid (mxS_length (shS (swS (roS key blk c))))
      have HE : Hid (plS (mxS (shS (swS (roS key blk c)))) (rk key (c + 1)) = roS key blk (c + 1)) := Lib.hid rfl
      rw [← HKN.out] at HE
      have HI0 := Lib.hid (sizeAes _ HS0.out)
      have C1 := Lib.hid (fun d os => Calls.regrown_of (stSwapped_any (roS key blk c) (grow (redrawn W3 d) os) HS0.out (HT1.out.step (below_regrown W3 d os))))
      have C2 := Lib.hid (fun W => stShifted_any (swS (roS key blk c)) W HS1.out)
      have C3 := Lib.hid (fun W => stMixed_any (shS (swS (roS key blk c))) W HS2.out)
      have C4 := Lib.hid (fun W => stPlus_any (mxS (shS (swS (roS key blk c)))) kn W HS3.out hkn)
      rw [HE.out] at C4
      have hrl := roS_length key blk (c + 1)
      have HIn := Lib.hid (sizeAes _ hrl)
      have HOn := Lib.hid (bsize_eq HS0.out hrl)
      have H1n := Lib.hid (arr_one (roS key blk (c + 1)))
      clear hrl hkn HS0 HS1 HS2 HS3 HE HKN
      generalize mxS (shS (swS (roS key blk c))) = s3 at *
      generalize shS (swS (roS key blk c)) = s2 at *
      generalize swS (roS key blk c) = s1 at *
      have hl3 := blk_lt HR1.out
      refine wp_region_reads_tail 6 (by kernel_rfl) (by kernel_rfl) ?_
      simp only [List.take_succ_cons, List.take_zero, List.drop_succ_cons, List.drop_zero]
      refine arr_quiet_load rfl 163 _ rfl ⟨B, 0, none⟩ rfl _ (arr_row_regrown 163 B 163 _ (0, 0) _ HG1.out Tryz.underlying163 rfl HI0.out) ?_
      simp only [Act.put, List.setIfInBounds_toArray, List.set_cons_succ, List.set_cons_zero]
      repeat (first | go_big_quiet_step ((first | exact C1.out _ _ | exact Calls.regrown_of (C2.out _) | exact Calls.regrown_of (C3.out _) | exact Calls.regrown_of (C4.out _))) | quiet_step ((first | exact C1.out _ _ | exact Calls.regrown_of (C2.out _) | exact Calls.regrown_of (C3.out _) | exact Calls.regrown_of (C4.out _))))
      refine arr_quiet_load rfl 163 _ rfl ⟨X, 0, none⟩ rfl _ (arr_row_regrown 163 X 163 _ (0, 0) _ HX.out Tryz.underlying163 rfl HIk.out) ?_
      simp only [Act.put, List.setIfInBounds_toArray, List.set_cons_succ, List.set_cons_zero]
      repeat (first | go_big_quiet_step ((first | exact C1.out _ _ | exact Calls.regrown_of (C2.out _) | exact Calls.regrown_of (C3.out _) | exact Calls.regrown_of (C4.out _))) | quiet_step ((first | exact C1.out _ _ | exact Calls.regrown_of (C2.out _) | exact Calls.regrown_of (C3.out _) | exact Calls.regrown_of (C4.out _))))
      refine wpQuiet_nil ?_
      intro Y hY
      have HG2 := Lib.hid (blk_below hY (by omega) HG1.out)
      have HK2 := Lib.hid (blk_below hY (by omega) HK1.out)
      have HR2 := Lib.hid (blk_below hY hl3 HR1.out)
      have HT2 := Lib.hid (HT1.out.step hY)
      have hb3 : Below B w Y := hb2.trans (hY.mono (by omega))
      have hl4 := blk_lt HR2.out
      clear HG1 HK1 HR1 HT1 hb2 hY C1 C2 C3 C4 HX HIk hl3
      have HG3 := Lib.hid (setRow_heap Y B _ (bcells (roS key blk (c + 1))) _ _ HG2.out)
      have HK3 := Lib.hid (show (Y.setRow B (bcells (roS key blk (c + 1)))).heap[B + 1]? = some (.cells (bcells (ksL key 11)) 165) from by rw [setRow_other _ _ _ _ (by omega)]; exact HK2.out)
      have HR3 := Lib.hid (show (Y.setRow B (bcells (roS key blk (c + 1)))).heap[B + 1 + 1]? = some (.cells szeros 163) from by rw [setRow_other _ _ _ _ (by omega)]; exact HR2.out)
      have hb4 : Below B w (Y.setRow B (bcells (roS key blk (c + 1)))) := below_setRow hb3 (by omega) _
      have HT3 := Lib.hid (show TabQ (Y.setRow B (bcells (roS key blk (c + 1)))) from HT2.out.below (B := B) (below_setRow (Below.refl _ _) (by omega) _) hTl)
      go_wp2_with (with_reducible refine wpList_store_row rfl 163 _ _ rfl B (bcells (roS key blk (c + 1))) rfl rfl 163 _ HG2.out HIn.out HOn.out H1n.out ?_)
      clear HG2 HK2 HR2 HT2 hb3 hl4
      go_roundw
      case rel => exact ⟨c + 1, by omega, by go_num, HG3.out, HK3.out, HR3.out, hb4, HT3.out⟩
      case measure => simp [intOf]; omega
    · have hd : decide ((c : Int) < 9) = false := by simp; omega
      obtain rfl : c = 9 := by omega
      have HI16k := HI16
      have HS0 := Lib.hid (roS_length key blk 9)
      have HS1 := Lib.hid (show (swS (roS key blk 9)).length = 16 from by rw [swS_length, HS0.out])
      have HS2 := Lib.hid (shS_length (swS (roS key blk 9)))
      have HE : Hid (plS (shS (swS (roS key blk 9))) (rk key 10) = enL key blk) := Lib.hid rfl
      have HKN := Lib.hid (ksL_sub key 11 10 (by omega) (by omega) HKL.out)
      have HLs := Lib.hid (show 160 + 16 ≤ (ksL key 11).length from by rw [ksL_length]; omega)
      rw [show 16 * 10 = 160 from rfl] at HKN
      have hkn := rk_length key HKL.out 10
      have HI0 := Lib.hid (sizeAes _ HS0.out)
      have HTr := Lib.hid HT.out
      have C1 := Lib.hid (fun d os => Calls.regrown_of (stSwapped_any (roS key blk 9) (grow (redrawn wr d) os) HS0.out (HT.out.step (below_regrown wr d os))))
      have C2 := Lib.hid (fun W => stShifted_any (swS (roS key blk 9)) W HS1.out)
      have C4 := Lib.hid (fun W => stPlus_any (shS (swS (roS key blk 9))) (rk key 10) W HS2.out hkn)
      rw [HE.out] at C4
      have HQ := Lib.hid (fun n os => sub_regrown 163 (B + 1) 160 165 (ksL key 11) 16 (0, 0) _ HK.out Tryz.underlying163 rfl HI16.out HLs.out n os)
      rw [HKN.out] at HQ
      have hrl := enL_length key blk
      have HIn := Lib.hid (sizeAes _ hrl)
      have HOn := Lib.hid (szeros_size _ hrl)
      have H1n := Lib.hid (arr_one (enL key blk))
      clear hrl hkn HS0 HS1 HS2 HE HKN HLs
      generalize shS (swS (roS key blk 9)) = s2 at *
      generalize swS (roS key blk 9) = s1 at *
      generalize rk key 10 = kn at *
      generalize hrow : enL key blk = row at *
      have HROW := Lib.hid hrow
      clear hrow
      go_wp2_with fail
      refine wp_region_reads_tail 6 (by kernel_rfl) (by kernel_rfl) ?_
      simp only [List.take_succ_cons, List.take_zero, List.drop_succ_cons, List.drop_zero]
      refine arr_quiet_load rfl 163 _ rfl ⟨B, 0, none⟩ rfl _ (arr_row_regrown 163 B 163 _ (0, 0) _ HG.out Tryz.underlying163 rfl HI0.out) ?_
      simp only [Act.put, List.setIfInBounds_toArray, List.set_cons_succ, List.set_cons_zero]
      repeat (first | go_big_quiet_step ((first | exact C1.out _ _ | exact Calls.regrown_of (C2.out _) | exact Calls.regrown_of (C4.out _))) | quiet_step ((first | exact C1.out _ _ | exact Calls.regrown_of (C2.out _) | exact Calls.regrown_of (C4.out _))))
      refine arr_quiet_load rfl 163 _ rfl ⟨B + 1, 160, none⟩ rfl _ HQ.out ?_
      simp only [Act.put, List.setIfInBounds_toArray, List.set_cons_succ, List.set_cons_zero]
      repeat (first | go_big_quiet_step ((first | exact C1.out _ _ | exact Calls.regrown_of (C2.out _) | exact Calls.regrown_of (C4.out _))) | quiet_step ((first | exact C1.out _ _ | exact Calls.regrown_of (C2.out _) | exact Calls.regrown_of (C4.out _))))
      refine wpQuiet_nil ?_
      intro Y hY
      have HR2 := Lib.hid (blk_below hY hl0 HR.out)
      have hb3 : Below B w Y := hb.trans (hY.mono (by omega))
      clear HG HK HR HT HTr hb hY C1 C2 C4 HQ
      go_wp2_with (with_reducible refine wpList_store_row rfl 163 _ _ rfl (B + 1 + 1) (bcells row) rfl rfl 163 _ HR2.out HIn.out HOn.out H1n.out ?_)
      exact bodyPost_ret (v := .agg (bcells row)) (results_cell_row (by rfl) _ _ (B + 1 + 1) 163 _ (0, 0) _ rfl (setRow_heap _ _ _ _ _ _ HR2.out) Tryz.underlying163 rfl HIn.out) rfl ⟨by first | (with_reducible rfl) | rw [HROW.out], by rw [HBB.out]; exact below_setRow hb3 (by omega) _⟩
end

section
open Go.RowKit Go.Sort
set_option maxRecDepth 100000
set_option linter.unusedSimpArgs false
set_option linter.unusedVariables false

def encS (key b : ByteArray) : ByteArray := ⟨(enL key.data.toList b.data.toList).toArray⟩
theorem encS_size (key b : ByteArray) : (encS key b).size = 16 := by
  have := enL_length key.data.toList b.data.toList
  simpa [encS, ByteArray.size] using this
theorem info_string : (Tryz.prog.info? 9).map (fun i => (i.zero, i.size, i.bytes)) = some (some (.string ⟨#[]⟩), 1, 16) := by kernel_rfl
/-- The cells of texts. -/
def scells (l : List ByteArray) : Array Value := (l.map Value.string).toArray
theorem scells_size (l : List ByteArray) : (scells l).size = l.length := by simp [scells]
theorem scells_get (l : List ByteArray) (j : Nat) (x : ByteArray) (h : l[j]? = some x) : (scells l)[j]? = some (.string x) := by simp [scells, h]
theorem scells_set (l : List ByteArray) (j : Nat) (x : ByteArray) : (scells l).setIfInBounds j (.string x) = scells (l.set j x) := by simp [scells, List.map_set]
theorem made_texts (n : Nat) : madeCells (Value.string ⟨#[]⟩).cells n = scells (List.replicate n ⟨#[]⟩) := by
  apply Array.ext_getElem?
  intro i
  by_cases h : i < n
  · simp [madeCells, scells, Value.cells, h, Nat.mod_one]
  · simp [madeCells, scells, Value.cells, h]
/-- A slice's texts. -/
def TextsAt (W : World) (ao : Option Addr) (n : Nat) (f : Nat → ByteArray) : Prop := ∀ j, j < n → ∃ g off, ao = some ⟨g, off, none⟩ ∧ W.cell? ⟨g, off + j, none⟩ = some (.string (f j))
theorem TextsAt.step {W W' : World} {ao : Option Addr} {n : Nat} {f : Nat → ByteArray} (h : TextsAt W ao n f) (hb : Below W.heap.size W W') : TextsAt W' ao n f := fun j hj => by
  obtain ⟨g, off, ha, hc⟩ := h j hj
  exact ⟨g, off, ha, (hb.cell (block_lt_of_cell hc)).trans hc⟩

set_option maxHeartbeats 1000000 in
theorem blocksKey_any (key : ByteArray) (ao : Option Addr) (n cap : Nat) (w : World) (hk : key.size ≠ 16) :
    Calls Tryz.prog 109 #[.string key, .slice ao n cap] w fun e w' => e = .returned (.tuple #[.slice none 0 0, .int .i64 21]) ∧ Below w.heap.size w w' := by
  have hd1 : ((key.size : Int) != 16) = true := by simp; omega
  go_enter Tryz.func109, Tryz.ntmps109
  go_wp2_with fail
  go_ret2
  exact ⟨rfl, Below.refl _ _⟩

set_option maxHeartbeats 1000000 in
theorem blocksArg_any (key : ByteArray) (ao : Option Addr) (n cap : Nat) (f : Nat → ByteArray) (j0 : Nat) (w : World) (hk : key.size = 16) (hn : n ≤ 1500) (hc : TextsAt w ao n f) (hj : j0 < n) (hbad : (f j0).size ≠ 16) (hok : ∀ i, i < j0 → (f i).size = 16) :
    Calls Tryz.prog 109 #[.string key, .slice ao n cap] w fun e w' => e = .returned (.tuple #[.slice none 0 0, .int .i64 1]) ∧ Below w.heap.size w w' := by
  have hd1 : ((key.size : Int) != 16) = false := by simp [hk]
  have HC := Lib.hid hc
  have HB := Lib.hid hbad
  have HO := Lib.hid hok
  clear hc hbad hok hk
  go_enter Tryz.func109, Tryz.ntmps109
  go_wp2_with fail
  go_loopw [18] (fun i wr => ∃ k : Nat, k ≤ j0 ∧ i = .int .i64 (k : Int) ∧ w = wr) (fun i _ => n - (intOf i).toNat)
  case atStart => exact ⟨0, by omega, rfl, rfl⟩
  case round =>
    obtain ⟨k, hk, rfl, rfl⟩ := hrel
    have hd : decide ((k : Int) < (n : Int)) = true := by simp; omega
    have hkn : k < n := by omega
    obtain ⟨g, off, rfl, hcell⟩ := HC.out k hkn
    by_cases hlt : k < j0
    · have hd2 : (((f k).size : Int) != 16) = false := by simp [HO.out k hlt]
      go_wp2_with fail
      go_roundw
      case rel => exact ⟨k + 1, by omega, by go_num, by first | rfl | trivial⟩
      case measure => simp [intOf]; omega
    · obtain rfl : k = j0 := by omega
      have hd2 : (((f k).size : Int) != 16) = true := by have := HB.out; simp; omega
      go_wp2_with fail
      go_ret2
      exact ⟨rfl, Below.refl _ _⟩

/-- The answers while they are laid. -/
def ansP (key : ByteArray) (f : Nat → ByteArray) (n m : Nat) : List ByteArray := (List.range n).map fun j => if j < m then encS key (f j) else ⟨#[]⟩
theorem ansP_length (key : ByteArray) (f : Nat → ByteArray) (n m : Nat) : (ansP key f n m).length = n := by simp [ansP]
theorem ansP_zero (key : ByteArray) (f : Nat → ByteArray) (n : Nat) : ansP key f n 0 = List.replicate n ⟨#[]⟩ := by
  apply List.ext_getElem?
  intro i
  by_cases h : i < n
  · simp [ansP, h]
  · simp [ansP, h]
theorem ansP_succ (key : ByteArray) (f : Nat → ByteArray) (n m : Nat) (h : m < n) : (ansP key f n m).set m (encS key (f m)) = ansP key f n (m + 1) := by
  apply List.ext_getElem?
  intro i
  rw [List.getElem?_set]
  by_cases e : m = i
  · subst e
    rw [if_pos rfl, if_pos (by rw [ansP_length]; exact h)]
    simp [ansP, h]
  · rw [if_neg e]
    by_cases hi : i < n
    · by_cases hm : i < m
      · simp [ansP, hi, hm, show i < m + 1 by omega]
      · simp [ansP, hi, hm, show ¬ i < m + 1 by omega]
    · simp [ansP, hi]

set_option maxHeartbeats 2000000 in
theorem blocks_any (key : ByteArray) (ao : Option Addr) (n cap : Nat) (f : Nat → ByteArray) (w : World) (hk : key.size = 16) (hn : n ≤ 1500) (hc : TextsAt w ao n f) (hok : ∀ i, i < n → (f i).size = 16) (hT : TabQ w) :
    Calls Tryz.prog 109 #[.string key, .slice ao n cap] w fun e w' => (∃ g, e = .returned (.tuple #[.slice (some ⟨g, 0, none⟩) n n, .int .i64 0]) ∧ w.heap.size ≤ g ∧ w'.heap[g]? = some (.cells (scells (ansP key f n n)) 9)) ∧ Below w.heap.size w w' := by
  have hd1 : ((key.size : Int) != 16) = false := by simp [hk]
  have HC := Lib.hid hc
  have HO := Lib.hid hok
  have HK := Lib.hid hk
  have HT := Lib.hid hT
  have HT0 := Lib.hid hT
  have HC0 := Lib.hid hc
  have HR := Lib.hid (roundKeys_any key w hk hT)
  clear hc hok hk hT
  go_enter Tryz.func109, Tryz.ntmps109
  go_wp2_with fail
  go_loopw [18] (fun i wr => ∃ k : Nat, k ≤ n ∧ i = .int .i64 (k : Int) ∧ w = wr) (fun i _ => n - (intOf i).toNat)
  case atStart => exact ⟨0, by omega, rfl, rfl⟩
  case round =>
    obtain ⟨k, hk, rfl, rfl⟩ := hrel
    by_cases hlt : k < n
    · have hd : decide ((k : Int) < (n : Int)) = true := by simp; omega
      obtain ⟨g, off, rfl, hcell⟩ := HC.out k hlt
      have hd2 : (((f k).size : Int) != 16) = false := by simp [HO.out k hlt]
      go_wp2_with fail
      go_roundw
      case rel => exact ⟨k + 1, by omega, by go_num, by first | rfl | trivial⟩
      case measure => simp [intOf]; omega
    · have hd : decide ((k : Int) < (n : Int)) = false := by simp; omega
      obtain rfl : k = n := by omega
      obtain ⟨hzs, his⟩ := zero_of_info infoSch
      go_wp2_with fail
      refine HR.out.mono ?_
      rintro e W1 ⟨rfl, hb1⟩
      have hkl := ksL_length key.data.toList 11
      have HIs := Lib.hid (sizeSch _ hkl)
      have HOs := Lib.hid (kzeros_size _ hkl)
      have H1s := Lib.hid (arr_one (ksL key.data.toList 11))
      have HS0 := Lib.hid (blk_new W1 (.cells kzeros 165))
      have HS1 := Lib.hid (setRow_heap (W1.alloc (.cells kzeros 165)) W1.heap.size _ (bcells (ksL key.data.toList 11)) _ _ HS0.out)
      have hb2 : Below W1.heap.size W1 ((W1.alloc (.cells kzeros 165)).setRow W1.heap.size (bcells (ksL key.data.toList 11))) := below_setRow (below_new _ _) (Nat.le_refl _) _
      have HGE := Lib.hid (show ((W1.alloc (.cells kzeros 165)).setRow W1.heap.size (bcells (ksL key.data.toList 11))).heap.size = W1.heap.size + 1 from by simp)
      have HT1 := Lib.hid ((HT.out.step hb1).step hb2)
      have HC1 := Lib.hid ((HC.out.step hb1).step hb2)
      have hb3 := hb1.trans (hb2.mono hb1.size)
      have hlS := blk_lt HS1.out
      have hBS := hb1.size
      obtain ⟨i0, hi0, hz0, hz1, hz2⟩ := info_parts info_string
      have hmk : ∀ W : World, (Instr.makeSlice 33 (.int .i64 (k : Int)) (.int .i64 (k : Int))).run Tryz.prog W = .ok (.slice (some ⟨W.heap.size, 0, none⟩) k k) (W.alloc (.cells (scells (ansP key f k 0)) 9)) := fun W => by
        have h := run_makeSlice W 33 9 i0 (.string ⟨#[]⟩) Tryz.underlying33 hi0 hz0 .i64 .i64 (k : Int) (k : Int) (by omega) (by omega) (by rw [hz1]; omega) (by rw [hz2]; omega) (by omega)
        rw [hz1, made_texts, Int.toNat_natCast, Nat.mul_one] at h
        rw [ansP_zero]
        exact h
      clear hkl hi0 hz0 hz1 hz2 his
      have HLK := Lib.hid (show key.data.toList.length = 16 from by rw [← Lib.size_eq]; exact HK.out)
      go_wp2_with (first
        | (with_reducible refine wpList_store_row rfl 165 _ _ rfl W1.heap.size (bcells (ksL key.data.toList 11)) rfl rfl 165 _ HS0.out HIs.out HOs.out H1s.out ?_))
      generalize W1.heap.size = S at *
      generalize World.setRow (World.alloc W1 _) _ _ = W2 at *
      clear hmk hb1 hb2 HS0 HOs H1s HR HT HC hzs
      have HG2 := Lib.hid (blk_new W2 (.cells (scells (ansP key f k 0)) 9))
      have HS2 := Lib.hid (blk_old (o := .cells (scells (ansP key f k 0)) 9) HS1.out)
      have hb4 := below_new W2 (.cells (scells (ansP key f k 0)) 9)
      have HT2 := Lib.hid (HT1.out.step hb4)
      have HC2 := Lib.hid (HC1.out.step hb4)
      have hb5 := hb3.trans (hb4.mono hb3.size)
      rw [HGE.out] at HG2
      clear HS1 HT1 HC1 hb3 hb4 hlS HGE
      generalize (W2.alloc _) = W3 at *
      go_loopw [33] (fun i wr => ∃ m : Nat, m ≤ k ∧ i = .int .i64 (m : Int) ∧ wr.heap[S]? = some (.cells (bcells (ksL key.data.toList 11)) 165) ∧ wr.heap[S + 1]? = some (.cells (scells (ansP key f k m)) 9) ∧ TabQ wr ∧ TextsAt wr ao k f ∧ Below w.heap.size w wr) (fun i _ => k - (intOf i).toNat)
      case atStart => exact ⟨0, by omega, rfl, HS2.out, HG2.out, HT2.out, HC2.out, hb5⟩
      case round =>
        clear HS2 HG2 HT2 HC2 hb5
        obtain ⟨m, hm, rfl, hs, hg, hT, hC, hb⟩ := hrel
        have HSr := Lib.hid hs; have HGr := Lib.hid hg; have HTr := Lib.hid hT; have HCr := Lib.hid hC
        clear hs hg hT hC
        by_cases hlt : m < k
        · have hd3 : decide ((m : Int) < (k : Int)) = true := by simp; omega
          obtain ⟨g, off, rfl, hcell⟩ := HCr.out m hlt
          have hbl : (f m).data.toList.length = 16 := by rw [← Lib.size_eq]; exact HO.out m hlt
          have HF1 := Lib.hid (fun W => stateOf_any (f m) W (HO.out m hlt))
          have HF2 := Lib.hid (fun W hT => encrypted_any key.data.toList (f m).data.toList W HLK.out hbl hT)
          have hel := enL_length key.data.toList (f m).data.toList
          have HIe := Lib.hid (sizeAes _ hel)
          have HOe := Lib.hid (szeros_size _ hel)
          have H1e := Lib.hid (arr_one (enL key.data.toList (f m).data.toList))
          have HEL := Lib.hid hel
          have HES : Hid (encS key (f m) = ⟨(enL key.data.toList (f m).data.toList).toArray⟩) := Lib.hid rfl
          have HN := Lib.hid (ansP_succ key f k m hlt)
          clear hel hbl
          obtain ⟨hzA, hiA⟩ := zero_of_info infoAes
          go_wp2_with fail
          generalize f m = t at *
          generalize enL key.data.toList t.data.toList = el at *
          refine wp_region_fresh 5 49 [.val (.string t) [(11, .string t)], .val (.agg (bcells t.data.toList)) [(38, .string t)], .val (.agg (bcells (ksL key.data.toList 11))) [(8, .pointer (some ⟨S, 0, none⟩))],
            .val (.agg (bcells el)) [(39, .agg (bcells t.data.toList)), (40, .agg (bcells (ksL key.data.toList 11)))], .fresh (.cells szeros 163)]
            (by kernel_rfl) (by kernel_rfl) rfl ?_ ?_ ?_
          · simp only [List.take_succ_cons, List.take_zero, headObl, specObl, HeadSpec.val, HeadSpec.fresh, and_true]
            refine ⟨?_, ?_, ?_, ?_, ?_⟩
            · intro a w hb h
              have e := h (11, .string t) (by simp)
              simp only [Array.getD_eq_getD_getElem?] at e
              simp [go_sem, e, sQuiet]
            · intro a w hb h
              have e := h (38, .string t) (by simp)
              simp only [Array.getD_eq_getD_getElem?] at e
              simp [go_sem, e, sQuiet]
              exact HF1.out w
            · intro a w hb h
              have e0 := h (8, .pointer (some ⟨S, 0, none⟩)) (by simp)
              exact sQuiet_load_row 165 (.tmp 8) rfl S e0 165 _ (0, 0) _ (blk_below hb (blk_lt HSr.out) HSr.out) Tryz.underlying165 rfl HIs.out
            · intro a w hb h
              have e0 := h (39, .agg (bcells t.data.toList)) (by simp)
              have e1 := h (40, .agg (bcells (ksL key.data.toList 11))) (by simp)
              simp only [Array.getD_eq_getD_getElem?] at e0 e1
              simp [go_sem, e0, e1, sQuiet]
              exact HF2.out w (HTr.out.step hb)
            · intro a w hb
              simp [go_sem, hzA]
          · simp [headReads, headPut, specV, HeadSpec.val, HeadSpec.fresh, Act.put]
          · simp only [List.take_succ_cons, List.take_zero, List.drop_succ_cons, List.drop_zero, headEnd, HeadSpec.val, HeadSpec.fresh, Act.put, List.setIfInBounds_toArray, List.set_cons_succ, List.set_cons_zero]
            intro g4 hg4 _ w1 hb1 hgs
            have HG4 := Lib.hid (show w1.heap[g4]? = some (.cells szeros 163) from hgs (g4, .cells szeros 163) (by simp))
            clear hgs
            have HR4 := Lib.hid (setRow_heap w1 g4 _ (bcells el) _ _ HG4.out)
            have hlw := blk_lt HGr.out
            have hbr : Below wr.heap.size wr (w1.setRow g4 (bcells el)) := below_setRow hb1 hg4 _
            have HGn := Lib.hid (blk_below hbr hlw HGr.out)
            have HSn := Lib.hid (blk_below hbr (blk_lt HSr.out) HSr.out)
            have HTn := Lib.hid (HTr.out.step hbr)
            have HCn := Lib.hid (HCr.out.step hbr)
            have hbn := hb.trans (hbr.mono hb.size)
            have sl := arr_sliced_all 163 16 g4 (by kernel_rfl) (by kernel_rfl) (by kernel_rfl) (by omega)
            have hcv := run_string_row (w1.setRow g4 (bcells el)) g4 16 el (cells_of_bcells HR4.out)
            rw [HEL.out] at hcv
            have hml : m < (ansP key f k m).length := by rw [ansP_length]; exact hlt
            have hco : (w1.setRow g4 (bcells el)).cell? ⟨S + 1, m, none⟩ = some (.string (ansP key f k m)[m]) := by rw [cell_of_row _ _ _ _ _ _ HGn.out]; exact scells_get _ _ _ (List.getElem?_eq_getElem hml)
            have hfo := frozen_of_row _ (S + 1) m _ _ HGn.out
            generalize (ansP key f k m)[m] = old at hco
            have HGs := Lib.hid (show ((w1.setRow g4 (bcells el)).setCell ⟨S + 1, m, none⟩ (.string ⟨el.toArray⟩)).heap[S + 1]? = some (.cells (scells (ansP key f k (m + 1))) 9) from by
              rw [← HN.out, HES.out, ← scells_set]; exact Go.heap_setCell_same _ _ _ _ _ _ HGn.out)
            have HSs := Lib.hid (show ((w1.setRow g4 (bcells el)).setCell ⟨S + 1, m, none⟩ (.string ⟨el.toArray⟩)).heap[S]? = some (.cells (bcells (ksL key.data.toList 11)) 165) from by rw [heap_setCell_other _ _ _ _ (by simp <;> omega)]; exact HSn.out)
            have hbs : Below w.heap.size w ((w1.setRow g4 (bcells el)).setCell ⟨S + 1, m, none⟩ (.string ⟨el.toArray⟩)) := hbn.setCell (by simp <;> omega) _
            have HTs := Lib.hid (show TabQ ((w1.setRow g4 (bcells el)).setCell ⟨S + 1, m, none⟩ (.string ⟨el.toArray⟩)) from HT0.out.step hbs)
            have HCs := Lib.hid (show TextsAt ((w1.setRow g4 (bcells el)).setCell ⟨S + 1, m, none⟩ (.string ⟨el.toArray⟩)) (some ⟨g, off, none⟩) k f from HC0.out.step hbs)
            clear HSr HGr HTr HCr hb hb1 hbr hlw HF1 HF2 HGn HSn HTn HCn hbn HR4
            go_wp2_with (with_reducible refine wpList_store_row rfl 163 _ _ rfl g4 (bcells el) rfl rfl 163 _ HG4.out HIe.out HOe.out H1e.out ?_)
            go_roundw
            case rel => exact ⟨m + 1, by omega, by go_num, HSs.out, HGs.out, HTs.out, HCs.out, hbs⟩
            case measure => simp [intOf]; omega
        · have hd3 : decide ((m : Int) < (k : Int)) = false := by simp; omega
          obtain rfl : m = k := by omega
          go_wp2_with fail
          go_ret2
          exact ⟨⟨S + 1, rfl, by omega, HGr.out⟩, hb⟩

theorem texts_one (w : World) (b : ByteArray) : TextsAt (w.alloc (.cells #[.string b] 9)) (some ⟨w.heap.size, 0, none⟩) 1 (fun _ => b) := fun j hj => ⟨w.heap.size, 0, rfl, by
  obtain rfl : j = 0 := by omega
  rw [cell_of_row _ _ _ _ _ _ (blk_new w _)]; rfl⟩

theorem texts_of_own {W : World} {base n cap : Nat} {ao : Option Addr} {f : Nat → ByteArray} (h : Own W base (.slice ao n cap) ((List.range n).map fun i => Value.string (f i))) : TextsAt W ao n f := fun j hj => by
  obtain ⟨g, c, hv, ho, _⟩ := h.some (by simp; omega)
  injection hv with h1 _ _
  refine ⟨g, 0, h1, ?_⟩
  rw [Nat.zero_add]
  exact ho.cells j _ (by simp [hj])
end

section
open Go.ChangeShapes Go.WideShapes Go.ChangeAt Go.WideMaps Go.WideElems Go.RowKit
set_option maxRecDepth 100000
set_option linter.unusedSimpArgs false
set_option linter.unusedVariables false

def laid1 : List (String × DataW Unit) := [("cresset/aes.squares", Rows.laid_cresset_aes_squares)]
theorem own1 : ownKnob Tryz.prog.godebug = none := by kernel_rfl
theorem gQ : Tryz.prog.globalNamed "cresset/aes.squares" = some 3 := by kernel_rfl
theorem tQ : (Tryz.prog.globals[3]?).map (·.type) = some 204 := by kernel_rfl
/-- The door's own heap meets the condition. -/
theorem door_met1 (os : Os) (args : Array Value) : laidMetH Tryz.prog laid1 ((World.doorLaid Tryz.prog 400 os).forCall (fun _ _ => 0) ⟨#[], args, []⟩).memory :=
  laidMetH_of_parts3 (fuel := 8) (laidMet_of_run' 8 (by kernel_rfl) (by kernel_rfl)) (by kernel_rfl) (by kernel_rfl)
/-- What the condition gives the walks. -/
theorem of_laid1 {W : World} (h : laidMetH Tryz.prog laid1 W) : TabQ W := by
  rw [MakeChecks.laidMetH_plain _ _ _ (by kernel_rfl)] at h
  obtain ⟨ps, ⟨g0, t0, cs0, f0, p0, q0, hg0, ht0, hv0, hd0, _, _⟩, _, _⟩ := h
  obtain rfl := Option.some.inj (gQ.symm.trans hg0)
  obtain rfl := Option.some.inj (tQ.symm.trans ht0)
  have e0 : cs0.toList = ([1, 4, 16, 64, 27, 108, 171, 154] : List Int).map fun z => Value.int .u64 z := Lib.cells_of_tab (n := 8) Tryz.underlying204 Tryz.underlying185 (by kernel_rfl) (by kernel_rfl) hd0
  intro t ht
  have := World.var?_cell hg0 hv0 t
  rw [this, ← Array.getElem?_toList, e0]
  rcases (show t = 0 ∨ t = 1 ∨ t = 2 ∨ t = 3 ∨ t = 4 ∨ t = 5 ∨ t = 6 ∨ t = 7 by omega) with rfl | rfl | rfl | rfl | rfl | rfl | rfl | rfl <;> rfl
end
end Go.Proofs.YtffnafikegakcaaGreatDoor
