/- The program's small functions on words of eight bytes. -/
import Derived.Test.YtoejkiblampecaaDoorAesSpec
namespace Go.Proofs.YtoejkiblampecaaDoor
open Go.RowKit Go.Sort
set_option maxRecDepth 100000
set_option linter.unusedSimpArgs false
set_option linter.unusedVariables false

/-- The variable holds the table. -/
def TabQ (w : World) : Prop := ∀ t, t < 8 → w.cell? ⟨0, t, none⟩ = some (.int .u64 ((sqT.getD t 0 : Nat) : Int))
theorem TabQ.lt {w : World} (h : TabQ w) : 0 < w.heap.size := block_lt_of_cell (h 0 (by omega))
theorem TabQ.below {w w' : World} {B : Nat} (h : TabQ w) (hb : Below B w w') (hB : 0 < B) : TabQ w' := fun t ht => (hb.cell hB).trans (h t ht)
theorem TabQ.step {w w' : World} (h : TabQ w) (hb : Below w.heap.size w w') : TabQ w' := h.below hb h.lt

theorem dbl_walk (a : Nat) (ha : a < 18446744073709551616) : bits .xor .u64 (IntKind.u64.wrap (bits .andNot .u64 (a : Int) 9259542123273814144 * 2)) (IntKind.u64.wrap (bits .and .u64 ((a : Int) / 128) 72340172838076673 * 27)) = ((dblW a : Nat) : Int) := by
  rw [IntKind.wrap_u64, IntKind.wrap_u64]
  have e1 := u64_andNot_nat a 9259542123273814144 ha (by decide)
  have e2 := u64_and_nat (a >>> 7) lowm (by rw [Nat.shiftRight_eq_div_pow]; omega) (by decide)
  rw [show (((a >>> 7 : Nat) : Nat) : Int) = (a : Int) / 128 from by rw [Nat.shiftRight_eq_div_pow]; simp] at e2
  rw [show ((9259542123273814144 : Nat) : Int) = 9259542123273814144 from rfl] at e1
  rw [show ((lowm : Nat) : Int) = 72340172838076673 from rfl] at e2
  rw [e1, e2]
  have l2 := low_mul_lt (a >>> 7) 27 (by decide)
  have e3 := u64_xor_nat ((a &&& 9187201950435737471) * 2 % 18446744073709551616) (((a >>> 7) &&& lowm) * 27) (Nat.mod_lt _ (by decide)) l2
  rw [dblW, ← e3]
  congr 1
  rw [Int.emod_eq_of_lt (by omega) (by omega)]
  simp

theorem doubled_any (a : Nat) (w : World) (ha : a < 18446744073709551616) :
    Calls Tryd.prog 55 #[.int .u64 (a : Int)] w fun e w' => e = .returned (.int .u64 ((dblW a : Nat) : Int)) ∧ w = w' := by
  have H := Lib.hid (dbl_walk a ha)
  go_enter Tryd.func55, Tryd.ntmps55
  go_wp2
  go_ret
  exact ⟨by rw [← H.out]; rfl, rfl⟩

theorem mul_walk (o x b : Nat) (ho : o < 18446744073709551616) (hx : x < 18446744073709551616) (hb : b < 18446744073709551616) : bits .xor .u64 (o : Int) (bits .and .u64 (x : Int) (IntKind.u64.wrap (bits .and .u64 (b : Int) 72340172838076673 * 255))) = ((o ^^^ (x &&& (b &&& lowm) * 255) : Nat) : Int) := by
  rw [IntKind.wrap_u64]
  have e2 := u64_and_nat b lowm hb (by decide)
  rw [show ((lowm : Nat) : Int) = 72340172838076673 from rfl] at e2
  have l2 := low_mul_lt b 255 (by decide)
  rw [e2, show (((b &&& lowm : Nat) : Int) * 255 % 18446744073709551616) = (((b &&& lowm) * 255 : Nat) : Int) from by rw [Int.emod_eq_of_lt (by omega) (by omega)]; simp, u64_and_nat x _ hx l2, u64_xor_nat o _ ho (and_lt64 l2)]

set_option maxHeartbeats 1000000 in
theorem lanesTimes_any (a b : Nat) (w : World) (ha : a < 18446744073709551616) (hb : b < 18446744073709551616) :
    Calls Tryd.prog 70 #[.int .u64 (a : Int), .int .u64 (b : Int)] w fun e w' => e = .returned (.int .u64 ((mulW a b : Nat) : Int)) ∧ w = w' := by
  go_enter Tryd.func70, Tryd.ntmps70
  go_wp2_with fail
  go_loopw [0, 1, 5, 6] (fun av bv ov i wr => ∃ k : Nat, k ≤ 8 ∧ i = .int .i64 (k : Int) ∧ av = .int .u64 (((mulS a b k).2 : Nat) : Int) ∧ bv = .int .u64 ((b >>> k : Nat) : Int) ∧ ov = .int .u64 (((mulS a b k).1 : Nat) : Int) ∧ w = wr) (fun _ _ _ i _ => 8 - (intOf i).toNat)
  case atStart => exact ⟨0, by omega, rfl, rfl, rfl, rfl, rfl⟩
  case round =>
    obtain ⟨k, hk, rfl, rfl, rfl, rfl, rfl⟩ := hrel
    by_cases hlt : k < 8
    · have hd : decide ((k : Int) < 8) = true := by simp; omega
      obtain ⟨l1, l2⟩ := mulS_lt a b ha k
      have lb : b >>> k < 18446744073709551616 := by rw [Nat.shiftRight_eq_div_pow]; exact Nat.lt_of_le_of_lt (Nat.div_le_self _ _) hb
      have HW := Lib.hid (mul_walk (mulS a b k).1 (mulS a b k).2 (b >>> k) l1 l2 lb)
      have HS1 : Hid ((mulS a b (k + 1)).1 = (mulS a b k).1 ^^^ ((mulS a b k).2 &&& ((b >>> k) &&& lowm) * 255)) := Lib.hid rfl
      have HS2 : Hid ((mulS a b (k + 1)).2 = dblW (mulS a b k).2) := Lib.hid rfl
      have HS3 : Hid (((b >>> k : Nat) : Int) / 2 = ((b >>> (k + 1) : Nat) : Int)) := Lib.hid (by rw [Nat.shiftRight_succ]; simp)
      have HD := Lib.hid (fun W => doubled_any (mulS a b k).2 W l2)
      generalize (mulS a b k).1 = o at *
      generalize (mulS a b k).2 = x at *
      generalize hbb : b >>> k = bb at *
      have HB := Lib.hid hbb
      clear hbb
      go_wp2_with fail
      refine (HD.out w).mono ?_
      rintro e W1 ⟨rfl, rfl⟩
      go_wp2_with fail
      go_roundw
      case rel => exact ⟨k + 1, by omega, by go_num, by rw [HS2.out], by rw [← HS3.out], by rw [HS1.out, ← HW.out], trivial⟩
      case measure => simp [intOf]; omega
    · have hd : decide ((k : Int) < 8) = false := by simp; omega
      obtain rfl : k = 8 := by omega
      have hr : (mulS a b 8).1 = mulW a b := rfl
      rw [hr]
      go_wp2_with fail
      go_ret
      exact ⟨rfl, rfl⟩

theorem sq_walk (o b c : Nat) (ho : o < 18446744073709551616) (hb : b < 18446744073709551616) (hc : c < 256) : bits .xor .u64 (o : Int) (IntKind.u64.wrap (bits .and .u64 (b : Int) 72340172838076673 * (c : Int))) = ((o ^^^ (b &&& lowm) * c : Nat) : Int) := by
  rw [IntKind.wrap_u64]
  have e2 := u64_and_nat b lowm hb (by decide)
  rw [show ((lowm : Nat) : Int) = 72340172838076673 from rfl] at e2
  have l2 := low_mul_lt b c hc
  rw [e2, show (((b &&& lowm : Nat) : Int) * (c : Int) % 18446744073709551616) = (((b &&& lowm) * c : Nat) : Int) from by rw [Int.emod_eq_of_lt (by rw [← Int.natCast_mul]; omega) (by rw [← Int.natCast_mul]; omega)]; simp, u64_xor_nat o _ ho l2]

set_option maxHeartbeats 1000000 in
theorem squared_any (a n : Nat) (w : World) (ha : a < 18446744073709551616) (hn : n < 1000) (hT : TabQ w) :
    Calls Tryd.prog 69 #[.int .u64 (a : Int), .int .i64 (n : Int)] w fun e w' => e = .returned (.int .u64 ((sqN a n : Nat) : Int)) ∧ Below w.heap.size w w' := by
  have HT := Lib.hid hT
  clear hT
  go_enter Tryd.func69, Tryd.ntmps69
  go_wp2_with fail
  go_loopw [0, 8] (fun av i wr => ∃ k : Nat, k ≤ n ∧ i = .int .i64 (k : Int) ∧ av = .int .u64 ((sqN a k : Nat) : Int) ∧ Below w.heap.size w wr) (fun _ i _ => n - (intOf i).toNat)
  case atStart => exact ⟨0, by omega, rfl, rfl, Below.refl _ _⟩
  case round =>
    obtain ⟨k, hk, rfl, rfl, hb⟩ := hrel
    have HTr := Lib.hid (HT.out.step hb)
    by_cases hlt : k < n
    · have hd : decide ((k : Int) < (n : Int)) = true := by simp; omega
      have la := sqN_lt a ha k
      have HX : Hid (sqN a (k + 1) = sqS (sqN a k) 8) := Lib.hid rfl
      generalize sqN a k = x at *
      go_wp2_with fail
      go_loopw [5, 10] (fun ov i ws => ∃ j : Nat, j ≤ 8 ∧ i = .int .i64 (j : Int) ∧ ov = .int .u64 ((sqS x j : Nat) : Int) ∧ Below w.heap.size w ws ∧ TabQ ws) (fun _ i _ => 8 - (intOf i).toNat)
      case atStart => exact ⟨0, by omega, rfl, rfl, hb, HTr.out⟩
      case round =>
        clear hb HTr
        obtain ⟨j, hj, rfl, rfl, hb, hTr⟩ := hrel
        have HTr := Lib.hid hTr
        clear hTr
        by_cases hlj : j < 8
        · have hd2 : decide ((j : Int) < 8) = true := by simp; omega
          have lo := sqS_lt x j
          have lb : x >>> j < 18446744073709551616 := by rw [Nat.shiftRight_eq_div_pow]; exact Nat.lt_of_le_of_lt (Nat.div_le_self _ _) la
          have HW := Lib.hid (sq_walk (sqS x j) (x >>> j) (sqT.getD j 0) lo lb (sqT_lt j))
          have HN : Hid (sqS x (j + 1) = sqS x j ^^^ ((x >>> j) &&& lowm) * sqT.getD j 0) := Lib.hid rfl
          have hc := HTr.out j hlj
          have HE := Lib.hid (show ((x >>> j : Nat) : Int) = (x : Int) / 2 ^ j from by rw [Nat.shiftRight_eq_div_pow]; simp)
          generalize sqS x j = o at *
          generalize sqT.getD j 0 = c at *
          go_wp2_with fail
          go_quiet (fail)
          go_wp2_with fail
          go_roundw
          case rel => exact ⟨j + 1, by omega, by go_num, by rw [HN.out, ← HW.out, HE.out], below_drewN hb _, HTr.out⟩
          case measure => simp [intOf]; omega
        · have hd2 : decide ((j : Int) < 8) = false := by simp; omega
          obtain rfl : j = 8 := by omega
          go_wp2_with fail
          go_roundw
          case rel => exact ⟨k + 1, by omega, by go_num, by rw [HX.out], hb⟩
          case measure => simp [intOf]; omega
    · have hd : decide ((k : Int) < (n : Int)) = false := by simp; omega
      obtain rfl : k = n := by omega
      go_wp2_with fail
      go_ret
      exact ⟨rfl, hb⟩

theorem rot_walk (a n : Nat) (ha : a < 18446744073709551616) (hn : 0 < n) (hn5 : n < 5) :
    bits .or .u64 (IntKind.u64.wrap (bits .and .u64 (a : Int) ((stay n : Nat) : Int) * 2 ^ n)) (bits .andNot .u64 ((a : Int) / 2 ^ (8 - n)) (IntKind.u64.wrap (((stay n : Nat) : Int) * 2 ^ n))) = ((rotN a n : Nat) : Int) := by
  have hs := stay_lt n hn5 hn
  have e0 : IntKind.u64.wrap (((stay n : Nat) : Int) * 2 ^ n) = ((stay n * 2 ^ n % 18446744073709551616 : Nat) : Int) := by rw [IntKind.wrap_u64]; simp
  have e1 := u64_andNot_nat (a >>> (8 - n)) (stay n * 2 ^ n % 18446744073709551616) (by rw [Nat.shiftRight_eq_div_pow]; exact Nat.lt_of_le_of_lt (Nat.div_le_self _ _) ha) (Nat.mod_lt _ (by decide))
  rw [show ((a >>> (8 - n) : Nat) : Int) = (a : Int) / 2 ^ (8 - n) from by rw [Nat.shiftRight_eq_div_pow]; simp] at e1
  have e2 : IntKind.u64.wrap (((a &&& stay n : Nat) : Int) * 2 ^ n) = (((a &&& stay n) * 2 ^ n % 18446744073709551616 : Nat) : Int) := by rw [IntKind.wrap_u64]; simp
  rw [e0, e1, u64_and_nat a (stay n) ha hs, e2]
  exact u64_or_nat ((a &&& stay n) * 2 ^ n % 18446744073709551616) (a >>> (8 - n) &&& gone n) (Nat.mod_lt _ (by decide)) (and_lt64 (gone_lt n))

set_option maxHeartbeats 1000000 in
theorem rotated_any (a n : Nat) (w : World) (ha : a < 18446744073709551616) (hn : 0 < n) (hn5 : n < 5) :
    Calls Tryd.prog 68 #[.int .u64 (a : Int), .int .i64 (n : Int)] w fun e w' => e = .returned (.int .u64 ((rotN a n : Nat) : Int)) ∧ Below w.heap.size w w' := by
  have HW := Lib.hid (rot_walk a n ha hn hn5)
  have HS := Lib.hid (show IntKind.u64.wrap (72340172838076673 * ((255 : Int) / 2 ^ n)) = ((stay n : Nat) : Int) from by
    have : ∀ n, n < 5 → 0 < n → IntKind.u64.wrap (72340172838076673 * ((255 : Int) / 2 ^ n)) = ((stay n : Nat) : Int) := by decide +kernel
    exact this n hn5 hn)
  have e8 : (8 - (n : Int)).toNat = 8 - n := by omega
  have n8 : (0 : Int) ≤ 8 - (n : Int) := by omega
  go_enter Tryd.func68, Tryd.ntmps68
  go_wp2_with fail
  go_quiet (fail)
  go_wp2_with fail
  go_ret
  exact ⟨by rw [← HW.out, ← HS.out]; rfl, below_drewN (Below.refl _ _) _⟩

set_option maxHeartbeats 1000000 in
theorem inverse_any (a : Nat) (w : World) (ha : a < 18446744073709551616) (hT : TabQ w) :
    Calls Tryd.prog 67 #[.int .u64 (a : Int)] w fun e w' => e = .returned (.int .u64 ((invW a : Nat) : Int)) ∧ Below w.heap.size w w' := by
  have HI : Hid (invW a = mulW (mulW (sqN (mulW (sqN (mulW (sqN a 1) a) 2) (mulW (sqN a 1) a)) 4) (sqN (mulW (sqN a 1) a) 2)) (sqN a 1)) := Lib.hid rfl
  have h2 := sqN_lt a ha 1
  have h3 := mulW_lt (sqN a 1) a h2
  generalize h2e : sqN a 1 = two at *
  generalize h3e : mulW two a = three at *
  have h12 := sqN_lt three h3 2
  generalize h12e : sqN three 2 = twelve at *
  have h15 := mulW_lt twelve three h12
  generalize h15e : mulW twelve three = fifteen at *
  have hz := sqN_lt fifteen h15 4
  generalize hze : sqN fifteen 4 = z at *
  have hy := mulW_lt z twelve hz
  generalize hye : mulW z twelve = y at *
  have H2 := Lib.hid h2e; have H3 := Lib.hid h3e; have H12 := Lib.hid h12e; have H15 := Lib.hid h15e; have HZ := Lib.hid hze; have HY := Lib.hid hye
  clear h2e h3e h12e h15e hze hye
  go_enter Tryd.func67, Tryd.ntmps67
  go_wp2_with fail
  refine (squared_any a 1 w ha (by omega) hT).mono ?_
  rintro e W1 ⟨rfl, hb1⟩
  have hT1 := hT.step hb1
  rw [H2.out]
  clear hT
  go_wp2_with fail
  refine (lanesTimes_any two a W1 h2 ha).mono ?_
  rintro e W ⟨rfl, rfl⟩
  rw [H3.out]
  go_wp2_with fail
  refine (squared_any three 2 W1 h3 (by omega) hT1).mono ?_
  rintro e W2 ⟨rfl, hb2⟩
  have hT2 := hT1.step hb2
  have hb02 := hb1.trans (hb2.mono hb1.size)
  rw [H12.out]
  clear hT1 hb2
  go_wp2_with fail
  refine (lanesTimes_any twelve three W2 h12 h3).mono ?_
  rintro e W ⟨rfl, rfl⟩
  rw [H15.out]
  go_wp2_with fail
  refine (squared_any fifteen 4 W2 h15 (by omega) hT2).mono ?_
  rintro e W3 ⟨rfl, hb3⟩
  have hb03 := hb02.trans (hb3.mono hb02.size)
  rw [HZ.out]
  clear hT2 hb3
  go_wp2_with fail
  refine (lanesTimes_any z twelve W3 hz h12).mono ?_
  rintro e W ⟨rfl, rfl⟩
  rw [HY.out]
  go_wp2_with fail
  refine (lanesTimes_any y two W3 hy h2).mono ?_
  rintro e W ⟨rfl, rfl⟩
  go_wp2_with fail
  go_ret
  exact ⟨by rw [HI.out]; rfl, hb03⟩

theorem swap_walk (i r1 r2 r3 r4 : Nat) (h : i < 18446744073709551616) (h1 : r1 < 18446744073709551616) (h2 : r2 < 18446744073709551616) (h3 : r3 < 18446744073709551616) (h4 : r4 < 18446744073709551616) :
    bits .xor .u64 (bits .xor .u64 (bits .xor .u64 (bits .xor .u64 (bits .xor .u64 (i : Int) (r1 : Int)) (r2 : Int)) (r3 : Int)) (r4 : Int)) 7161677110969590627 = ((i ^^^ r1 ^^^ r2 ^^^ r3 ^^^ r4 ^^^ 7161677110969590627 : Nat) : Int) := by
  rw [u64_xor_nat i r1 h h1, u64_xor_nat _ r2 (xor_lt64 h h1) h2, u64_xor_nat _ r3 (xor_lt64 (xor_lt64 h h1) h2) h3, u64_xor_nat _ r4 (xor_lt64 (xor_lt64 (xor_lt64 h h1) h2) h3) h4]
  exact u64_xor_nat _ 7161677110969590627 (xor_lt64 (xor_lt64 (xor_lt64 (xor_lt64 h h1) h2) h3) h4) (by decide)

set_option maxHeartbeats 1000000 in
theorem lanesSwapped_any (a : Nat) (w : World) (ha : a < 18446744073709551616) (hT : TabQ w) :
    Calls Tryd.prog 63 #[.int .u64 (a : Int)] w fun e w' => e = .returned (.int .u64 ((swW a : Nat) : Int)) ∧ Below w.heap.size w w' := by
  have HI : Hid (swW a = invW a ^^^ rotN (invW a) 1 ^^^ rotN (invW a) 2 ^^^ rotN (invW a) 3 ^^^ rotN (invW a) 4 ^^^ 7161677110969590627) := Lib.hid rfl
  have hi := invW_lt a ha
  have HV := Lib.hid (inverse_any a w ha hT)
  clear hT
  generalize invW a = i at *
  have HW := Lib.hid (swap_walk i (rotN i 1) (rotN i 2) (rotN i 3) (rotN i 4) hi (rotN_lt _ _) (rotN_lt _ _) (rotN_lt _ _) (rotN_lt _ _))
  have R1 := Lib.hid (fun W => rotated_any i 1 W hi (by omega) (by omega))
  have R2 := Lib.hid (fun W => rotated_any i 2 W hi (by omega) (by omega))
  have R3 := Lib.hid (fun W => rotated_any i 3 W hi (by omega) (by omega))
  have R4 := Lib.hid (fun W => rotated_any i 4 W hi (by omega) (by omega))
  generalize rotN i 1 = r1 at *
  generalize rotN i 2 = r2 at *
  generalize rotN i 3 = r3 at *
  generalize rotN i 4 = r4 at *
  go_enter Tryd.func63, Tryd.ntmps63
  go_wp2_with fail
  refine HV.out.mono ?_
  rintro e W1 ⟨rfl, hb1⟩
  go_wp2_with fail
  refine (R1.out W1).mono ?_
  rintro e W2 ⟨rfl, hb2⟩
  have hb02 := hb1.trans (hb2.mono hb1.size)
  clear hb2
  go_wp2_with fail
  refine (R2.out W2).mono ?_
  rintro e W3 ⟨rfl, hb3⟩
  have hb03 := hb02.trans (hb3.mono hb02.size)
  clear hb3 hb02
  go_wp2_with fail
  refine (R3.out W3).mono ?_
  rintro e W4 ⟨rfl, hb4⟩
  have hb04 := hb03.trans (hb4.mono hb03.size)
  clear hb4 hb03
  go_wp2_with fail
  refine (R4.out W4).mono ?_
  rintro e W5 ⟨rfl, hb5⟩
  have hb05 := hb04.trans (hb5.mono hb04.size)
  clear hb5 hb04
  go_wp2_with fail
  go_ret
  exact ⟨by rw [HI.out, ← HW.out]; rfl, hb05⟩

end Go.Proofs.YtoejkiblampecaaDoor
