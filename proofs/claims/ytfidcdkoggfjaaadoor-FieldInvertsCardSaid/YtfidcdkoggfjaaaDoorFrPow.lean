/- The reference's powers, its inverse, whether two numbers are the same. -/
import Derived.Test.YtfidcdkoggfjaaaDoorFrMul
import Derived.Test.YtfidcdkoggfjaaaDoorFrSmall
namespace Go.Proofs.YtfidcdkoggfjaaaDoor
open Go.RowKit Go.Sort
set_option maxRecDepth 100000
set_option linter.unusedSimpArgs false
set_option linter.unusedVariables false

theorem and_1i (y : Int) : bits .and .i64 y 1 = y % 2 := by
  have h16 : (BitVec.ofInt 64 1).toNat = 2 ^ 1 - 1 := by decide
  have key : (BitVec.ofInt 64 y &&& BitVec.ofInt 64 1).toNat = (y % ((2 ^ 64 : Nat) : Int)).toNat % 2 ^ 1 := by
    rw [BitVec.toNat_and, BitVec.toNat_ofInt, h16, Nat.and_two_pow_sub_one_eq_mod]
  show IntKind.i64.wrap ((BitVec.ofInt 64 y &&& BitVec.ofInt 64 1).toNat : Nat) = _
  rw [key, IntKind.wrap_i64]
  omega
theorem pw_bit (n m i : Nat) (hi : i = 255 - m) (hm : m < 256) : bits .and .i64 ((((digN n).getD (i / 16) 0 : Nat) : Int) / 2 ^ (i % 16)) 1 = if n.testBit (255 - m) then 1 else 0 := by
  have h := digN_bit n i (by omega)
  have e : (((digN n).getD (i / 16) 0 : Nat) : Int) / 2 ^ (i % 16) % 2 = (((digN n).getD (i / 16) 0 / 2 ^ (i % 16) % 2 : Nat) : Int) := by simp
  rw [and_1i, e, h, ← hi, Nat.testBit_eq_decide_div_mod_eq]
  rcases (show n / 2 ^ i % 2 = 0 ∨ n / 2 ^ i % 2 = 1 by omega) with h1 | h1 <;> simp [h1]
theorem pw_mul (x n m : Nat) : pwF x n m * pwF x n m % pF = mulF (pwF x n m) (pwF x n m) := rfl

set_option maxHeartbeats 4000000 in
theorem powerRef_any (da dn : Value) (x n : Nat) (w : World) (hx : x < pF) (hn : n < 2 ^ 256) (ha : DigAt w da (digN x)) (hb : DigAt w dn (digN n)) :
    Calls Tryd.prog 43 #[da, dn] w fun e w' => (∃ d', e = .returned d' ∧ DigAt w' d' (digN (powF x n))) ∧ Below w.heap.size w w' := by
  have HA := Lib.hid ha
  obtain ⟨Dn, cn, rfl, hcn⟩ := hb
  have HCN := Lib.hid hcn
  have HX := Lib.hid hx
  have HS := Lib.hid (smallRefPos_any 1 w (by decide))
  have H0 := Lib.hid (pwF_zero x n hn)
  have HL : Hid (pwF x n 256 = powF x n) := Lib.hid (pwF_last x n)
  have hln := block_lt_of_cell (hcn 0 (by decide))
  clear hcn ha hx hn
  go_enter Tryd.func43, Tryd.ntmps43
  go_wp2_with fail
  refine HS.out.mono ?_
  rintro e W0 ⟨⟨d0, rfl, hd0⟩, hb0⟩
  rw [← H0.out] at hd0
  go_wp2_with fail
  clear HS H0
  go_loopw [5, 6] (fun ov iv wr => ∃ m : Nat, m ≤ 256 ∧ iv = .int .i64 (255 - (m : Int)) ∧ DigAt wr ov (digN (pwF x n m)) ∧ Below w.heap.size w wr) (fun _ iv _ => (intOf iv + 1).toNat)
  case atStart => exact ⟨0, by omega, rfl, hd0, hb0⟩
  case round =>
    clear hd0 hb0
    obtain ⟨m, hm, rfl, hdo, hb⟩ := hrel
    have HDO := Lib.hid hdo
    clear hdo
    by_cases hlt : m < 256
    · obtain ⟨i, hi⟩ : ∃ i, i = 255 - m := ⟨_, rfl⟩
      have hii : (255 : Int) - (m : Int) = (i : Int) := by omega
      have hd : decide ((0 : Int) ≤ (i : Int)) = true := by simp
      have hi256 : i < 256 := by omega
      have HMI := Lib.hid hi
      have HB := Lib.hid (pw_bit n m i hi hlt)
      have HPS := Lib.hid (pwF_step x n m hlt)
      have HMM := Lib.hid (fun (W : World) (d : Value) (h : DigAt W d (digN (pwF x n m))) => mulRef_any d d _ _ W (pwF_lt _ _ _) (pwF_lt _ _ _) h h)
      rw [pw_mul] at HPS
      have hq1 : mulF (pwF x n m) (pwF x n m) < pF := mulF_lt _ _
      have hcd := (hb.cell (p := ⟨Dn, i / 16, none⟩) hln).trans (HCN.out (i / 16) (by omega))
      have hdl := digN_lt n (i / 16) (by omega)
      rw [hii]
      clear hi
      generalize mulF (pwF x n m) (pwF x n m) = q at *
      generalize pwF x n m = p at *
      generalize hbt : n.testBit (255 - m) = bt at *
      clear hbt
      go_wp2_with fail
      refine (HMM.out wr _ HDO.out).mono ?_
      rintro e W1 ⟨⟨d1, rfl, hd1⟩, hb1⟩
      have HD1 := Lib.hid hd1
      have hcd1 := (hb1.cell (p := ⟨Dn, i / 16, none⟩) (Nat.lt_of_lt_of_le hln hb.size)).trans hcd
      have hbw : Below w.heap.size w W1 := hb.trans (hb1.mono hb.size)
      clear hd1 hcd hb hb1 HDO HMM
      generalize (digN n).getD (i / 16) 0 = dd at *
      have e1 : ((i : Int) / 16).toNat = i / 16 := by omega
      have e2 : ((i : Int) % 16).toNat = i % 16 := by omega
      have hbit := HB.out
      clear HB
      cases bt
      · have hbit : bits .and .i64 ((dd : Int) / 2 ^ (i % 16)) 1 = 0 := hbit
        have HPS : Hid (pwF x n (m + 1) = q) := HPS
        rw [← HPS.out] at HD1
        go_wp2_with fail
        go_roundw
        case rel => exact ⟨m + 1, by omega, by congr 1; omega, HD1.out, hbw⟩
        case measure => simp [intOf] <;> omega
      · have hbit : bits .and .i64 ((dd : Int) / 2 ^ (i % 16)) 1 = 1 := hbit
        have HPS : Hid (pwF x n (m + 1) = mulF q x) := HPS
        have HDA := Lib.hid (HA.out.step hbw)
        have HM2 := Lib.hid (mulRef_any _ _ q x W1 hq1 HX.out HD1.out HDA.out)
        rw [← HPS.out] at HM2
        go_wp2_with fail
        refine HM2.out.mono ?_
        rintro e W2 ⟨⟨d2, rfl, hd2⟩, hb2⟩
        have HD2 := Lib.hid hd2
        have hbw2 : Below w.heap.size w W2 := hbw.trans (hb2.mono hbw.size)
        clear hd2 hb2 HM2 HD1 HDA hcd1
        go_wp2_with fail
        go_roundw
        case rel => exact ⟨m + 1, by omega, by congr 1; omega, HD2.out, hbw2⟩
        case measure => simp [intOf] <;> omega
    · obtain rfl : m = 256 := by omega
      have hd : decide ((0 : Int) ≤ 255 - ((256 : Nat) : Int)) = false := by decide
      rw [HL.out] at HDO
      go_wp2_with fail
      go_ret
      exact ⟨⟨_, rfl, HDO.out⟩, hb⟩

theorem pF2_digits : (digN pF).set 0 65515 = digN (pF - 2) := by decide +kernel
set_option maxHeartbeats 1000000 in
theorem invRef_any (da : Value) (x : Nat) (w : World) (hx : x < pF) (ha : DigAt w da (digN x)) :
    Calls Tryd.prog 29 #[da] w fun e w' => (∃ d', e = .returned d' ∧ DigAt w' d' (digN (invF x))) ∧ Below w.heap.size w w' := by
  have HX := Lib.hid hx
  have HA := Lib.hid ha
  have hM := modulus_any w
  clear hx ha
  go_enter Tryd.func29, Tryd.ntmps29
  go_wp2_with fail
  refine hM.mono ?_
  rintro e W1 ⟨rfl, hm, hb1⟩
  have HA1 := Lib.hid (HA.out.step hb1)
  have c0 := dcl_cell hm 0 (by rw [digN_length]; decide)
  rw [show (digN pF).getD 0 0 = 65517 by decide +kernel] at c0
  have f0 := frozen_of_row W1 w.heap.size 0 _ _ hm
  have r1 : (W1.setCell ⟨w.heap.size, 0, none⟩ (.int .i64 65515)).heap[w.heap.size]? = some (.cells (dcl (digN (pF - 2))) 3) := by rw [← pF2_digits]; exact dcl_set hm 0 65515
  have hbs : Below w.heap.size w (W1.setCell ⟨w.heap.size, 0, none⟩ (.int .i64 65515)) := hb1.setCell (Nat.le_refl _) _
  have HA2 := Lib.hid (HA.out.step hbs)
  have HN := Lib.hid (show DigAt (W1.setCell ⟨w.heap.size, 0, none⟩ (.int .i64 65515)) (.slice (some ⟨w.heap.size, 0, none⟩) 16 16) (digN (pF - 2)) from DigAt.of_block r1 (digN_length _))
  have HP := Lib.hid (powerRef_any da _ x (pF - 2) _ HX.out (by decide) HA2.out HN.out)
  rw [show powF x (pF - 2) = invF x from rfl] at HP
  clear hM hm r1 HN HA2 HA1
  go_wp2_with fail
  refine HP.out.mono ?_
  rintro e W3 ⟨⟨d', rfl, hd3⟩, hb3⟩
  have HD3 := Lib.hid hd3
  have hb4 : Below w.heap.size w W3 := hbs.trans (hb3.mono hbs.size)
  clear hd3 hb3 HP
  go_wp2_with fail
  go_ret
  exact ⟨⟨_, rfl, HD3.out⟩, hb4⟩

theorem digN_same (x y : Nat) (hx : x < mF) (hy : y < mF) (h : ∀ j, j < 16 → (digN x).getD j 0 = (digN y).getD j 0) : x = y := by
  have := digN_val x hx
  rw [← this, dS_congr _ _ 16 h, digN_val y hy]
set_option maxHeartbeats 2000000 in
theorem sameRef_any (da db : Value) (x y : Nat) (w : World) (hx : x < mF) (hy : y < mF) (ha : DigAt w da (digN x)) (hb : DigAt w db (digN y)) :
    Calls Tryd.prog 47 #[da, db] w fun e w' => e = .returned (.bool (decide (x = y))) ∧ Below w.heap.size w w' := by
  obtain ⟨Da, ca, rfl, hca⟩ := ha
  obtain ⟨Db, cb, rfl, hcb⟩ := hb
  have HCA := Lib.hid hca; have HCB := Lib.hid hcb
  have HS := Lib.hid (digN_same x y hx hy)
  have hla := block_lt_of_cell (hca 0 (by decide)); have hlb := block_lt_of_cell (hcb 0 (by decide))
  clear hca hcb hx hy
  go_enter Tryd.func47, Tryd.ntmps47
  go_wp2_with fail
  go_loopw [5] (fun iv wr => ∃ i : Nat, i ≤ 16 ∧ iv = .int .i64 (i : Int) ∧ (∀ j, j < i → (digN x).getD j 0 = (digN y).getD j 0) ∧ Below w.heap.size w wr) (fun iv _ => 16 - (intOf iv).toNat)
  case atStart => exact ⟨0, by omega, rfl, fun j hj => absurd hj (by omega), Below.refl _ _⟩
  case round =>
    obtain ⟨i, hi, rfl, hs, hb⟩ := hrel
    have HE := Lib.hid hs
    clear hs
    by_cases hlt : i < 16
    · have hd : decide ((i : Int) < 16) = true := by simp; omega
      have c1 := (hb.cell (p := ⟨Da, i, none⟩) hla).trans (HCA.out i hlt)
      have c2 := (hb.cell (p := ⟨Db, i, none⟩) hlb).trans (HCB.out i hlt)
      by_cases hne : (digN x).getD i 0 = (digN y).getD i 0
      · have HE2 : Hid (∀ j, j < i + 1 → (digN x).getD j 0 = (digN y).getD j 0) := Lib.hid (fun j hj => by
          by_cases hji : j = i
          · rw [hji]; exact hne
          · exact HE.out j (by omega))
        generalize (digN x).getD i 0 = p at *
        generalize (digN y).getD i 0 = q at *
        have hq : ((p : Int) != (q : Int)) = false := by simp [hne]
        clear hne
        go_wp2_with fail
        go_quiet (fail)
        go_wp2_with fail
        go_roundw
        case rel => exact ⟨i + 1, by omega, by go_num, HE2.out, below_drewN hb _⟩
        case measure => simp [intOf]; omega
      · have hxy : decide (x = y) = false := by
          simp only [decide_eq_false_iff_not]
          intro e; exact hne (by rw [e])
        have HXY := Lib.hid hxy
        generalize (digN x).getD i 0 = p at *
        generalize (digN y).getD i 0 = q at *
        have hq : ((p : Int) != (q : Int)) = true := by simp; omega
        clear hne hxy
        go_wp2_with fail
        go_quiet (fail)
        go_wp2_with fail
        go_ret
        exact ⟨by rw [HXY.out]; rfl, below_drewN hb _⟩
    · have hd : decide ((i : Int) < 16) = false := by simp; omega
      obtain rfl : i = 16 := by omega
      have hxy : decide (x = y) = true := by simp only [decide_eq_true_eq]; exact HS.out HE.out
      have HXY := Lib.hid hxy
      clear hxy
      go_wp2_with fail
      go_ret
      exact ⟨by rw [HXY.out]; rfl, hb⟩
end Go.Proofs.YtfidcdkoggfjaaaDoor
