/- The program's small numbers, and whichever of two is even. -/
import Derived.Test.YtfidcdkoggfjaaaDoorFldSub
namespace Go.Proofs.YtfidcdkoggfjaaaDoor
open Go.RowKit Go.Sort
set_option maxRecDepth 100000
set_option linter.unusedSimpArgs false
set_option linter.unusedVariables false

theorem zeros4_lim : zeros4 = uc (limN 4 0) := rfl
theorem subF_neg (m : Nat) (h0 : 0 < m) (h : m < pF) : subF 0 m = pF - m := by rw [subF, Nat.zero_add, Nat.mod_eq_of_lt (by omega)]

set_option maxHeartbeats 1000000 in
theorem smallPos_any (n : Nat) (w : World) (h : n < 9223372036854775808) :
    Calls Tryd.prog 19 #[.int .i64 (n : Int)] w fun e w' => e = .returned (.agg (uc (limN 4 n))) ∧ Below w.heap.size w w' := by
  obtain ⟨hz, hi⟩ := zero_of_info infoF
  have hd : decide ((n : Int) < 0) = false := by simp
  have hc : (n : Int) % 18446744073709551616 = (n : Int) := by omega
  have HN := Lib.hid (show n < 18446744073709551616 by omega)
  have HL := Lib.hid (limN_length 4 n)
  have HR0 := Lib.hid (blk_new w (.cells zeros4 26))
  have hb0 := below_new w (.cells zeros4 26)
  have HI := Lib.hid (sizeF' n); have HZ := Lib.hid (zerosF_size n); have HO := Lib.hid (uc_one (limN 4 n))
  clear hi
  go_enter Tryd.func19, Tryd.ntmps19
  go_wp2_with (first
    | (with_reducible refine wpList_build_one rfl _ rfl n HN.out rfl ?_)
    | (with_reducible refine wpList_build_num rfl _ rfl (limN 4 n) HL.out rfl ?_)
    | (with_reducible refine wpList_store_row rfl 26 _ _ rfl w.heap.size (uc (limN 4 n)) rfl rfl 26 _ HR0.out HI.out HZ.out HO.out ?_))
  exact bodyPost_ret (v := .agg (uc (limN 4 n))) (results_cell_row (by rfl) _ _ w.heap.size 26 _ (0, 0) _ rfl (setRow_heap _ _ _ _ _ _ HR0.out) Tryd.underlying26 rfl HI.out) rfl ⟨rfl, below_setRow hb0 (Nat.le_refl _) _⟩

set_option maxHeartbeats 1000000 in
theorem smallNeg_any (n : Int) (w : World) (h0 : n < 0) (h : -9223372036854775808 ≤ n) (hT : PrmQ w) :
    Calls Tryd.prog 19 #[.int .i64 n] w fun e w' => e = .returned (.agg (uc (limN 4 (smallF n)))) ∧ Below w.heap.size w w' := by
  obtain ⟨hz, hi⟩ := zero_of_info infoF
  have hd : decide (n < 0) = true := by simpa using h0
  obtain ⟨m, hm⟩ : ∃ m : Nat, m = (-n).toNat := ⟨_, rfl⟩
  have hmp : m < pF := by have : 9223372036854775808 < pF := by decide
                          omega
  have hs : smallF n = subF 0 m := by rw [smallF_neg n h0 h, ← hm, subF_neg m (by omega) hmp]
  have hw1 : IntKind.u64.wrap (wrap64 (-n)) = (m : Int) := by
    rw [IntKind.wrap_u64]
    unfold wrap64
    omega
  have HS := Lib.hid hs
  have HN := Lib.hid (show m < 18446744073709551616 by omega)
  have HL := Lib.hid (limN_length 4 m)
  have hb0 := below_new w (.cells zeros4 26)
  have HP0 := Lib.hid (hT.step hb0)
  have HR0 := Lib.hid (blk_new w (.cells zeros4 26))
  have HC := Lib.hid (fun W hW => subF_any 0 m W pF_pos hmp hW)
  rw [← zeros4_lim] at HC
  clear hs
  generalize subF 0 m = r at *
  have HI := Lib.hid (sizeF' r); have HZ := Lib.hid (zerosF_size r); have HO := Lib.hid (uc_one (limN 4 r))
  clear hi hmp hm hT
  go_enter Tryd.func19, Tryd.ntmps19
  go_upto_region 2 with fail
  clear hz
  generalize (w.alloc _) = W0 at *
  generalize hBB : w.heap.size = B at *
  have HBB := Lib.hid hBB
  clear hBB
  go_wp2_with (first
    | (with_reducible refine wpList_build_zero rfl rfl ?_)
    | (with_reducible refine wpList_build_one rfl _ rfl m HN.out rfl ?_)
    | (with_reducible refine wpList_build_num rfl _ rfl (limN 4 m) HL.out rfl ?_))
  refine (HC.out W0 HP0.out).mono ?_
  rintro e W1 ⟨rfl, h1⟩
  have HR1 := Lib.hid (blk_below h1 (blk_lt HR0.out) HR0.out)
  have hb1 : Below B w W1 := hb0.trans (h1.mono (by have := blk_lt HR0.out; omega))
  clear HC HR0 hb0 h1
  go_wp2_with (with_reducible refine wpList_store_row rfl 26 _ _ rfl B (uc (limN 4 r)) rfl rfl 26 _ HR1.out HI.out HZ.out HO.out ?_)
  exact bodyPost_ret (v := .agg (uc (limN 4 r))) (results_cell_row (by rfl) _ _ B 26 _ (0, 0) _ rfl (setRow_heap _ _ _ _ _ _ HR1.out) Tryd.underlying26 rfl HI.out) rfl ⟨by rw [HS.out], by rw [HBB.out]; exact below_setRow hb1 (Nat.le_refl _) _⟩

theorem small_any (n : Int) (w : World) (h0 : -9223372036854775808 ≤ n) (h1 : n < 9223372036854775808) (hT : PrmQ w) :
    Calls Tryd.prog 19 #[.int .i64 n] w fun e w' => e = .returned (.agg (uc (limN 4 (smallF n)))) ∧ Below w.heap.size w w' := by
  by_cases h : n < 0
  · exact smallNeg_any n w h h0 hT
  · obtain ⟨m, rfl⟩ : ∃ m : Nat, n = (m : Int) := ⟨n.toNat, by omega⟩
    rw [smallF_pos m (by omega)]
    exact smallPos_any m w (by omega)

/-- Whichever is even. -/
def evenF (x : Nat) : Nat := if x % 2 = 1 then subF 0 x else x
theorem and_one (x : Nat) : bits .and .u64 ((dg x 0 : Nat) : Int) 1 = ((x % 2 : Nat) : Int) := by
  have h := dg_lt x 0
  have h1 : (BitVec.ofInt 64 1).toNat = 2 ^ 1 - 1 := by decide
  have key : (BitVec.ofInt 64 ((dg x 0 : Nat) : Int) &&& BitVec.ofInt 64 1).toNat = dg x 0 % 2 := by
    rw [BitVec.toNat_and, BitVec.toNat_ofInt, h1, Nat.and_two_pow_sub_one_eq_mod]
    omega
  show IntKind.u64.wrap ((BitVec.ofInt 64 ((dg x 0 : Nat) : Int) &&& BitVec.ofInt 64 1).toNat : Nat) = _
  rw [key, dg_odd, IntKind.wrap_u64]
  omega

set_option maxHeartbeats 1000000 in
theorem even_any (x : Nat) (w : World) (hx : x < pF) (hT : PrmQ w) :
    Calls Tryd.prog 45 #[.agg (uc (limN 4 x))] w fun e w' => e = .returned (.agg (uc (limN 4 (evenF x)))) ∧ Below w.heap.size w w' := by
  obtain ⟨hz, hi⟩ := zero_of_info infoF
  have HG0 := Lib.hid (blk_old (o := .cells zeros4 26) (blk_new w (.cells (uc (limN 4 x)) 26)))
  have HR0 := Lib.hid (blk_new2 w (.cells (uc (limN 4 x)) 26) (.cells zeros4 26))
  have hb0 := below_new2 w (.cells (uc (limN 4 x)) 26) (.cells zeros4 26)
  have HP0 := Lib.hid (hT.step hb0)
  have HC := Lib.hid (fun W hW => subF_any 0 x W pF_pos hx hW)
  rw [← zeros4_lim] at HC
  have eA := and_one x
  have HIx := Lib.hid (sizeF' x)
  have HI := Lib.hid (sizeF' (evenF x)); have HZ := Lib.hid (zerosF_size (evenF x)); have HO := Lib.hid (uc_one (limN 4 (evenF x)))
  clear hi hT
  go_enter Tryd.func45, Tryd.ntmps45
  go_upto_region 1 with fail
  clear hz
  generalize ((w.alloc _).alloc _) = W0 at *
  generalize hBB : w.heap.size = B at *
  have HBB := Lib.hid hBB
  clear hBB
  have c0 := uc_cell HG0.out 0 (by rw [limN_length]; decide)
  rw [limN_get _ _ _ (by decide)] at c0
  by_cases hodd : x % 2 = 1
  · have hE : evenF x = subF 0 x := if_pos hodd
    have hd1 : (((x % 2 : Nat) : Int) == 1) = true := by rw [hodd]; rfl
    rw [hE] at HI HZ HO
    have HE := Lib.hid hE
    generalize x % 2 = b at *
    clear hE
    generalize subF 0 x = r at *
    clear hodd
    go_wp2_with (first
      | (with_reducible refine wpList_build_zero rfl rfl ?_)
      | (with_reducible refine wpList_load_row rfl 26 _ rfl B rfl 26 _ (0, 0) _ HG0.out Tryd.underlying26 rfl HIx.out ?_))
    clear eA c0 hd1
    refine (HC.out W0 HP0.out).mono ?_
    rintro e W1 ⟨rfl, h1⟩
    have HR1 := Lib.hid (blk_below h1 (blk_lt HR0.out) HR0.out)
    have hb1 : Below B w W1 := hb0.trans (h1.mono (by have := blk_lt HR0.out; omega))
    clear HC HR0 HG0 hb0 h1
    go_wp2_with (with_reducible refine wpList_store_row rfl 26 _ _ rfl (B + 1) (uc (limN 4 r)) rfl rfl 26 _ HR1.out HI.out HZ.out HO.out ?_)
    exact bodyPost_ret (v := .agg (uc (limN 4 r))) (results_cell_row (by rfl) _ _ (B + 1) 26 _ (0, 0) _ rfl (setRow_heap _ _ _ _ _ _ HR1.out) Tryd.underlying26 rfl HI.out) rfl ⟨by rw [HE.out], by rw [HBB.out]; exact below_setRow hb1 (by omega) _⟩
  · have hE : evenF x = x := if_neg hodd
    have hd1 : (((x % 2 : Nat) : Int) == 1) = false := by
      have : x % 2 = 0 := by omega
      rw [this]; rfl
    rw [hE] at HI HZ HO
    have HE := Lib.hid hE
    generalize x % 2 = b at *
    clear hE hodd HC
    go_wp2_with (first
      | (with_reducible refine wpList_load_row rfl 26 _ rfl B rfl 26 _ (0, 0) _ HG0.out Tryd.underlying26 rfl HIx.out ?_)
      | (with_reducible refine wpList_store_row rfl 26 _ _ rfl (B + 1) (uc (limN 4 x)) rfl rfl 26 _ HR0.out HI.out HZ.out HO.out ?_))
    exact bodyPost_ret (v := .agg (uc (limN 4 x))) (results_cell_row (by rfl) _ _ (B + 1) 26 _ (0, 0) _ rfl (setRow_heap _ _ _ _ _ _ HR0.out) Tryd.underlying26 rfl HI.out) rfl ⟨by rw [HE.out], by rw [HBB.out]; exact below_setRow hb0 (by omega) _⟩
end Go.Proofs.YtfidcdkoggfjaaaDoor
