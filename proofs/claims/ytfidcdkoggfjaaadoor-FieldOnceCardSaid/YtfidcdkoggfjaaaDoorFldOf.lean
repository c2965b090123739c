/- The program's number of bytes. -/
import Derived.Test.YtfidcdkoggfjaaaDoorFldRoot
import Derived.Test.YtfidcdkoggfjaaaDoorFldBytes
namespace Go.Proofs.YtfidcdkoggfjaaaDoor
open Go.RowKit Go.Sort
set_option maxRecDepth 100000
set_option linter.unusedSimpArgs false
set_option linter.unusedVariables false

theorem lim_put (V b k : Nat) (hV : V < 256 ^ k) (hb : b < 256) (hk : k < 32) :
    (limN 4 V).set (k / 8) (dg V (k / 8) + b * 2 ^ (k % 8 * 8)) = limN 4 (V + b * 256 ^ k) ∧ dg V (k / 8) < 2 ^ (k % 8 * 8) ∧ dg V (k / 8) + b * 2 ^ (k % 8 * 8) < 18446744073709551616 := by
  obtain ⟨i, r, hr, rfl⟩ : ∃ i r, r < 8 ∧ k = 8 * i + r := ⟨k / 8, k % 8, by omega, by omega⟩
  have h1 : (8 * i + r) / 8 = i := by omega
  have h2 : (8 * i + r) % 8 = r := by omega
  have h3 : 2 ^ (r * 8) = 256 ^ r := by rw [Nat.mul_comm, Nat.pow_mul]
  rw [h1, h2, h3]
  have hp : 256 ^ (8 * i + r) = bw i * 256 ^ r := by rw [Nat.pow_add, bw_256]
  have hd : V / bw i < 256 ^ r := Nat.div_lt_of_lt_mul (by rw [← hp]; exact hV)
  have hr7 : 256 ^ r * 256 ≤ 18446744073709551616 := by
    rw [← Nat.pow_succ, show 18446744073709551616 = 256 ^ 8 by decide]
    exact Nat.pow_le_pow_right (by decide) hr
  have hbr : b * 256 ^ r ≤ 255 * 256 ^ r := Nat.mul_le_mul_right _ (by omega)
  have hdg : dg V i = V / bw i := Nat.mod_eq_of_lt (by omega)
  have hlt : V / bw i + b * 256 ^ r < 18446744073709551616 := by omega
  refine ⟨?_, by rw [hdg]; exact hd, by rw [hdg]; exact hlt⟩
  refine nums_ext (by rw [List.length_set, limN_length]) (limN_length ..) fun j hj => ?_
  rw [nset_getD _ _ _ _ (by rw [limN_length]; omega), limN_get _ _ _ hj, limN_get _ _ _ hj]
  rw [hp, Nat.mul_left_comm]
  by_cases e : j = i
  · subst e
    rw [if_pos rfl, hdg, dg, Nat.add_mul_div_left _ _ (bw_pos j), Nat.mod_eq_of_lt hlt]
  · rw [if_neg e]
    by_cases hji : j < i
    · rw [dg_low_same _ _ _ _ hji]
    · have hbig : V + bw i * (b * 256 ^ r) < bw (i + 1) := by
        have hm := Nat.mod_lt V (bw_pos i)
        have hdm := Nat.div_add_mod V (bw i)
        rw [bw_succ]
        have h5 : bw i * (V / bw i + b * 256 ^ r + 1) ≤ bw i * 18446744073709551616 := Nat.mul_le_mul_left _ (by omega)
        rw [Nat.mul_add, Nat.mul_add, Nat.mul_one] at h5
        omega
      rw [dg_small' _ (i + 1) _ hbig (by omega), dg_small' V (i + 1) _ (Nat.lt_of_le_of_lt (Nat.le_add_right _ _) hbig) (by omega)]
theorem or_put (d b s : Nat) (hd : d < 2 ^ s) (h : d + b * 2 ^ s < 18446744073709551616) : bits .or .u64 (d : Int) ((b : Int) * 2 ^ s) = ((d + b * 2 ^ s : Nat) : Int) := by
  have e0 : ((b : Int) * 2 ^ s) = ((2 ^ s * b : Nat) : Int) := by rw [Int.mul_comm]; simp
  have hm : b * 2 ^ s = 2 ^ s * b := Nat.mul_comm _ _
  have e1 : (BitVec.ofInt 64 (d : Int)).toNat = d := by rw [BitVec.toNat_ofInt]; omega
  have e2 : (BitVec.ofInt 64 ((2 ^ s * b : Nat) : Int)).toNat = 2 ^ s * b := by rw [BitVec.toNat_ofInt]; omega
  rw [e0]
  show IntKind.u64.wrap (((BitVec.ofInt 64 (d : Int) ||| BitVec.ofInt 64 ((2 ^ s * b : Nat) : Int)).toNat : Nat) : Int) = _
  rw [BitVec.toNat_or, e1, e2, Nat.or_comm, ← Nat.two_pow_add_eq_or_of_lt hd, IntKind.wrap_u64]
  omega

set_option maxHeartbeats 1000000 in
theorem ofBad_any (s : ByteArray) (w : World) (h : s.size ≠ 32) :
    Calls Tryd.prog 15 #[.string s] w fun e w' => e = .returned (.tuple #[.agg (uc (limN 4 0)), .int .i64 1]) ∧ Below w.heap.size w w' := by
  obtain ⟨hz, hi⟩ := zero_of_info infoF
  have hd : ((s.size : Int) != 32) = true := by simp; omega
  have HR0 := Lib.hid (blk_new w (.cells zeros4 26))
  have hb0 := below_new w (.cells zeros4 26)
  have I0 := Lib.hid (sizeF' 0); have O0 := Lib.hid (uc_one (limN 4 0)); have Z0 := Lib.hid (zerosF_size 0)
  clear hi
  go_enter Tryd.func15, Tryd.ntmps15
  go_wp2_with (first
    | (with_reducible refine wpList_build_zero' rfl rfl ?_)
    | (with_reducible refine wpList_store_row rfl 26 _ _ rfl w.heap.size (uc (limN 4 0)) rfl rfl 26 _ HR0.out I0.out Z0.out O0.out ?_))
  exact bodyPost_ret (results_row_tmpF (by rfl) _ _ w.heap.size 26 _ (0, 0) _ rfl (setRow_heap _ _ _ _ _ _ HR0.out) Tryd.underlying26 rfl I0.out) rfl ⟨rfl, below_setRow hb0 (Nat.le_refl _) _⟩

set_option maxHeartbeats 1000000 in
theorem of_any (s : ByteArray) (w : World) (h : s.size = 32) :
    Calls Tryd.prog 15 #[.string s] w fun e w' => e = .returned (.tuple #[.agg (uc (limN 4 (leV s.data.toList 32 % pF))), .int .i64 0]) ∧ Below w.heap.size w w' := by
  obtain ⟨hz, hi⟩ := zero_of_info infoF
  obtain ⟨hzl, hil⟩ := zero_of_info infoL
  have hd : ((s.size : Int) != 32) = false := by simp [h]
  have HR0 := Lib.hid (blk_old (o := .cells zeros4 24) (blk_new w (.cells zeros4 26)))
  have HG0 := Lib.hid (blk_new2 w (.cells zeros4 26) (.cells zeros4 24))
  have hb0 := below_new2 w (.cells zeros4 26) (.cells zeros4 24)
  have HH := Lib.hid h
  clear hi hil
  go_enter Tryd.func15, Tryd.ntmps15
  go_wp2_with fail
  clear hz hzl h hd
  generalize ((w.alloc _).alloc _) = W0 at *
  generalize hBB : w.heap.size = B at *
  have HBB := Lib.hid hBB
  clear hBB
  go_loopw [10] (fun iv wr => ∃ k : Nat, k ≤ 32 ∧ iv = .int .i64 (k : Int) ∧ wr.heap[B]? = some (.cells zeros4 26) ∧ wr.heap[B + 1]? = some (.cells (uc (limN 4 (leV s.data.toList k))) 24) ∧ Below B w wr) (fun iv _ => 32 - (intOf iv).toNat)
  case atStart => exact ⟨0, by omega, rfl, HR0.out, by rw [show leV s.data.toList 0 = 0 from rfl, ← zeros4_lim]; exact HG0.out, hb0⟩
  case round =>
    clear HG0 HR0 hb0
    obtain ⟨k, hk, rfl, hr, hg, hb⟩ := hrel
    have HG := Lib.hid hg; have HR := Lib.hid hr
    clear hg hr
    by_cases hlt : k < 32
    · have hd : decide ((k : Int) < 32) = true := by simp; omega
      have cx := uc_cell HG.out (k / 8) (by rw [limN_length]; omega)
      rw [limN_get _ _ _ (by omega)] at cx
      obtain ⟨p1, p2, p3⟩ := lim_put (leV s.data.toList k) (s.data.toList.getD k 0).toNat k (leV_lt _ k) (UInt8.toNat_lt _) hlt
      have HS := Lib.hid (show (limN 4 (leV s.data.toList k)).set (k / 8) (dg (leV s.data.toList k) (k / 8) + (s.data.toList.getD k 0).toNat * 2 ^ (k % 8 * 8)) = limN 4 (leV s.data.toList (k + 1)) from p1)
      have hor := or_put _ _ _ p2 p3
      have hin : k < s.size := by rw [HH.out]; exact hlt
      have hgb : s.data.toList.getD k 0 = s[k] := by rw [List.getD_eq_getElem?_getD, Array.getElem?_toList]; simp [hin]; rfl
      obtain ⟨v, hv⟩ : ∃ v, v = dg (leV s.data.toList k) (k / 8) + (s.data.toList.getD k 0).toNat * 2 ^ (k % 8 * 8) := ⟨_, rfl⟩
      have hw : bits .or .u64 ((dg (leV s.data.toList k) (k / 8) : Nat) : Int) (IntKind.u64.wrap (IntKind.u64.wrap (s[k].toNat : Int) * 2 ^ (k % 8 * 8))) = (v : Int) := by
        have hb8 := UInt8.toNat_lt s[k]
        have e1 : IntKind.u64.wrap (s[k].toNat : Int) = (s[k].toNat : Int) := by rw [IntKind.wrap_u64]; omega
        have e2 : ((s[k].toNat : Int) * 2 ^ (k % 8 * 8)) = ((s[k].toNat * 2 ^ (k % 8 * 8) : Nat) : Int) := by simp
        rw [hgb] at hor p3 hv
        rw [e1, hv, ← hor, IntKind.wrap_u64, e2]
        congr 1
        omega
      rw [← hv] at HS
      have r1 := uc_heap_set HG.out (k / 8) v
      rw [HS.out] at r1
      clear p1 p2 p3 hor hgb HS hv
      have hll := limN_length 4 (leV s.data.toList k)
      generalize hnx : leV s.data.toList (k + 1) = nx at *
      have HNX := Lib.hid hnx
      clear hnx
      generalize dg (leV s.data.toList k) (k / 8) = p at *
      generalize limN 4 (leV s.data.toList k) = u at *
      go_wp2_with fail
      have ka := cell_regrown cx
      refine wp_region_reads_tail 14 (by kernel_rfl) (by kernel_rfl) ?_
      simp only [List.take_succ_cons, List.take_zero, List.drop_succ_cons, List.drop_zero]
      repeat (first | go_big_quiet_step (fail) | quiet_step (fail))
      refine wpQuiet_nil ?_
      intro W1 hb1
      have hlw := blk_lt HG.out
      have hR1 := blk_below hb1 (by omega) HR.out
      have hG1 := blk_below hb1 hlw HG.out
      have fx := frozen_of_row W1 (B + 1) (k / 8) _ _ hG1
      have cu := uc_cell hG1 (k / 8) (by omega)
      have r2 := uc_heap_set hG1 (k / 8) v
      have HG2 := Lib.hid (show (W1.setCell ⟨B + 1, k / 8, none⟩ (.int .u64 (v : Int))).heap[B + 1]? = some (.cells (uc (limN 4 nx)) 24) from by
        have e := (uc_heap_set HG.out (k / 8) v).symm.trans r1
        simp only [Option.some.injEq, Obj.cells.injEq, and_true] at e
        rw [← e]; exact r2)
      have HR2 := Lib.hid (show (W1.setCell ⟨B + 1, k / 8, none⟩ (.int .u64 (v : Int))).heap[B]? = some (.cells zeros4 26) from by rw [heap_setCell_other _ _ _ _ (by simp)]; exact hR1)
      have hb2 : Below B w (W1.setCell ⟨B + 1, k / 8, none⟩ (.int .u64 (v : Int))) := (hb.trans (hb1.mono (by omega))).setCell (by simp) _
      clear r1 r2 hb HR HG ka cx hG1 hR1 hlw hb1 hw
      go_wp2_with fail
      go_roundw
      case rel => exact ⟨k + 1, by omega, by go_num, HR2.out, by rw [HNX.out]; exact HG2.out, hb2⟩
      case measure => simp [intOf]; omega
    · have hd : decide ((k : Int) < 32) = false := by simp; omega
      obtain rfl : k = 32 := by omega
      have hx := leV_lt s.data.toList 32
      rw [show 256 ^ 32 = mF by decide] at hx
      have HC := Lib.hid (fun W => reduced_any (leV s.data.toList 32) 0 W hx (by omega))
      rw [Nat.zero_mul, Nat.add_zero] at HC
      generalize hr : leV s.data.toList 32 % pF = r at *
      have HRr := Lib.hid hr
      clear hr hx
      generalize hx2 : leV s.data.toList 32 = x at *
      have HX2 := Lib.hid hx2
      clear hx2
      have HI := Lib.hid (sizeL (limN 4 x) (limN_length _ _))
      have Ir := Lib.hid (sizeF' r); have Or := Lib.hid (uc_one (limN 4 r)); have Zr := Lib.hid (zerosF_size r)
      go_wp2_with (with_reducible refine wpList_load_row rfl 24 _ rfl (B + 1) rfl 24 _ (0, 0) _ HG.out Tryd.underlying24 rfl HI.out ?_)
      refine (HC.out wr).mono ?_
      rintro e W1 ⟨rfl, h1⟩
      have HR1 := Lib.hid (blk_below h1 (blk_lt HR.out) HR.out)
      have hb1 : Below B w W1 := hb.trans (h1.mono (by have := blk_lt HR.out; omega))
      clear HC h1 hb HG HR
      go_wp2_with (with_reducible refine wpList_store_row rfl 26 _ _ rfl B (uc (limN 4 r)) rfl rfl 26 _ HR1.out Ir.out Zr.out Or.out ?_)
      exact bodyPost_ret (results_row_tmpF (by rfl) _ _ B 26 _ (0, 0) _ rfl (setRow_heap _ _ _ _ _ _ HR1.out) Tryd.underlying26 rfl Ir.out) rfl ⟨by rw [HX2.out, HRr.out]; rfl, by rw [HBB.out]; exact below_setRow hb1 (Nat.le_refl _) _⟩
end Go.Proofs.YtfidcdkoggfjaaaDoor
