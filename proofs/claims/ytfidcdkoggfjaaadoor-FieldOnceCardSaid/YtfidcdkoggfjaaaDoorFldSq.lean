/- The program's squares, so many times. -/
import Derived.Test.YtfidcdkoggfjaaaDoorFldMul
namespace Go.Proofs.YtfidcdkoggfjaaaDoor
open Go.RowKit Go.Sort
set_option maxRecDepth 100000
set_option linter.unusedSimpArgs false
set_option linter.unusedVariables false

theorem powF_one (x : Nat) (hx : x < pF) : powF x 1 = x := by rw [powF, Nat.pow_one, Nat.mod_eq_of_lt hx]
theorem powF_mul (x m n : Nat) : mulF (powF x m) (powF x n) = powF x (m + n) := by rw [mulF, powF, powF, powF, ← Nat.mul_mod, ← Nat.pow_add]
theorem powF_pow (x m n : Nat) : powF (powF x m) n = powF x (m * n) := by rw [powF, powF, powF, ← Nat.pow_mod, Nat.pow_mul]

set_option maxHeartbeats 1000000 in
theorem squared_any (x n : Nat) (w : World) (hx : x < pF) (hn : n ≤ 1000000) :
    Calls Tryd.prog 41 #[.agg (uc (limN 4 x)), .int .i64 (n : Int)] w fun e w' => e = .returned (.agg (uc (limN 4 (powF x (2 ^ n))))) ∧ Below w.heap.size w w' := by
  obtain ⟨hz, hi⟩ := zero_of_info infoF
  have HG0 := Lib.hid (blk_old (o := .cells zeros4 26) (blk_new w (.cells (uc (limN 4 x)) 26)))
  have HR0 := Lib.hid (blk_new2 w (.cells (uc (limN 4 x)) 26) (.cells zeros4 26))
  have hb0 := below_new2 w (.cells (uc (limN 4 x)) 26) (.cells zeros4 26)
  have HX0 := Lib.hid (powF_one x hx)
  clear hi hx
  go_enter Tryd.func41, Tryd.ntmps41
  go_wp2_with fail
  clear hz
  generalize ((w.alloc _).alloc _) = W0 at *
  generalize hBB : w.heap.size = B at *
  have HBB := Lib.hid hBB
  clear hBB
  go_loopw [6] (fun i wr => ∃ k : Nat, k ≤ n ∧ i = .int .i64 (k : Int) ∧ wr.heap[B]? = some (.cells (uc (limN 4 (powF x (2 ^ k)))) 26) ∧ wr.heap[B + 1]? = some (.cells zeros4 26) ∧ Below B w wr) (fun i _ => n - (intOf i).toNat)
  case atStart => exact ⟨0, by omega, rfl, by rw [Nat.pow_zero, HX0.out]; exact HG0.out, HR0.out, hb0⟩
  case round =>
    clear HG0 HR0 hb0
    obtain ⟨k, hk, rfl, hg, hr, hb⟩ := hrel
    have HG := Lib.hid hg; have HR := Lib.hid hr
    clear hg hr
    by_cases hlt : k < n
    · have hd : decide ((k : Int) < (n : Int)) = true := by simp; omega
      have HC := Lib.hid (mulF_any (powF x (2 ^ k)) (powF x (2 ^ k)) wr (powF_lt _ _) (powF_lt _ _))
      rw [powF_mul, show 2 ^ k + 2 ^ k = 2 ^ (k + 1) by rw [Nat.pow_succ]; omega] at HC
      have HI := Lib.hid (sizeF (limN 4 (powF x (2 ^ k))) (limN_length _ _))
      have HI2 := Lib.hid (sizeF (limN 4 (powF x (2 ^ (k + 1)))) (limN_length _ _))
      have HZ := Lib.hid (show (uc (limN 4 (powF x (2 ^ k)))).size = (uc (limN 4 (powF x (2 ^ (k + 1))))).size by rw [uc_size, uc_size, limN_length, limN_length])
      have H1 := Lib.hid (uc_one (limN 4 (powF x (2 ^ (k + 1)))))
      generalize powF x (2 ^ k) = u at *
      generalize hq : powF x (2 ^ (k + 1)) = q at *
      have HQ := Lib.hid hq
      clear hq
      go_wp2_with (with_reducible refine wpList_load_row rfl 26 _ rfl B rfl 26 _ (0, 0) _ HG.out Tryd.underlying26 rfl HI.out ?_)
      refine HC.out.mono ?_
      rintro e W1 ⟨rfl, h1⟩
      have HG1 := Lib.hid (blk_below h1 (blk_lt HG.out) HG.out)
      have HR1 := Lib.hid (blk_below h1 (blk_lt HR.out) HR.out)
      have hb1 : Below B w W1 := hb.trans (h1.mono (by have := blk_lt HG.out; omega))
      have HG2 := Lib.hid (setRow_heap W1 B _ (uc (limN 4 q)) _ _ HG1.out)
      have HR2 : Hid ((W1.setRow B (uc (limN 4 q))).heap[B + 1]? = some (.cells zeros4 26)) := Lib.hid (by rw [setRow_other _ _ _ _ (by omega)]; exact HR1.out)
      have hb2 : Below B w (W1.setRow B (uc (limN 4 q))) := below_setRow hb1 (Nat.le_refl _) _
      clear HC hb HG HR HR1 hb1 h1
      go_wp2_with (with_reducible refine wpList_store_row rfl 26 _ _ rfl B (uc (limN 4 q)) rfl rfl 26 _ HG1.out HI2.out HZ.out H1.out ?_)
      go_roundw
      case rel => exact ⟨k + 1, by omega, by go_num, by rw [HQ.out]; exact HG2.out, HR2.out, hb2⟩
      case measure => simp [intOf]; omega
    · have hd : decide ((k : Int) < (n : Int)) = false := by simp; omega
      obtain rfl : k = n := by omega
      generalize hrow : powF x (2 ^ k) = r at *
      have HROW := Lib.hid hrow
      clear hrow HX0
      have HI := Lib.hid (sizeF (limN 4 r) (limN_length _ _))
      have HO := Lib.hid (show zeros4.size = (uc (limN 4 r)).size by rw [uc_size, limN_length]; exact uc_size _)
      have H1 := Lib.hid (uc_one (limN 4 r))
      go_wp2_with (first
        | (with_reducible refine wpList_load_row rfl 26 _ rfl B rfl 26 _ (0, 0) _ HG.out Tryd.underlying26 rfl HI.out ?_)
        | (with_reducible refine wpList_store_row rfl 26 _ _ rfl (B + 1) (uc (limN 4 r)) rfl rfl 26 _ HR.out HI.out HO.out H1.out ?_))
      exact bodyPost_ret (v := .agg (uc (limN 4 r))) (results_cell_row (by rfl) _ _ (B + 1) 26 _ (0, 0) _ rfl (setRow_heap _ _ _ _ _ _ HR.out) Tryd.underlying26 rfl HI.out) rfl ⟨by rw [HROW.out], by rw [HBB.out]; exact below_setRow hb (by omega) _⟩
end Go.Proofs.YtfidcdkoggfjaaaDoor
