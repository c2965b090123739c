/- What the laws on messages call: few, plain. -/
import Derived.Test.YtjemikbnncfonaaHeD
namespace Go.Proofs.Ytjemikbnncfonaa
open Go.RowKit Go.Sort
set_option maxRecDepth 100000
set_option linter.unusedSimpArgs false
set_option linter.unusedVariables false

def fewM (m : HMsg) : Bool := decide (m.rn.size ≤ 200) && decide (m.sh.size ≤ 200) && decide (m.su.length ≤ 50) && decide (m.da.size ≤ 2000)
set_option maxHeartbeats 4000000 in
theorem few_any (m : HMsg) (ao : Option Addr) (n c : Nat) (w : World) (hn : m.su.length = n) :
    Calls Try.prog 7 #[.agg (msC m (.slice ao n c))] w fun e w' => e = .returned (.bool (fewM m)) ∧ Below w.heap.size w w' := by
  have HB0 := Lib.hid (below_new w (.cells (msC m (.slice ao n c)) 24))
  obtain ⟨c0, c1, c2, c3, c4, c5⟩ := ms_cells (blk_new w (.cells (msC m (.slice ao n c)) 24))
  have HR : Hid (fewM m = (decide (m.rn.size ≤ 200) && decide (m.sh.size ≤ 200) && decide (n ≤ 50) && decide (m.da.size ≤ 2000))) := Lib.hid (by rw [fewM, hn])
  generalize fewM m = r at *
  have e1 : decide ((m.rn.size : Int) ≤ 200) = decide (m.rn.size ≤ 200) := by rw [Bool.eq_iff_iff]; simp; omega
  have e2 : decide ((m.sh.size : Int) ≤ 200) = decide (m.sh.size ≤ 200) := by rw [Bool.eq_iff_iff]; simp; omega
  have e3 : decide ((n : Int) ≤ 50) = decide (n ≤ 50) := by rw [Bool.eq_iff_iff]; simp; omega
  have e4 : decide ((m.da.size : Int) ≤ 2000) = decide (m.da.size ≤ 2000) := by rw [Bool.eq_iff_iff]; simp; omega
  generalize decide (m.rn.size ≤ 200) = x1 at *
  generalize decide (m.sh.size ≤ 200) = x2 at *
  generalize decide (n ≤ 50) = x3 at *
  generalize decide (m.da.size ≤ 2000) = x4 at *
  clear hn
  cases x1 with
  | false =>
    go_enter Try.func7, Try.ntmps7
    go_wp2_with fail
    go_ret
    exact ⟨by rw [HR.out]; rfl, HB0.out⟩
  | true =>
    cases x2 with
    | false =>
      go_enter Try.func7, Try.ntmps7
      go_wp2_with fail
      go_ret
      exact ⟨by rw [HR.out]; rfl, HB0.out⟩
    | true =>
      cases x3 with
      | false =>
        go_enter Try.func7, Try.ntmps7
        go_wp2_with fail
        go_ret
        exact ⟨by rw [HR.out]; rfl, HB0.out⟩
      | true =>
        cases x4 with
        | false =>
          go_enter Try.func7, Try.ntmps7
          go_wp2_with fail
          go_ret
          exact ⟨by rw [HR.out]; rfl, HB0.out⟩
        | true =>
          go_enter Try.func7, Try.ntmps7
          go_wp2_with fail
          go_ret
          exact ⟨by rw [HR.out]; rfl, HB0.out⟩
theorem rowP (m : HMsg) (sl : Value) : (((((zM.setIfInBounds 0 (.int .i64 m.k)).setIfInBounds 1 (.string m.rn)).setIfInBounds 2 (.string m.sh)).setIfInBounds 3 sl).setIfInBounds 4 (.string m.da)).setIfInBounds 5 (.bool m.ask) = msC m sl := rfl
set_option maxHeartbeats 4000000 in
theorem plain_any (m : HMsg) (ao : Option Addr) (n c : Nat) (w : World) :
    Calls Try.prog 11 #[.agg (msC m (.slice ao n c))] w fun e w' => e = .returned (.agg (msC m (.slice ao n c))) ∧ Below w.heap.size w w' := by
  obtain ⟨hzz, -⟩ := zero_of_info infoMsg
  have HB0 := below_new2 w (.cells (msC m (.slice ao n c)) 24) (.cells zM 31)
  obtain ⟨c0, c1, c2, c3, c4, c5⟩ := ms_cells (blk_old (o := .cells zM 31) (blk_new w (.cells (msC m (.slice ao n c)) 24)))
  have HR := Lib.hid (blk_new2 w (.cells (msC m (.slice ao n c)) 24) (.cells zM 31))
  have rp := rowP m (.slice ao n c)
  go_enter Try.func11, Try.ntmps11
  go_wp2_with (with_reducible refine wpList_store_row rfl 31 _ _ rfl (w.heap.size + 1) (msC m (.slice ao n c)) rfl rfl 31 _ HR.out (sizeMsg _ _) rfl (oneMsg _ _ _ _) ?_)
  exact bodyPost_ret (results_cell_row (by rfl) _ _ (w.heap.size + 1) 31 _ (0, 0) _ rfl (setRow_heap _ _ _ _ _ _ HR.out) Try.underlying31 rfl (sizeMsg _ _)) rfl ⟨rfl, below_setRow HB0 (by omega) _⟩
end Go.Proofs.Ytjemikbnncfonaa
