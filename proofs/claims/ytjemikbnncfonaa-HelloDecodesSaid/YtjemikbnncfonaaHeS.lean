/- Whether a greeting's fields are as they must be: the reference's. -/
import Derived.Test.YtjemikbnncfonaaHeP
namespace Go.Proofs.Ytjemikbnncfonaa
open Go.RowKit Go.Sort
set_option maxRecDepth 100000
set_option linter.unusedSimpArgs false
set_option linter.unusedVariables false

theorem suits_snoc (l : List Int) (k : Nat) (x : Int) (hx : l[k]? = some x) (h : suitsOk (l.take k) = true) (h0 : 0 ≤ x) (h1 : x ≤ 65535) : suitsOk (l.take (k + 1)) = true := by
  obtain ⟨hk, rfl⟩ := List.getElem?_eq_some_iff.1 hx
  rw [List.take_succ_eq_append_getElem hk]
  simp only [suitsOk, List.all_append, List.all_cons, List.all_nil, Bool.and_true, Bool.and_eq_true, decide_eq_true_eq]
  exact ⟨h, h0, h1⟩
theorem suits_bad (l : List Int) (k : Nat) (x : Int) (hx : l[k]? = some x) (h : x < 0 ∨ 65535 < x) : suitsOk l = false := by
  rw [Bool.eq_false_iff]
  intro hs
  have := List.all_eq_true.1 hs x (List.mem_of_getElem? hx)
  simp only [Bool.and_eq_true, decide_eq_true_eq] at this
  omega
set_option maxHeartbeats 8000000 in
theorem rsuited_any (m : HMsg) (ao : Option Addr) (n c most : Nat) (w : World) (hn : m.su.length = n) (hm : n ≤ 1000000) (hmost : most ≤ 1000) (hI : IntsAt w ao m.su) :
    Calls Try.prog 31 #[.agg (msC m (.slice ao n c)), .int .i64 (most : Int)] w fun e w' => e = .returned (.bool (suited m most)) ∧ Below w.heap.size w w' := by
  have HB0 := Lib.hid (below_new w (.cells (msC m (.slice ao n c)) 31))
  obtain ⟨c0, c1, c2, c3, c4, c5⟩ := ms_cells (blk_new w (.cells (msC m (.slice ao n c)) 31))
  have HI := Lib.hid (hI.step (below_new w (.cells (msC m (.slice ao n c)) 31)))
  have HN := Lib.hid hn
  have HR : Hid (suited m most = (decide (m.rn.size = 32) && decide (m.sh.size = 32) && decide (1 ≤ m.su.length) && decide (m.su.length ≤ most) && suitsOk m.su)) := Lib.hid rfl
  rw [hn] at HR
  generalize suited m most = r at *
  clear hI hn
  by_cases h1 : m.rn.size = 32
  case neg =>
    have e1 : ((m.rn.size : Int) != 32) = true := by rw [bne_iff_ne]; omega
    have HR : Hid (r = false) := Lib.hid (by rw [HR.out, decide_eq_false h1]; rfl)
    clear h1
    go_enter Try.func31, Try.ntmps31
    go_wp2_with fail
    go_ret
    exact ⟨by rw [HR.out]; rfl, HB0.out⟩
  have e1 : ((m.rn.size : Int) != 32) = false := by rw [bne_eq_false_iff_eq]; omega
  by_cases h2 : m.sh.size = 32
  case neg =>
    have e2 : ((m.sh.size : Int) != 32) = true := by rw [bne_iff_ne]; omega
    have HR : Hid (r = false) := Lib.hid (by rw [HR.out, decide_eq_false h2]; simp)
    clear h1 h2
    go_enter Try.func31, Try.ntmps31
    go_wp2_with fail
    go_ret
    exact ⟨by rw [HR.out]; rfl, HB0.out⟩
  have e2 : ((m.sh.size : Int) != 32) = false := by rw [bne_eq_false_iff_eq]; omega
  by_cases h3 : 1 ≤ n
  case neg =>
    have e3 : decide ((n : Int) < 1) = true := by simp; omega
    have HR : Hid (r = false) := Lib.hid (by rw [HR.out, decide_eq_false h3]; simp)
    clear h1 h2 h3
    go_enter Try.func31, Try.ntmps31
    go_wp2_with fail
    go_ret
    exact ⟨by rw [HR.out]; rfl, HB0.out⟩
  have e3 : decide ((n : Int) < 1) = false := by simp; omega
  by_cases h4 : n ≤ most
  case neg =>
    have e4 : decide ((most : Int) < (n : Int)) = true := by simp; omega
    have e5 : most < n := by omega
    have HR : Hid (r = false) := Lib.hid (by rw [HR.out, decide_eq_false h4]; simp)
    clear h1 h2 h3 h4
    go_enter Try.func31, Try.ntmps31
    go_wp2_with fail
    go_ret
    exact ⟨by rw [HR.out]; rfl, HB0.out⟩
  have e4 : decide ((most : Int) < (n : Int)) = false := by simp; omega
  have e5 : ¬ most < n := by omega
  replace HR : Hid (r = suitsOk m.su) := Lib.hid (by rw [HR.out, decide_eq_true h1, decide_eq_true h2, decide_eq_true h3, decide_eq_true h4]; rfl)
  clear h1 h2 h3 h4
  go_enter Try.func31, Try.ntmps31
  go_wp2_with fail
  generalize hW : w.alloc (.cells (msC m (.slice ao n c)) 31) = W0 at *
  go_loopw [5] (fun iv wr => ∃ (k : Nat), k ≤ n ∧ iv = .int .i64 (k : Int) ∧ wr = W0 ∧ Hid (suitsOk (m.su.take k) = true)) (fun iv _ => n - (intOf iv).toNat)
  case atStart => exact ⟨0, by omega, rfl, rfl, Lib.hid rfl⟩
  case round =>
    obtain ⟨k, hk, rfl, rfl, HT⟩ := hrel
    by_cases hlt : k < n
    · have hdk : decide ((k : Int) < (n : Int)) = true := by simp; omega
      have hkn : (k : Int) < (n : Int) := by omega
      obtain ⟨g, off, rfl, hcell⟩ := HI.out k (by rw [HN.out]; exact hlt)
      have hx : m.su[k]? = some (m.su.getD k 0) := by rw [List.getD_eq_getElem?_getD, List.getElem?_eq_getElem (by rw [HN.out]; exact hlt)]; rfl
      have HX := Lib.hid hx
      clear hx
      generalize m.su.getD k 0 = x at *
      by_cases x0 : x < 0
      · have d0 : decide (x < 0) = true := by simp; omega
        have HF := Lib.hid (suits_bad _ _ _ HX.out (.inl x0))
        clear x0
        go_wp2_with fail
        go_ret
        exact ⟨by rw [HR.out, HF.out]; rfl, HB0.out⟩
      · have d0 : decide (x < 0) = false := by simp; omega
        by_cases x1 : 65535 < x
        · have d1 : decide (65535 < x) = true := by simp; omega
          have HF := Lib.hid (suits_bad _ _ _ HX.out (.inr x1))
          clear x0 x1
          go_wp2_with fail
          go_ret
          exact ⟨by rw [HR.out, HF.out]; rfl, HB0.out⟩
        · have d1 : decide (65535 < x) = false := by simp; omega
          have HF := Lib.hid (suits_snoc _ _ _ HX.out HT.out (by omega) (by omega))
          clear x0 x1
          go_wp2_with fail
          go_roundw
          case rel => exact ⟨k + 1, by omega, by go_num, by trivial, HF⟩
          case measure => simp [intOf]; omega
    · have hdk : decide ((k : Int) < (n : Int)) = false := by simp; omega
      obtain rfl : k = n := by omega
      have HF : Hid (suitsOk m.su = true) := Lib.hid (by have := HT.out; rwa [List.take_of_length_le (by rw [HN.out]; exact Nat.le_refl _)] at this)
      go_wp2_with fail
      go_ret
      exact ⟨by rw [HR.out, HF.out]; rfl, HB0.out⟩
end Go.Proofs.Ytjemikbnncfonaa
