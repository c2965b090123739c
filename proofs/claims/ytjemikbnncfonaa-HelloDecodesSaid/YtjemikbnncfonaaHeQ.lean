/- HelloBusy, over the program's calls. -/
import Derived.Test.YtjemikbnncfonaaHeJ
namespace Go.Proofs.Ytjemikbnncfonaa
open Go.RowKit Go.Sort
set_option maxRecDepth 100000
set_option linter.unusedSimpArgs false
set_option linter.unusedVariables false

theorem place (at_ : Int) (n : Nat) (h : 0 < n) : ∃ k : Nat, k < n ∧ (at_.tmod n + n).tmod n = (k : Int) ∧ -(n : Int) < at_.tmod n ∧ at_.tmod n < n := by
  have h1 : at_.tmod n < n := Int.tmod_lt_of_pos _ (by omega)
  have h2 : -(n : Int) < at_.tmod n := by
    rcases Int.le_total 0 at_ with h0 | h0
    · have := Int.tmod_nonneg (n : Int) h0; omega
    · obtain ⟨y, rfl⟩ : ∃ y, at_ = -y := ⟨-at_, by omega⟩
      rw [Int.neg_tmod]
      have := Int.tmod_lt_of_pos y (show (0 : Int) < n by omega)
      omega
  have h3 : 0 ≤ (at_.tmod n + n).tmod n := Int.tmod_nonneg _ (by omega)
  have h4 : (at_.tmod n + n).tmod n < n := Int.tmod_lt_of_pos _ (by omega)
  exact ⟨((at_.tmod n + n).tmod n).toNat, by omega, by omega, h2, h1⟩
theorem decA_busy (d : ByteArray) (h : decE d = 33) (ao : Option Addr) (c : Nat) : decA d (decE d) ao c = .returned (.tuple #[.agg (msC noM (.slice ao 0 c)), .string ⟨#[]⟩, .int .i64 33]) := by
  rw [decA, decM, decR, if_neg (by rw [h]; decide), if_neg (by rw [h]; decide), h]; rfl
set_option maxHeartbeats 4000000 in
theorem helloBusy_of (C : HeCalls) (m : HMsg) (ao : Option Addr) (n c : Nat) (at_ : Int) (w : World) (ha : -9223372036854775808 ≤ at_ ∧ at_ ≤ 9223372036854775807) (hn : m.su.length = n) (hz : ∀ k, -9223372036854775808 ≤ m.su.getD k 0 ∧ m.su.getD k 0 ≤ 9223372036854775807) (hI : IntsAt w ao m.su) :
    Calls Try.prog 6 #[.agg (msC m (.slice ao n c)), .int .i64 at_] w fun e w' => e = .returned (.bool true) ∧ Below w.heap.size w w' := by
  obtain ⟨hzz, -⟩ := zero_of_info infoMsgH
  obtain ⟨k, rn, sh, su, da, ask⟩ := m
  have HB0 := below_new w (.cells (msC ⟨k, rn, sh, su, da, ask⟩ (.slice ao n c)) 24)
  have HG := Lib.hid (blk_new w (.cells (msC ⟨k, rn, sh, su, da, ask⟩ (.slice ao n c)) 24))
  have HI := Lib.hid (hI.step HB0)
  obtain ⟨c0, c1, c2, c3, c4, c5⟩ := ms_cells HG.out
  dsimp only at c0 c1 c2 c3 c4 c5
  have CF := Lib.hid (fun W => few_any ⟨k, rn, sh, su, da, ask⟩ ao n c W hn)
  have hsz := HB0.size
  cases hf : fewM ⟨k, rn, sh, su, da, ask⟩ with
  | false =>
    rw [hf] at CF
    clear hI hz hn hf
    go_enter Try.func6, Try.ntmps6
    go_wp2_with fail
    refine (CF.out _).mono ?_
    rintro e W1 ⟨rfl, bk⟩
    have hb := HB0.trans (bk.mono hsz)
    go_wp2_with fail
    refine (heawake_of C _).mono ?_
    rintro e W2 ⟨rfl, bk2⟩
    go_wp2_with fail
    go_ret
    exact ⟨rfl, hb.trans (bk2.mono hb.size)⟩
  | true =>
    rw [hf] at CF
    obtain ⟨f1, f2, f3, f4⟩ := few_ok hf
    dsimp only at f1 f2 f3 f4 hn hz
    have CE := Lib.hid (fun W hi => C.enc ⟨k, rn, sh, su, da, ask⟩ ao n c W hn (by omega) (by dsimp only; omega) (by dsimp only; omega) (by dsimp only; omega) hz hi)
    cases ho : okM ⟨k, rn, sh, su, da, ask⟩ with
    | false =>
      unfold encX encE at CE
      rw [ho, if_neg (by decide), if_neg (by decide)] at CE
      have q0 : ((1 : Int) != 0) = true := by decide
      have q1 : ((1 : Int) == 1) = true := by decide
      have q2 : (emB.toList == []) = true := by rw [he_empty]; decide
      clear hI hz hn hf ho f1 f2 f3 f4
      go_enter Try.func6, Try.ntmps6
      go_wp2_with fail
      refine (CF.out _).mono ?_
      rintro e W1 ⟨rfl, bk⟩
      have hb := HB0.trans (bk.mono hsz)
      have HG1 := Lib.hid (blk_below bk (blk_lt HG.out) HG.out)
      have HI1 := Lib.hid (HI.out.step bk)
      clear bk HG HI c0 c1 c2 c3 c4 c5 CF HB0 hsz
      obtain ⟨c0, c1, c2, c3, c4, c5⟩ := ms_cells HG1.out
      dsimp only at c0 c1 c2 c3 c4 c5
      go_wp2_with fail
      refine (CE.out _ HI1.out).mono ?_
      rintro e W2 ⟨rfl, bk⟩
      have hb2 := hb.trans (bk.mono hb.size)
      clear bk HG1 HI1 c0 c1 c2 c3 c4 c5 CE hb
      go_wp2_with fail
      refine (heawake_of C _).mono ?_
      rintro e W5 ⟨rfl, bk⟩
      go_wp2_with fail
      go_ret
      exact ⟨rfl, hb2.trans (bk.mono hb2.size)⟩
    | true =>
      unfold encX encE at CE
      rw [ho, if_pos rfl, if_pos rfl] at CE
      have hes := encB_size ⟨k, rn, sh, su, da, ask⟩
      have hbs := bodB_size _ ho
      have HC := Lib.hid (fun j => dec_cut ⟨k, rn, sh, su, da, ask⟩ j ho)
      generalize encB ⟨k, rn, sh, su, da, ask⟩ = x at *
      obtain ⟨L, hL⟩ : ∃ L, x.size = L := ⟨_, rfl⟩
      rw [hL] at HC
      have hL0 : 0 < L := by omega
      have hL1 : L ≤ 1013 := by omega
      have hLi : (x.size : Int) = (L : Int) := by omega
      obtain ⟨j, hj, hjm, hm1, hm2⟩ := place at_ L hL0
      have hd := HC.out j hj
      have HD := Lib.hid (fun W => C.dec (x.extract 0 j) W (by simp; omega))
      have HA := Lib.hid (decA_busy _ hd)
      have q0 : ((0 : Int) != 0) = false := by decide
      have q1 : ((L : Int) == 0) = false := by rw [beq_eq_false_iff_ne]; omega
      have w1 : IntKind.i64.wrap (at_.tmod L + L) = at_.tmod L + L := by rw [IntKind.wrap_i64]; omega
      have j0 : (0 : Int) ≤ (j : Int) := by omega
      have j1 : (j : Int) ≤ (L : Int) := by omega
      have j2 : j ≤ x.size := by omega
      have hLn : (L : Int) ≠ 0 := by omega
      obtain ⟨t, ht⟩ : ∃ t, x.extract 0 j = t := ⟨_, rfl⟩
      rw [ht] at HD HA
      have jt : (j : Int).toNat = j := Int.toNat_natCast j
      clear hI hz hn hf ho f1 f2 f3 f4 hes hbs hd hj HC hm1 hm2 ha
      go_enter Try.func6, Try.ntmps6
      go_wp2_with fail
      refine (CF.out _).mono ?_
      rintro e W1 ⟨rfl, bk⟩
      have hb := HB0.trans (bk.mono hsz)
      have HG1 := Lib.hid (blk_below bk (blk_lt HG.out) HG.out)
      have HI1 := Lib.hid (HI.out.step bk)
      clear bk HG HI c0 c1 c2 c3 c4 c5 CF HB0 hsz
      obtain ⟨c0, c1, c2, c3, c4, c5⟩ := ms_cells HG1.out
      dsimp only at c0 c1 c2 c3 c4 c5
      go_wp2_with fail
      refine (CE.out _ HI1.out).mono ?_
      rintro e W2 ⟨rfl, bk⟩
      have hb2 := hb.trans (bk.mono hb.size)
      clear bk HG1 HI1 c0 c1 c2 c3 c4 c5 CE hb
      go_wp2_with fail
      refine (HD.out _).mono ?_
      rintro e W3 ⟨⟨ao2, c2, rfl, -, -⟩, bk⟩
      have hb3 := hb2.trans (bk.mono hb2.size)
      rw [HA.out]
      have H3 := Lib.hid (blk_new W3 (.cells zM 24))
      have bk3 := below_setRow (below_new W3 (.cells zM 24)) (Nat.le_refl _) (msC noM (.slice ao2 0 c2))
      have hb4 := hb3.trans (bk3.mono hb3.size)
      have q5 : ((33 : Int) == 33) = true := by decide
      clear bk HD bk3 HA hb2 hb3
      go_wp2_with (with_reducible refine wpList_store_row rfl 24 _ _ rfl W3.heap.size (msC noM (.slice ao2 0 c2)) rfl rfl 24 _ H3.out (sizeMsgH _ _) rfl (oneMsg _ _ _ _) ?_)
      generalize World.setRow _ _ _ = W4 at *
      clear H3
      refine (heawake_of C _).mono ?_
      rintro e W5 ⟨rfl, bk⟩
      go_wp2_with fail
      go_ret
      exact ⟨rfl, hb4.trans (bk.mono hb4.size)⟩
end Go.Proofs.Ytjemikbnncfonaa
