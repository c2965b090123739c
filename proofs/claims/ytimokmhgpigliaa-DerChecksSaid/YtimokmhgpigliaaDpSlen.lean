/- Package der: splitLength. -/
import Derived.Test.YtimokmhgpigliaaDpSl
namespace Go.Proofs.Ytimokmhgpigliaa
open Go.RowKit Go.Sort
set_option maxRecDepth 100000
set_option linter.unusedSimpArgs false
set_option linter.unusedVariables false
set_option maxHeartbeats 16000000 in
theorem splitLen_any (s : ByteArray) (w : World) (hs : s.size ≤ 1000000000) :
    Calls Try.prog 48 #[.string s] w fun e w' => e = .returned (.tuple #[.int .i64 (slV s), .string (slR s), .int .i64 (slE s.data.toList)]) ∧ Below w.heap.size w w' := by
  have hl : s.data.toList.length = s.size := (Lib.size_eq s).symm
  have hb := Below.refl w.heap.size w
  by_cases c0 : s.size = 0
  · have q0 : (s.toList == []) = true := by rw [Lib.toList_data]; have : s.data.toList = [] := List.length_eq_zero_iff.1 (by omega); rw [this]; rfl
    have HB := Lib.hid (sl_bad s 10 (by rw [slE, if_pos (by omega)]) (by decide))
    clear hl hs
    go_enter Try.func48, Try.ntmps48
    go_wp2_with fail
    go_ret3
    exact ⟨by rw [HB.out.1, HB.out.2.1, HB.out.2.2]; rfl, hb⟩
  have q0 : (s.toList == []) = false := by rw [Lib.toList_data]; cases h : s.data.toList with | nil => rw [h] at hl; exact absurd hl.symm c0 | cons a r => rfl
  have hl0 : 0 < s.size := by omega
  have hi0 : (0 : Int) < (s.size : Int) := by omega
  have hi1 : (1 : Int) ≤ (s.size : Int) := by omega
  have hj1 : 1 ≤ s.size := by omega
  have t0 := rd_at s 0 hl0
  have h0 := rdB_lt s.data.toList 0
  have n0 : ¬ s.data.toList.length = 0 := by omega
  have wb : IntKind.i64.wrap (rdB s.data.toList 0 : Int) = (rdB s.data.toList 0 : Int) := by rw [IntKind.wrap_i64]; omega
  by_cases c1 : rdB s.data.toList 0 < 128
  · have HB := Lib.hid (sl_good s (by rw [slE, if_neg n0, if_pos c1]))
    rw [slA, slN, if_pos c1, if_neg (by omega)] at HB
    have d1 : decide ((rdB s.data.toList 0 : Int) < 128) = true := by simp; omega
    obtain ⟨b0, eb⟩ : ∃ b0, rdB s.data.toList 0 = b0 := ⟨_, rfl⟩
    rw [eb] at t0 wb
    have EB := Lib.hid eb
    clear eb
    obtain ⟨r, erx⟩ : ∃ r, s.extract 1 s.size = r := ⟨_, rfl⟩
    have ER := Lib.hid erx
    have er : s.extract 1 s.size = r := erx
    clear erx
    rw [EB.out] at d1 HB
    rw [ER.out] at HB
    clear hl hs n0 c0 c1 h0
    go_enter Try.func48, Try.ntmps48
    go_wp2_with fail
    refine wp_region_told 6 55 [(Told.val (.string s), [0]),
      (Told.val (.int .u8 (b0 : Int)), [11]),
      (Told.val (.int .i64 (b0 : Int)), [12]),
      (Told.val (.string s), [0]),
      (Told.val (.string r), [14]),
      (Told.val (.int .i64 (b0 : Int)), [13])]
      (by kernel_rfl) (by kernel_rfl) rfl ?_ ?_
    · simp only [List.take_succ_cons, List.take_zero, toldObl, and_true]
      refine And.intro ?_ (And.intro ?_ (And.intro ?_ (And.intro ?_ (And.intro ?_ (?_)))))
      · intro a w hb h
        have e0 : a.tmps.getD 0 undef = .string s := h 0 (by simp)
        simp only [Array.getD_eq_getD_getElem?] at e0
        refine told_q ?_
        simp [go_sem, e0, sQuiet]
      · intro a w hb h
        have e0 : a.tmps.getD 11 undef = .string s := h 11 (by simp)
        simp only [Array.getD_eq_getD_getElem?] at e0
        refine told_q ?_
        simp [go_sem, e0, sQuiet, hi0, hl0, t0]
      · intro a w hb h
        have e0 : a.tmps.getD 12 undef = .int .u8 (b0 : Int) := h 12 (by simp)
        simp only [Array.getD_eq_getD_getElem?] at e0
        refine told_q ?_
        simp [go_sem, e0, sQuiet, wb]
      · intro a w hb h
        have e0 : a.tmps.getD 0 undef = .string s := h 0 (by simp)
        simp only [Array.getD_eq_getD_getElem?] at e0
        refine told_q ?_
        simp [go_sem, e0, sQuiet]
      · intro a w hb h
        have e0 : a.tmps.getD 14 undef = .string s := h 14 (by simp)
        simp only [Array.getD_eq_getD_getElem?] at e0
        refine told_q ?_
        simp [go_sem, e0, sQuiet, hi1, hj1, er]
      · intro a w hb h
        have e0 : a.tmps.getD 13 undef = .int .i64 (b0 : Int) := h 13 (by simp)
        simp only [Array.getD_eq_getD_getElem?] at e0
        refine told_q ?_
        simp [go_sem, e0, sQuiet]
    simp only [List.take_succ_cons, List.take_zero, List.drop_succ_cons, List.drop_zero, toldEnd, Act.put, List.setIfInBounds_toArray, List.set_cons_succ, List.set_cons_zero]
    rintro X bk v11 q11 v12 q12 v13 q13 v14 q14 v15 q15 v5 q5
    obtain rfl := q11.symm
    obtain rfl := q12.symm
    obtain rfl := q13.symm
    obtain rfl := q14.symm
    obtain rfl := q15.symm
    obtain rfl := q5.symm
    clear q11 q12 q13 q14 q15 q5
    replace hb := hb.trans (bk.mono hb.size)
    clear bk t0 hi0 hl0 hi1 hj1 er
    go_wp2_with fail
    go_ret3
    exact ⟨by rw [HB.out.1, HB.out.2.1, HB.out.2.2]; rfl, hb⟩
  have d1 : decide ((rdB s.data.toList 0 : Int) < 128) = false := by simp; omega
  have ws : IntKind.i64.wrap ((rdB s.data.toList 0 : Int) - 128) = (rdB s.data.toList 0 : Int) - 128 := by rw [IntKind.wrap_i64]; omega
  by_cases c2 : rdB s.data.toList 0 = 128 ∨ 130 < rdB s.data.toList 0
  · have HB := Lib.hid (sl_bad s 11 (by rw [slE, if_neg n0, if_neg c1, if_pos c2]) (by decide))
    by_cases c3 : rdB s.data.toList 0 = 128
    · have d2 : ((rdB s.data.toList 0 : Int) - 128 == 0) = true := by simp; omega
      obtain ⟨b0, eb⟩ : ∃ b0, rdB s.data.toList 0 = b0 := ⟨_, rfl⟩
      rw [eb] at t0 wb
      have EB := Lib.hid eb
      clear eb
      obtain ⟨r, erx⟩ : ∃ r, s.extract 1 s.size = r := ⟨_, rfl⟩
      have ER := Lib.hid erx
      have er : s.extract 1 s.size = r := erx
      clear erx
      rw [EB.out] at d1 d2 ws
      clear hl hs n0 c0 c1 c2 c3 h0
      go_enter Try.func48, Try.ntmps48
      go_wp2_with fail
      refine wp_region_told 6 55 [(Told.val (.string s), [0]),
        (Told.val (.int .u8 (b0 : Int)), [11]),
        (Told.val (.int .i64 (b0 : Int)), [12]),
        (Told.val (.string s), [0]),
        (Told.val (.string r), [14]),
        (Told.val (.int .i64 (b0 : Int)), [13])]
        (by kernel_rfl) (by kernel_rfl) rfl ?_ ?_
      · simp only [List.take_succ_cons, List.take_zero, toldObl, and_true]
        refine And.intro ?_ (And.intro ?_ (And.intro ?_ (And.intro ?_ (And.intro ?_ (?_)))))
        · intro a w hb h
          have e0 : a.tmps.getD 0 undef = .string s := h 0 (by simp)
          simp only [Array.getD_eq_getD_getElem?] at e0
          refine told_q ?_
          simp [go_sem, e0, sQuiet]
        · intro a w hb h
          have e0 : a.tmps.getD 11 undef = .string s := h 11 (by simp)
          simp only [Array.getD_eq_getD_getElem?] at e0
          refine told_q ?_
          simp [go_sem, e0, sQuiet, hi0, hl0, t0]
        · intro a w hb h
          have e0 : a.tmps.getD 12 undef = .int .u8 (b0 : Int) := h 12 (by simp)
          simp only [Array.getD_eq_getD_getElem?] at e0
          refine told_q ?_
          simp [go_sem, e0, sQuiet, wb]
        · intro a w hb h
          have e0 : a.tmps.getD 0 undef = .string s := h 0 (by simp)
          simp only [Array.getD_eq_getD_getElem?] at e0
          refine told_q ?_
          simp [go_sem, e0, sQuiet]
        · intro a w hb h
          have e0 : a.tmps.getD 14 undef = .string s := h 14 (by simp)
          simp only [Array.getD_eq_getD_getElem?] at e0
          refine told_q ?_
          simp [go_sem, e0, sQuiet, hi1, hj1, er]
        · intro a w hb h
          have e0 : a.tmps.getD 13 undef = .int .i64 (b0 : Int) := h 13 (by simp)
          simp only [Array.getD_eq_getD_getElem?] at e0
          refine told_q ?_
          simp [go_sem, e0, sQuiet]
      simp only [List.take_succ_cons, List.take_zero, List.drop_succ_cons, List.drop_zero, toldEnd, Act.put, List.setIfInBounds_toArray, List.set_cons_succ, List.set_cons_zero]
      rintro X bk v11 q11 v12 q12 v13 q13 v14 q14 v15 q15 v5 q5
      obtain rfl := q11.symm
      obtain rfl := q12.symm
      obtain rfl := q13.symm
      obtain rfl := q14.symm
      obtain rfl := q15.symm
      obtain rfl := q5.symm
      clear q11 q12 q13 q14 q15 q5
      replace hb := hb.trans (bk.mono hb.size)
      clear bk t0 hi0 hl0 hi1 hj1 er
      go_wp2_with fail
      go_ret3
      exact ⟨by rw [HB.out.1, HB.out.2.1, HB.out.2.2]; rfl, hb⟩
    · have d2 : ((rdB s.data.toList 0 : Int) - 128 == 0) = false := by simp; omega
      have d3 : decide ((2 : Int) < (rdB s.data.toList 0 : Int) - 128) = true := by simp; omega
      obtain ⟨b0, eb⟩ : ∃ b0, rdB s.data.toList 0 = b0 := ⟨_, rfl⟩
      rw [eb] at t0 wb
      have EB := Lib.hid eb
      clear eb
      obtain ⟨r, erx⟩ : ∃ r, s.extract 1 s.size = r := ⟨_, rfl⟩
      have ER := Lib.hid erx
      have er : s.extract 1 s.size = r := erx
      clear erx
      rw [EB.out] at d1 d2 d3 ws
      clear hl hs n0 c0 c1 c2 c3 h0
      go_enter Try.func48, Try.ntmps48
      go_wp2_with fail
      refine wp_region_told 6 55 [(Told.val (.string s), [0]),
        (Told.val (.int .u8 (b0 : Int)), [11]),
        (Told.val (.int .i64 (b0 : Int)), [12]),
        (Told.val (.string s), [0]),
        (Told.val (.string r), [14]),
        (Told.val (.int .i64 (b0 : Int)), [13])]
        (by kernel_rfl) (by kernel_rfl) rfl ?_ ?_
      · simp only [List.take_succ_cons, List.take_zero, toldObl, and_true]
        refine And.intro ?_ (And.intro ?_ (And.intro ?_ (And.intro ?_ (And.intro ?_ (?_)))))
        · intro a w hb h
          have e0 : a.tmps.getD 0 undef = .string s := h 0 (by simp)
          simp only [Array.getD_eq_getD_getElem?] at e0
          refine told_q ?_
          simp [go_sem, e0, sQuiet]
        · intro a w hb h
          have e0 : a.tmps.getD 11 undef = .string s := h 11 (by simp)
          simp only [Array.getD_eq_getD_getElem?] at e0
          refine told_q ?_
          simp [go_sem, e0, sQuiet, hi0, hl0, t0]
        · intro a w hb h
          have e0 : a.tmps.getD 12 undef = .int .u8 (b0 : Int) := h 12 (by simp)
          simp only [Array.getD_eq_getD_getElem?] at e0
          refine told_q ?_
          simp [go_sem, e0, sQuiet, wb]
        · intro a w hb h
          have e0 : a.tmps.getD 0 undef = .string s := h 0 (by simp)
          simp only [Array.getD_eq_getD_getElem?] at e0
          refine told_q ?_
          simp [go_sem, e0, sQuiet]
        · intro a w hb h
          have e0 : a.tmps.getD 14 undef = .string s := h 14 (by simp)
          simp only [Array.getD_eq_getD_getElem?] at e0
          refine told_q ?_
          simp [go_sem, e0, sQuiet, hi1, hj1, er]
        · intro a w hb h
          have e0 : a.tmps.getD 13 undef = .int .i64 (b0 : Int) := h 13 (by simp)
          simp only [Array.getD_eq_getD_getElem?] at e0
          refine told_q ?_
          simp [go_sem, e0, sQuiet]
      simp only [List.take_succ_cons, List.take_zero, List.drop_succ_cons, List.drop_zero, toldEnd, Act.put, List.setIfInBounds_toArray, List.set_cons_succ, List.set_cons_zero]
      rintro X bk v11 q11 v12 q12 v13 q13 v14 q14 v15 q15 v5 q5
      obtain rfl := q11.symm
      obtain rfl := q12.symm
      obtain rfl := q13.symm
      obtain rfl := q14.symm
      obtain rfl := q15.symm
      obtain rfl := q5.symm
      clear q11 q12 q13 q14 q15 q5
      replace hb := hb.trans (bk.mono hb.size)
      clear bk t0 hi0 hl0 hi1 hj1 er
      go_wp2_with fail
      go_ret3
      exact ⟨by rw [HB.out.1, HB.out.2.1, HB.out.2.2]; rfl, hb⟩
  obtain ⟨F, hF⟩ : ∃ F, rdB s.data.toList 0 = 128 + F := ⟨rdB s.data.toList 0 - 128, by omega⟩
  have hF1 : 1 ≤ F := by omega
  have hF2 : F ≤ 2 := by omega
  have hA : slA s.data.toList = F + 1 := by rw [slA, if_pos (by omega)]; omega
  have hN : slN s.data.toList = slAcc s.data.toList F := by rw [slN, if_neg c1, hF, Nat.add_sub_cancel_left]
  have HSH := Lib.hid (fun hh => sl_short s.data.toList F hF hF1 hF2 hh)
  have hsub : (rdB s.data.toList 0 : Int) - 128 = (F : Int) := by omega
  have d2 : ((F : Int) == 0) = false := by simp; omega
  have d3 : decide ((2 : Int) < (F : Int)) = false := by simp; omega
  rw [hsub] at ws
  have ers : (s.extract 1 s.size).size = s.size - 1 := suf_size s 1
  by_cases c4 : s.size < F + 1
  · have HB := Lib.hid (sl_bad s 10 (by rw [slE, if_neg n0, if_neg c1, if_neg c2, if_pos (by omega)]) (by decide))
    have d4 : (s.extract 1 s.size).size < F := by omega
    obtain ⟨b0, eb⟩ : ∃ b0, rdB s.data.toList 0 = b0 := ⟨_, rfl⟩
    rw [eb] at t0 wb
    have EB := Lib.hid eb
    clear eb
    obtain ⟨r, erx⟩ : ∃ r, s.extract 1 s.size = r := ⟨_, rfl⟩
    have ER := Lib.hid erx
    have er : s.extract 1 s.size = r := erx
    clear erx
    rw [EB.out] at d1 hsub
    rw [ER.out] at d4
    clear hl hs n0 c0 c1 c2 h0 hF hA hN HSH ers hF1 hF2 c4
    go_enter Try.func48, Try.ntmps48
    go_wp2_with fail
    refine wp_region_told 6 55 [(Told.val (.string s), [0]),
      (Told.val (.int .u8 (b0 : Int)), [11]),
      (Told.val (.int .i64 (b0 : Int)), [12]),
      (Told.val (.string s), [0]),
      (Told.val (.string r), [14]),
      (Told.val (.int .i64 (b0 : Int)), [13])]
      (by kernel_rfl) (by kernel_rfl) rfl ?_ ?_
    · simp only [List.take_succ_cons, List.take_zero, toldObl, and_true]
      refine And.intro ?_ (And.intro ?_ (And.intro ?_ (And.intro ?_ (And.intro ?_ (?_)))))
      · intro a w hb h
        have e0 : a.tmps.getD 0 undef = .string s := h 0 (by simp)
        simp only [Array.getD_eq_getD_getElem?] at e0
        refine told_q ?_
        simp [go_sem, e0, sQuiet]
      · intro a w hb h
        have e0 : a.tmps.getD 11 undef = .string s := h 11 (by simp)
        simp only [Array.getD_eq_getD_getElem?] at e0
        refine told_q ?_
        simp [go_sem, e0, sQuiet, hi0, hl0, t0]
      · intro a w hb h
        have e0 : a.tmps.getD 12 undef = .int .u8 (b0 : Int) := h 12 (by simp)
        simp only [Array.getD_eq_getD_getElem?] at e0
        refine told_q ?_
        simp [go_sem, e0, sQuiet, wb]
      · intro a w hb h
        have e0 : a.tmps.getD 0 undef = .string s := h 0 (by simp)
        simp only [Array.getD_eq_getD_getElem?] at e0
        refine told_q ?_
        simp [go_sem, e0, sQuiet]
      · intro a w hb h
        have e0 : a.tmps.getD 14 undef = .string s := h 14 (by simp)
        simp only [Array.getD_eq_getD_getElem?] at e0
        refine told_q ?_
        simp [go_sem, e0, sQuiet, hi1, hj1, er]
      · intro a w hb h
        have e0 : a.tmps.getD 13 undef = .int .i64 (b0 : Int) := h 13 (by simp)
        simp only [Array.getD_eq_getD_getElem?] at e0
        refine told_q ?_
        simp [go_sem, e0, sQuiet]
    simp only [List.take_succ_cons, List.take_zero, List.drop_succ_cons, List.drop_zero, toldEnd, Act.put, List.setIfInBounds_toArray, List.set_cons_succ, List.set_cons_zero]
    rintro X bk v11 q11 v12 q12 v13 q13 v14 q14 v15 q15 v5 q5
    obtain rfl := q11.symm
    obtain rfl := q12.symm
    obtain rfl := q13.symm
    obtain rfl := q14.symm
    obtain rfl := q15.symm
    obtain rfl := q5.symm
    clear q11 q12 q13 q14 q15 q5
    replace hb := hb.trans (bk.mono hb.size)
    clear bk t0 hi0 hl0 hi1 hj1 er
    go_wp2_with fail
    go_ret3
    exact ⟨by rw [HB.out.1, HB.out.2.1, HB.out.2.2]; rfl, hb⟩
  have d4 : ¬ (s.extract 1 s.size).size < F := by omega
  have f4 : 1 + F ≤ s.size := by omega
  have f2 : (1 : Int) + (F : Int) ≤ (s.size : Int) := by omega
  have f3 : (0 : Int) ≤ (1 : Int) + (F : Int) := by omega
  have f1 : ((1 : Int) + (F : Int)).toNat = 1 + F := by omega
  have hrF : F ≤ (s.extract 1 s.size).size := by omega
  have HR := Lib.hid (fun k (h : k < (s.extract 1 s.size).size) => rd_at (s.extract 1 s.size) k h)
  have HS : Hid (∀ k, rdB (s.extract 1 s.size).data.toList k = rdB s.data.toList (k + 1)) := Lib.hid (fun k => by rw [suf_at, Nat.add_comm])
  have HQ : Hid (∀ k, slAcc s.data.toList (k + 1) = slAcc s.data.toList k * 256 + rdB s.data.toList (k + 1)) := Lib.hid (fun k => rfl)
  have HQL := Lib.hid (fun k => slAcc_lt s.data.toList k)
  have HBL := Lib.hid (fun k => rdB_lt s.data.toList k)
  have HEX : Hid (slE s.data.toList = if (rdB s.data.toList 0 = 129 ∧ slN s.data.toList < 128) ∨ (rdB s.data.toList 0 = 130 ∧ slN s.data.toList < 256) then 11 else 0) := Lib.hid (by rw [slE, if_neg n0, if_neg c1, if_neg c2, if_neg (by omega)])
  have HEQ : Hid (((lenB (slAcc s.data.toList F)).toList == (s.extract 0 (1 + F)).toList) = decide (¬ ((rdB s.data.toList 0 = 129 ∧ slN s.data.toList < 128) ∨ (rdB s.data.toList 0 = 130 ∧ slN s.data.toList < 256)))) := Lib.hid (by
    rw [Lib.toList_data, Lib.toList_data, pre_list, Bool.eq_iff_iff, beq_iff_eq, decide_eq_true_eq]
    exact HSH.out (by omega))
  have HG := Lib.hid (fun h => sl_good s h)
  have HBD := Lib.hid (fun h => sl_bad s 11 h (by decide))
  rw [hN, hA] at HG
  have CL := Lib.hid (fun W => lengthOf_any (slAcc s.data.toList F) W (Nat.lt_of_lt_of_le (slAcc_lt _ F) (Nat.pow_le_pow_right (by decide) hF2)))
  have w1F : IntKind.i64.wrap (1 + (F : Int)) = 1 + (F : Int) := by rw [IntKind.wrap_i64]; omega
  have HRR : Hid ((s.extract 1 s.size).extract F (s.extract 1 s.size).size = s.extract (F + 1) s.size) := Lib.hid (by rw [suf_suf, Nat.add_comm])
  obtain ⟨b0, eb⟩ : ∃ b0, rdB s.data.toList 0 = b0 := ⟨_, rfl⟩
  rw [eb] at t0 wb
  have EB := Lib.hid eb
  clear eb
  obtain ⟨r, erx⟩ : ∃ r, s.extract 1 s.size = r := ⟨_, rfl⟩
  have ER := Lib.hid erx
  have er : s.extract 1 s.size = r := erx
  clear erx
  rw [EB.out] at d1 hsub
  rw [ER.out] at d4 HR HS hrF HRR
  clear hl hs n0 c0 c1 c2 h0 hF hA hN HSH ers c4 
  go_enter Try.func48, Try.ntmps48
  go_wp2_with fail
  refine wp_region_told 6 55 [(Told.val (.string s), [0]),
    (Told.val (.int .u8 (b0 : Int)), [11]),
    (Told.val (.int .i64 (b0 : Int)), [12]),
    (Told.val (.string s), [0]),
    (Told.val (.string r), [14]),
    (Told.val (.int .i64 (b0 : Int)), [13])]
    (by kernel_rfl) (by kernel_rfl) rfl ?_ ?_
  · simp only [List.take_succ_cons, List.take_zero, toldObl, and_true]
    refine And.intro ?_ (And.intro ?_ (And.intro ?_ (And.intro ?_ (And.intro ?_ (?_)))))
    · intro a w hb h
      have e0 : a.tmps.getD 0 undef = .string s := h 0 (by simp)
      simp only [Array.getD_eq_getD_getElem?] at e0
      refine told_q ?_
      simp [go_sem, e0, sQuiet]
    · intro a w hb h
      have e0 : a.tmps.getD 11 undef = .string s := h 11 (by simp)
      simp only [Array.getD_eq_getD_getElem?] at e0
      refine told_q ?_
      simp [go_sem, e0, sQuiet, hi0, hl0, t0]
    · intro a w hb h
      have e0 : a.tmps.getD 12 undef = .int .u8 (b0 : Int) := h 12 (by simp)
      simp only [Array.getD_eq_getD_getElem?] at e0
      refine told_q ?_
      simp [go_sem, e0, sQuiet, wb]
    · intro a w hb h
      have e0 : a.tmps.getD 0 undef = .string s := h 0 (by simp)
      simp only [Array.getD_eq_getD_getElem?] at e0
      refine told_q ?_
      simp [go_sem, e0, sQuiet]
    · intro a w hb h
      have e0 : a.tmps.getD 14 undef = .string s := h 14 (by simp)
      simp only [Array.getD_eq_getD_getElem?] at e0
      refine told_q ?_
      simp [go_sem, e0, sQuiet, hi1, hj1, er]
    · intro a w hb h
      have e0 : a.tmps.getD 13 undef = .int .i64 (b0 : Int) := h 13 (by simp)
      simp only [Array.getD_eq_getD_getElem?] at e0
      refine told_q ?_
      simp [go_sem, e0, sQuiet]
  simp only [List.take_succ_cons, List.take_zero, List.drop_succ_cons, List.drop_zero, toldEnd, Act.put, List.setIfInBounds_toArray, List.set_cons_succ, List.set_cons_zero]
  rintro X bk v11 q11 v12 q12 v13 q13 v14 q14 v15 q15 v5 q5
  obtain rfl := q11.symm
  obtain rfl := q12.symm
  obtain rfl := q13.symm
  obtain rfl := q14.symm
  obtain rfl := q15.symm
  obtain rfl := q5.symm
  clear q11 q12 q13 q14 q15 q5
  replace hb := hb.trans (bk.mono hb.size)
  clear bk t0 hi0 hl0 hi1 hj1 er
  go_wp2_with fail
  have hB0 := hb.size
  generalize hBB : w.heap.size = B at *
  have HBB := Lib.hid hBB
  clear hBB
  clear d1 hsub ws d4 wb d2 d3 q0
  go_loopw [5, 33] (fun nv iv wr => ∃ k : Nat, k ≤ F ∧ nv = .int .i64 ((slAcc s.data.toList k : Nat) : Int) ∧ iv = .int .i64 (k : Int) ∧ Below B w wr ∧ B ≤ wr.heap.size) (fun _ iv _ => F - (intOf iv).toNat)
  case atStart => exact ⟨0, by omega, rfl, rfl, hb, hB0⟩
  case round =>
    clear hb hB0
    obtain ⟨k, hk, rfl, rfl, hb, hB⟩ := hrel
    by_cases hlt : k < F
    · have hd : decide ((k : Int) < (F : Int)) = true := by simp; omega
      have hik : (k : Int) < (r.size : Int) := by omega
      have tk := HR.out k (by omega)
      rw [HS.out k] at tk
      have hbk := HBL.out (k + 1)
      have hq := HQL.out k
      have hq1 : slAcc s.data.toList k < 256 := Nat.lt_of_lt_of_le hq (Nat.pow_le_pow_right (n := 256) (i := k) (j := 1) (by decide) (by omega))
      have ho := or_low8 (slAcc s.data.toList k : Int) (rdB s.data.toList (k + 1)) hbk (by omega) (by omega)
      have hy : (slAcc s.data.toList k : Int) * 256 + (rdB s.data.toList (k + 1) : Int) = ((slAcc s.data.toList (k + 1) : Nat) : Int) := by rw [HQ.out k]; omega
      have ws : IntKind.i64.wrap ((slAcc s.data.toList k : Int) * 256) = (slAcc s.data.toList k : Int) * 256 := by rw [IntKind.wrap_i64]; omega
      obtain ⟨y, ey⟩ : ∃ y, slAcc s.data.toList (k + 1) = y := ⟨_, rfl⟩
      rw [ey] at hy
      have HY := Lib.hid hy
      have HE := Lib.hid ey
      clear hy hq ey
      generalize slAcc s.data.toList k = m at *
      generalize rdB s.data.toList (k + 1) = bk at *
      have wk : IntKind.i64.wrap (bk : Int) = (bk : Int) := by rw [IntKind.wrap_i64]; omega
      go_wp2_with fail
      go_roundw
      case rel => exact ⟨k + 1, by omega, by rw [HE.out, ← HY.out], by go_num, hb, hB⟩
      case measure => simp [intOf]; omega
    · have hd : decide ((k : Int) < (F : Int)) = false := by simp; omega
      obtain rfl : k = F := by omega
      clear HR HS HQ HQL HBL hF1 hF2
      have g1 := hrF
      have g2 : (k : Int) ≤ (r.size : Int) := by omega
      have g3 : (0 : Int) ≤ (k : Int) := by omega
      have HCL : Hid (lenB (slAcc s.data.toList k) = lenB (slAcc s.data.toList k)) := Lib.hid rfl
      generalize lenB (slAcc s.data.toList k) = lb at *
      generalize slAcc s.data.toList k = q at *
      obtain ⟨pf, epf⟩ : ∃ pf, s.extract 0 (1 + k) = pf := ⟨_, rfl⟩
      rw [epf] at HEQ
      obtain ⟨rr, err⟩ : ∃ rr, r.extract k r.size = rr := ⟨_, rfl⟩
      rw [err] at HRR
      by_cases hc : (rdB s.data.toList 0 = 129 ∧ slN s.data.toList < 128) ∨ (rdB s.data.toList 0 = 130 ∧ slN s.data.toList < 256)
      · have hq := HEQ.out
        rw [decide_eq_false (fun h => h hc)] at hq
        have HB := Lib.hid (HBD.out (HEX.out.trans (if_pos hc)))
        clear HEQ HBD HEX HG HCL hc HRR
        go_wp2_with fail
        refine wp_region_told 6 55 [(Told.val (.int .i64 (q : Int)), [5]),
          (Told.val (.string lb), [44]),
          (Told.val (.string s), [0]),
          (Told.val (.int .i64 (k : Int)), [7]),
          (Told.val (.int .i64 (1 + (k : Int))), [47]),
          (Told.val (.string pf), [46, 48])]
          (by kernel_rfl) (by kernel_rfl) rfl ?_ ?_
        · simp only [List.take_succ_cons, List.take_zero, toldObl, and_true]
          refine And.intro ?_ (And.intro ?_ (And.intro ?_ (And.intro ?_ (And.intro ?_ (?_)))))
          · intro a w hb h
            have e0 : a.tmps.getD 5 undef = .int .i64 (q : Int) := h 5 (by simp)
            simp only [Array.getD_eq_getD_getElem?] at e0
            refine told_q ?_
            simp [go_sem, e0, sQuiet]
          · intro a w hb h
            have e0 : a.tmps.getD 44 undef = .int .i64 (q : Int) := h 44 (by simp)
            simp only [Array.getD_eq_getD_getElem?] at e0
            refine told_q ?_
            simp [go_sem, e0, sQuiet]
            exact CL.out _
          · intro a w hb h
            have e0 : a.tmps.getD 0 undef = .string s := h 0 (by simp)
            simp only [Array.getD_eq_getD_getElem?] at e0
            refine told_q ?_
            simp [go_sem, e0, sQuiet]
          · intro a w hb h
            have e0 : a.tmps.getD 7 undef = .int .i64 (k : Int) := h 7 (by simp)
            simp only [Array.getD_eq_getD_getElem?] at e0
            refine told_q ?_
            simp [go_sem, e0, sQuiet]
          · intro a w hb h
            have e0 : a.tmps.getD 47 undef = .int .i64 (k : Int) := h 47 (by simp)
            simp only [Array.getD_eq_getD_getElem?] at e0
            refine told_q ?_
            simp [go_sem, e0, sQuiet, w1F]
          · intro a w hb h
            have e0 : a.tmps.getD 46 undef = .string s := h 46 (by simp)
            have e1 : a.tmps.getD 48 undef = .int .i64 (1 + (k : Int)) := h 48 (by simp)
            simp only [Array.getD_eq_getD_getElem?] at e0 e1
            refine told_q ?_
            simp [go_sem, e0, e1, sQuiet, f1, f2, f3, f4, epf]
        simp only [List.take_succ_cons, List.take_zero, List.drop_succ_cons, List.drop_zero, toldEnd, Act.put, List.setIfInBounds_toArray, List.set_cons_succ, List.set_cons_zero]
        rintro X bk v44 q44 v45 q45 v46 q46 v47 q47 v48 q48 v49 q49
        obtain rfl := q44.symm
        obtain rfl := q45.symm
        obtain rfl := q46.symm
        obtain rfl := q47.symm
        obtain rfl := q48.symm
        obtain rfl := q49.symm
        clear q44 q45 q46 q47 q48 q49
        replace hb := hb.trans (bk.mono hB)
        clear bk
        go_wp2_with fail
        go_ret3
        exact ⟨by rw [HB.out.1, HB.out.2.1, HB.out.2.2]; rfl, by rw [HBB.out]; exact hb⟩
      · have hq := HEQ.out
        rw [decide_eq_true hc] at hq
        have HB := Lib.hid (HG.out (HEX.out.trans (if_neg hc)))
        have HRO := Lib.hid HRR.out
        clear HEQ HBD HEX HG HCL hc HRR
        go_wp2_with fail
        refine wp_region_told 6 55 [(Told.val (.int .i64 (q : Int)), [5]),
          (Told.val (.string lb), [44]),
          (Told.val (.string s), [0]),
          (Told.val (.int .i64 (k : Int)), [7]),
          (Told.val (.int .i64 (1 + (k : Int))), [47]),
          (Told.val (.string pf), [46, 48])]
          (by kernel_rfl) (by kernel_rfl) rfl ?_ ?_
        · simp only [List.take_succ_cons, List.take_zero, toldObl, and_true]
          refine And.intro ?_ (And.intro ?_ (And.intro ?_ (And.intro ?_ (And.intro ?_ (?_)))))
          · intro a w hb h
            have e0 : a.tmps.getD 5 undef = .int .i64 (q : Int) := h 5 (by simp)
            simp only [Array.getD_eq_getD_getElem?] at e0
            refine told_q ?_
            simp [go_sem, e0, sQuiet]
          · intro a w hb h
            have e0 : a.tmps.getD 44 undef = .int .i64 (q : Int) := h 44 (by simp)
            simp only [Array.getD_eq_getD_getElem?] at e0
            refine told_q ?_
            simp [go_sem, e0, sQuiet]
            exact CL.out _
          · intro a w hb h
            have e0 : a.tmps.getD 0 undef = .string s := h 0 (by simp)
            simp only [Array.getD_eq_getD_getElem?] at e0
            refine told_q ?_
            simp [go_sem, e0, sQuiet]
          · intro a w hb h
            have e0 : a.tmps.getD 7 undef = .int .i64 (k : Int) := h 7 (by simp)
            simp only [Array.getD_eq_getD_getElem?] at e0
            refine told_q ?_
            simp [go_sem, e0, sQuiet]
          · intro a w hb h
            have e0 : a.tmps.getD 47 undef = .int .i64 (k : Int) := h 47 (by simp)
            simp only [Array.getD_eq_getD_getElem?] at e0
            refine told_q ?_
            simp [go_sem, e0, sQuiet, w1F]
          · intro a w hb h
            have e0 : a.tmps.getD 46 undef = .string s := h 46 (by simp)
            have e1 : a.tmps.getD 48 undef = .int .i64 (1 + (k : Int)) := h 48 (by simp)
            simp only [Array.getD_eq_getD_getElem?] at e0 e1
            refine told_q ?_
            simp [go_sem, e0, e1, sQuiet, f1, f2, f3, f4, epf]
        simp only [List.take_succ_cons, List.take_zero, List.drop_succ_cons, List.drop_zero, toldEnd, Act.put, List.setIfInBounds_toArray, List.set_cons_succ, List.set_cons_zero]
        rintro X bk v44 q44 v45 q45 v46 q46 v47 q47 v48 q48 v49 q49
        obtain rfl := q44.symm
        obtain rfl := q45.symm
        obtain rfl := q46.symm
        obtain rfl := q47.symm
        obtain rfl := q48.symm
        obtain rfl := q49.symm
        clear q44 q45 q46 q47 q48 q49
        replace hb := hb.trans (bk.mono hB)
        replace hB := Nat.le_trans hB bk.size
        clear bk
        go_wp2_with fail
        refine wp_region_told 6 55 [(Told.val (.int .i64 (q : Int)), [5]),
          (Told.val (.string r), [6]),
          (Told.val (.int .i64 (k : Int)), [7]),
          (Told.val (.string rr), [52, 53]),
          (Told.val (.int .i64 (q : Int)), [51]),
          (Told.val (.string rr), [54])]
          (by kernel_rfl) (by kernel_rfl) rfl ?_ ?_
        · simp only [List.take_succ_cons, List.take_zero, toldObl, and_true]
          refine And.intro ?_ (And.intro ?_ (And.intro ?_ (And.intro ?_ (And.intro ?_ (?_)))))
          · intro a w hb h
            have e0 : a.tmps.getD 5 undef = .int .i64 (q : Int) := h 5 (by simp)
            simp only [Array.getD_eq_getD_getElem?] at e0
            refine told_q ?_
            simp [go_sem, e0, sQuiet]
          · intro a w hb h
            have e0 : a.tmps.getD 6 undef = .string r := h 6 (by simp)
            simp only [Array.getD_eq_getD_getElem?] at e0
            refine told_q ?_
            simp [go_sem, e0, sQuiet]
          · intro a w hb h
            have e0 : a.tmps.getD 7 undef = .int .i64 (k : Int) := h 7 (by simp)
            simp only [Array.getD_eq_getD_getElem?] at e0
            refine told_q ?_
            simp [go_sem, e0, sQuiet]
          · intro a w hb h
            have e0 : a.tmps.getD 52 undef = .string r := h 52 (by simp)
            have e1 : a.tmps.getD 53 undef = .int .i64 (k : Int) := h 53 (by simp)
            simp only [Array.getD_eq_getD_getElem?] at e0 e1
            refine told_q ?_
            simp [go_sem, e0, e1, sQuiet, g1, g2, g3, err]
          · intro a w hb h
            have e0 : a.tmps.getD 51 undef = .int .i64 (q : Int) := h 51 (by simp)
            simp only [Array.getD_eq_getD_getElem?] at e0
            refine told_q ?_
            simp [go_sem, e0, sQuiet]
          · intro a w hb h
            have e0 : a.tmps.getD 54 undef = .string rr := h 54 (by simp)
            simp only [Array.getD_eq_getD_getElem?] at e0
            refine told_q ?_
            simp [go_sem, e0, sQuiet]
        simp only [List.take_succ_cons, List.take_zero, List.drop_succ_cons, List.drop_zero, toldEnd, Act.put, List.setIfInBounds_toArray, List.set_cons_succ, List.set_cons_zero]
        rintro X bk v51 q51 v52 q52 v53 q53 v54 q54 v2 q2 v3 q3
        obtain rfl := q51.symm
        obtain rfl := q52.symm
        obtain rfl := q53.symm
        obtain rfl := q54.symm
        obtain rfl := q2.symm
        obtain rfl := q3.symm
        clear q51 q52 q53 q54 q2 q3
        replace hb := hb.trans (bk.mono hB)
        clear bk
        go_wp2_with fail
        go_ret3
        exact ⟨by rw [HB.out.1, HB.out.2.1, HB.out.2.2, ← HRO.out]; rfl, by rw [HBB.out]; exact hb⟩
end Go.Proofs.Ytimokmhgpigliaa
