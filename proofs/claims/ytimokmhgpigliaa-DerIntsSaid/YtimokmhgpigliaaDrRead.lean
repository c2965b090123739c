/- Whether a number is a tag; the first thing of bytes (package cressetref13). -/
import Derived.Test.YtimokmhgpigliaaDrSpec
namespace Go.Proofs.Ytimokmhgpigliaa
open Go.RowKit Go.Sort
set_option maxRecDepth 100000
set_option linter.unusedSimpArgs false
set_option linter.unusedVariables false

set_option maxHeartbeats 1000000 in
theorem risTag_any (n : Int) (w : World) (h0 : -9223372036854775808 ≤ n) (h1 : n ≤ 9223372036854775807) :
    Calls Try.prog 32 #[.int .i64 n] w fun e w' => e = .returned (.bool (isT n)) ∧ Below w.heap.size w w' := by
  have hv : isT n = (decide (0 ≤ n) && decide (n ≤ 255) && (n % 32 != 31)) := rfl
  by_cases c1 : 0 ≤ n
  · have d1 : decide (0 ≤ n) = true := decide_eq_true c1
    by_cases c2 : n ≤ 255
    · have d2 : decide (n ≤ 255) = true := decide_eq_true c2
      rw [d1, d2, Bool.true_and, Bool.true_and] at hv
      have hr : n.tmod 32 = n % 32 := Int.tmod_eq_emod_of_nonneg c1
      cases c3 : (n % 32 != 31) with
      | true =>
        rw [c3] at hv
        have HV := Lib.hid hv
        clear hv
        go_enter Try.func32, Try.ntmps32
        go_wp2_with fail
        go_ret
        exact ⟨by rw [HV.out]; rfl, Below.refl _ _⟩
      | false =>
        rw [c3] at hv
        have HV := Lib.hid hv
        clear hv
        go_enter Try.func32, Try.ntmps32
        go_wp2_with fail
        go_ret
        exact ⟨by rw [HV.out]; rfl, Below.refl _ _⟩
    · have d2 : decide (n ≤ 255) = false := decide_eq_false c2
      rw [d1, d2] at hv
      have HV := Lib.hid hv
      clear hv
      go_enter Try.func32, Try.ntmps32
      go_wp2_with fail
      go_ret
      exact ⟨by rw [HV.out]; rfl, Below.refl _ _⟩
  · have d1 : decide (0 ≤ n) = false := decide_eq_false c1
    rw [d1] at hv
    have HV := Lib.hid hv
    clear hv
    go_enter Try.func32, Try.ntmps32
    go_wp2_with fail
    go_ret
    exact ⟨by rw [HV.out]; rfl, Below.refl _ _⟩
set_option maxHeartbeats 16000000 in
theorem rRead_any (s : ByteArray) (w : World) (hs : s.size ≤ 1000000000) :
    Calls Try.prog 18 #[.string s] w fun e w' => e = .returned (.tuple #[.int .i64 (rdTag s), .string (rdBody s), .string (rdRest s), .int .i64 (rdErr s)]) ∧ Below w.heap.size w w' := by
  have hl : s.data.toList.length = s.size := (Lib.size_eq s).symm
  have hb := Below.refl w.heap.size w
  by_cases c0 : s.size = 0
  · have q0 : (s.toList == []) = true := by rw [Lib.toList_data]; have : s.data.toList = [] := List.length_eq_zero_iff.1 (by omega); rw [this]; rfl
    have HB := Lib.hid (rd_bad s 10 (by rw [rdE, if_pos (by omega)]) (by decide))
    clear hl hs
    go_enter Try.func18, Try.ntmps18
    go_wp2_with fail
    (try simp only [Exit.inBlock, Exit.then])
    exact bodyPost_ret (results_tmp4 rfl _ _ _) rfl ⟨by rw [HB.out.1, HB.out.2.1, HB.out.2.2.1, HB.out.2.2.2]; rfl, hb⟩
  have q0 : (s.toList == []) = false := by rw [Lib.toList_data]; cases h : s.data.toList with | nil => rw [h] at hl; exact absurd hl.symm c0 | cons a r => rfl
  have hl0 : 0 < s.size := by omega
  have hi0 : (0 : Int) < (s.size : Int) := by omega
  have t0 := rd_at s 0 hl0
  have h0 := rdB_lt s.data.toList 0
  have CT := Lib.hid (fun W => risTag_any (rdB s.data.toList 0 : Int) W (by omega) (by omega))
  rw [isT_byte _ h0] at CT
  have n0 : ¬ s.data.toList.length = 0 := by omega
  by_cases c1 : rdB s.data.toList 0 % 32 = 31
  · rw [decide_eq_true c1, Bool.not_true] at CT
    have HB := Lib.hid (rd_bad s 11 (by rw [rdE, if_neg n0, if_pos c1]) (by decide))
    generalize rdB s.data.toList 0 = b0 at *
    clear hl hs n0 c1 c0
    go_enter Try.func18, Try.ntmps18
    go_wp2_with fail
    refine (CT.out _).mono ?_
    rintro e W1 ⟨rfl, bk⟩
    replace hb := hb.trans (bk.mono hb.size)
    clear bk CT
    go_wp2_with fail
    (try simp only [Exit.inBlock, Exit.then])
    exact bodyPost_ret (results_tmp4 rfl _ _ _) rfl ⟨by rw [HB.out.1, HB.out.2.1, HB.out.2.2.1, HB.out.2.2.2]; rfl, hb⟩
  rw [decide_eq_false c1, Bool.not_false] at CT
  by_cases c2 : s.size < 2
  · have d2 : decide ((s.size : Int) < 2) = true := by simp; omega
    have HB := Lib.hid (rd_bad s 10 (by rw [rdE, if_neg n0, if_neg c1, if_pos (by omega)]) (by decide))
    generalize rdB s.data.toList 0 = b0 at *
    clear hl hs n0 c1 c0 c2
    go_enter Try.func18, Try.ntmps18
    go_wp2_with fail
    refine (CT.out _).mono ?_
    rintro e W1 ⟨rfl, bk⟩
    replace hb := hb.trans (bk.mono hb.size)
    clear bk CT
    go_wp2_with fail
    (try simp only [Exit.inBlock, Exit.then])
    exact bodyPost_ret (results_tmp4 rfl _ _ _) rfl ⟨by rw [HB.out.1, HB.out.2.1, HB.out.2.2.1, HB.out.2.2.2]; rfl, hb⟩
  have n2 : ¬ s.data.toList.length < 2 := by omega
  have d2 : decide ((s.size : Int) < 2) = false := by simp; omega
  have hl1 : 1 < s.size := by omega
  have hi1 : (1 : Int) < (s.size : Int) := by omega
  have t1 := rd_at s 1 hl1
  have h1 := rdB_lt s.data.toList 1
  by_cases c3 : rdB s.data.toList 1 = 128
  · have d3 : ((rdB s.data.toList 1 : Int) == 128) = true := by simp; omega
    have HB := Lib.hid (rd_bad s 11 (by rw [rdE, if_neg n0, if_neg c1, if_neg n2, if_pos (.inl c3)]) (by decide))
    generalize rdB s.data.toList 0 = b0 at *
    generalize rdB s.data.toList 1 = b1 at *
    clear hl hs n0 n2 c0 c1 c2 c3
    go_enter Try.func18, Try.ntmps18
    go_wp2_with fail
    refine (CT.out _).mono ?_
    rintro e W1 ⟨rfl, bk⟩
    replace hb := hb.trans (bk.mono hb.size)
    clear bk CT
    go_wp2_with fail
    (try simp only [Exit.inBlock, Exit.then])
    exact bodyPost_ret (results_tmp4 rfl _ _ _) rfl ⟨by rw [HB.out.1, HB.out.2.1, HB.out.2.2.1, HB.out.2.2.2]; rfl, hb⟩
  have d3 : ((rdB s.data.toList 1 : Int) == 128) = false := by simp; omega
  by_cases c4 : 130 < rdB s.data.toList 1
  · have d4 : decide (130 < (rdB s.data.toList 1 : Int)) = true := by simp; omega
    have HB := Lib.hid (rd_bad s 11 (by rw [rdE, if_neg n0, if_neg c1, if_neg n2, if_pos (.inr c4)]) (by decide))
    generalize rdB s.data.toList 0 = b0 at *
    generalize rdB s.data.toList 1 = b1 at *
    clear hl hs n0 n2 c0 c1 c2 c3 c4
    go_enter Try.func18, Try.ntmps18
    go_wp2_with fail
    refine (CT.out _).mono ?_
    rintro e W1 ⟨rfl, bk⟩
    replace hb := hb.trans (bk.mono hb.size)
    clear bk CT
    go_wp2_with fail
    (try simp only [Exit.inBlock, Exit.then])
    exact bodyPost_ret (results_tmp4 rfl _ _ _) rfl ⟨by rw [HB.out.1, HB.out.2.1, HB.out.2.2.1, HB.out.2.2.2]; rfl, hb⟩
  have d4 : decide (130 < (rdB s.data.toList 1 : Int)) = false := by simp; omega
  have n3 : ¬ (rdB s.data.toList 1 = 128 ∨ 130 < rdB s.data.toList 1) := by omega
  by_cases c5 : rdB s.data.toList 1 < 128
  · have d5 : decide (128 < (rdB s.data.toList 1 : Int)) = false := by simp; omega
    have hA : rdA s.data.toList = 2 := if_neg (by omega)
    have hN : rdN s.data.toList = rdB s.data.toList 1 := by rw [rdN, if_neg (by omega), if_neg (by omega)]
    by_cases c6 : s.size < 2 + rdB s.data.toList 1
    · have d6 : decide ((s.size : Int) < 2 + (rdB s.data.toList 1 : Int)) = true := by simp; omega
      have HB := Lib.hid (rd_bad s 10 (by rw [rdE, if_neg n0, if_neg c1, if_neg n2, if_neg n3, if_neg (by omega), if_neg (by omega), if_pos (by omega)]) (by decide))
      generalize rdB s.data.toList 0 = b0 at *
      generalize rdB s.data.toList 1 = b1 at *
      clear hl hs n0 n2 n3 c0 c1 c2 c3 c4 c5 c6 hA hN
      go_enter Try.func18, Try.ntmps18
      go_wp2_with fail
      refine (CT.out _).mono ?_
      rintro e W1 ⟨rfl, bk⟩
      replace hb := hb.trans (bk.mono hb.size)
      clear bk CT
      go_wp2_with fail
      (try simp only [Exit.inBlock, Exit.then])
      exact bodyPost_ret (results_tmp4 rfl _ _ _) rfl ⟨by rw [HB.out.1, HB.out.2.1, HB.out.2.2.1, HB.out.2.2.2]; rfl, hb⟩
    · have d6 : decide ((s.size : Int) < 2 + (rdB s.data.toList 1 : Int)) = false := by simp; omega
      have HB := Lib.hid (rd_good s (by rw [rdE, if_neg n0, if_neg c1, if_neg n2, if_neg n3, if_neg (by omega), if_neg (by omega), if_neg (by omega)]))
      rw [hA, hN] at HB
      have w0 : IntKind.i64.wrap (rdB s.data.toList 0 : Int) = (rdB s.data.toList 0 : Int) := by rw [IntKind.wrap_i64]; omega
      have wn : IntKind.i64.wrap (2 + (rdB s.data.toList 1 : Int)) = 2 + (rdB s.data.toList 1 : Int) := by rw [IntKind.wrap_i64]; omega
      generalize rdB s.data.toList 0 = b0 at *
      generalize rdB s.data.toList 1 = b1 at *
      have f1 : ((2 : Int) + (b1 : Int)).toNat = 2 + b1 := by omega
      have f2 : (2 : Int) + (b1 : Int) ≤ (s.size : Int) := by omega
      have f3 : (2 : Int) ≤ (2 : Int) + (b1 : Int) := by omega
      have f4 : (0 : Int) ≤ (2 : Int) + (b1 : Int) := by omega
      clear hl hs n0 n2 n3 c0 c1 c2 c3 c4 c5 c6 hA hN
      go_enter Try.func18, Try.ntmps18
      go_wp2_with fail
      refine (CT.out _).mono ?_
      rintro e W1 ⟨rfl, bk⟩
      replace hb := hb.trans (bk.mono hb.size)
      clear bk CT
      go_wp2_with fail
      refine wp_region_fresh 17 84 [.val (.string s) [(0, .string s)], .val (.int .u8 (b0 : Int)) [(70, .string s)], .val (.int .i64 (b0 : Int)) [(71, .int .u8 (b0 : Int))], .val (.string s) [(0, .string s)], .val (.int .i64 2) [(7, .int .i64 2)], .val (.int .i64 2) [(7, .int .i64 2)], .val (.int .i64 ((b1 : Int))) [(6, .int .i64 ((b1 : Int)))], .val (.int .i64 (2 + (b1 : Int))) [(75, .int .i64 2), (76, .int .i64 ((b1 : Int)))], .val (.string (s.extract 2 (2 + b1))) [(73, .string s), (74, .int .i64 2), (77, .int .i64 (2 + (b1 : Int)))], .val (.string s) [(0, .string s)], .val (.int .i64 2) [(7, .int .i64 2)], .val (.int .i64 ((b1 : Int))) [(6, .int .i64 ((b1 : Int)))], .val (.int .i64 (2 + (b1 : Int))) [(80, .int .i64 2), (81, .int .i64 ((b1 : Int)))], .val (.string (s.extract (2 + b1) s.size)) [(79, .string s), (82, .int .i64 (2 + (b1 : Int)))], .val (.int .i64 (b0 : Int)) [(72, .int .i64 (b0 : Int))], .val (.string (s.extract 2 (2 + b1))) [(78, .string (s.extract 2 (2 + b1)))], .val (.string (s.extract (2 + b1) s.size)) [(83, .string (s.extract (2 + b1) s.size))]] (by kernel_rfl) (by kernel_rfl) rfl ?_ ?_ ?_
      · simp only [List.take_succ_cons, List.take_zero, headObl, specObl, HeadSpec.val, HeadSpec.fresh, and_true]
        refine ⟨?_, ?_, ?_, ?_, ?_, ?_, ?_, ?_, ?_, ?_, ?_, ?_, ?_, ?_, ?_, ?_, ?_⟩
        · intro act w hb h
          have e0 := h (0, .string s) (by simp)
          simp only [Array.getD_eq_getD_getElem?] at e0
          simp [go_sem, e0, sQuiet]
        · intro act w hb h
          have e0 := h (70, .string s) (by simp)
          simp only [Array.getD_eq_getD_getElem?] at e0
          simp [go_sem, e0, sQuiet, hi0, hl0, t0]
        · intro act w hb h
          have e0 := h (71, .int .u8 (b0 : Int)) (by simp)
          simp only [Array.getD_eq_getD_getElem?] at e0
          simp [go_sem, e0, sQuiet, w0]
        · intro act w hb h
          have e0 := h (0, .string s) (by simp)
          simp only [Array.getD_eq_getD_getElem?] at e0
          simp [go_sem, e0, sQuiet]
        · intro act w hb h
          have e0 := h (7, .int .i64 2) (by simp)
          simp only [Array.getD_eq_getD_getElem?] at e0
          simp [go_sem, e0, sQuiet]
        · intro act w hb h
          have e0 := h (7, .int .i64 2) (by simp)
          simp only [Array.getD_eq_getD_getElem?] at e0
          simp [go_sem, e0, sQuiet]
        · intro act w hb h
          have e0 := h (6, .int .i64 ((b1 : Int))) (by simp)
          simp only [Array.getD_eq_getD_getElem?] at e0
          simp [go_sem, e0, sQuiet]
        · intro act w hb h
          have e0 := h (75, .int .i64 2) (by simp)
          have e1 := h (76, .int .i64 ((b1 : Int))) (by simp)
          simp only [Array.getD_eq_getD_getElem?] at e0 e1
          simp [go_sem, e0, e1, sQuiet, wn]
        · intro act w hb h
          have e0 := h (73, .string s) (by simp)
          have e1 := h (74, .int .i64 2) (by simp)
          have e2 := h (77, .int .i64 (2 + (b1 : Int))) (by simp)
          simp only [Array.getD_eq_getD_getElem?] at e0 e1 e2
          simp [go_sem, e0, e1, e2, sQuiet, f1, f2, f3, f4]
        · intro act w hb h
          have e0 := h (0, .string s) (by simp)
          simp only [Array.getD_eq_getD_getElem?] at e0
          simp [go_sem, e0, sQuiet]
        · intro act w hb h
          have e0 := h (7, .int .i64 2) (by simp)
          simp only [Array.getD_eq_getD_getElem?] at e0
          simp [go_sem, e0, sQuiet]
        · intro act w hb h
          have e0 := h (6, .int .i64 ((b1 : Int))) (by simp)
          simp only [Array.getD_eq_getD_getElem?] at e0
          simp [go_sem, e0, sQuiet]
        · intro act w hb h
          have e0 := h (80, .int .i64 2) (by simp)
          have e1 := h (81, .int .i64 ((b1 : Int))) (by simp)
          simp only [Array.getD_eq_getD_getElem?] at e0 e1
          simp [go_sem, e0, e1, sQuiet, wn]
        · intro act w hb h
          have e0 := h (79, .string s) (by simp)
          have e1 := h (82, .int .i64 (2 + (b1 : Int))) (by simp)
          simp only [Array.getD_eq_getD_getElem?] at e0 e1
          simp [go_sem, e0, e1, sQuiet, f1, f2, f4]
        · intro act w hb h
          have e0 := h (72, .int .i64 (b0 : Int)) (by simp)
          simp only [Array.getD_eq_getD_getElem?] at e0
          simp [go_sem, e0, sQuiet]
        · intro act w hb h
          have e0 := h (78, .string (s.extract 2 (2 + b1))) (by simp)
          simp only [Array.getD_eq_getD_getElem?] at e0
          simp [go_sem, e0, sQuiet]
        · intro act w hb h
          have e0 := h (83, .string (s.extract (2 + b1) s.size)) (by simp)
          simp only [Array.getD_eq_getD_getElem?] at e0
          simp [go_sem, e0, sQuiet]
      · simp [headReads, headPut, specV, HeadSpec.val, HeadSpec.fresh, Act.put]
      · simp only [List.take_succ_cons, List.take_zero, List.drop_succ_cons, List.drop_zero, headEnd, HeadSpec.val, HeadSpec.fresh, Act.put, List.setIfInBounds_toArray, List.set_cons_succ, List.set_cons_zero]
        intro X hx _
        go_wp2_with fail
        (try simp only [Exit.inBlock, Exit.then])
        exact bodyPost_ret (results_tmp4 rfl _ _ _) rfl ⟨by rw [HB.out.1, HB.out.2.1, HB.out.2.2.1, HB.out.2.2.2]; rfl, hb.trans (hx.mono hb.size)⟩
  by_cases c7 : rdB s.data.toList 1 = 129
  · have hA : rdA s.data.toList = 3 := by rw [rdA, if_pos (by omega)]; omega
    replace t1 : ∀ k : 1 < s.size, ((s[1]'k).toNat : Int) = 129 := fun k => by rw [t1 k, c7]; rfl
    have hN : rdN s.data.toList = rdB s.data.toList 2 := by rw [rdN, if_pos c7]
    by_cases c6 : s.size < 3
    · have d6 : decide ((s.size : Int) < 3) = true := by simp; omega
      have HB := Lib.hid (rd_bad s 10 (by rw [rdE, if_neg n0, if_neg c1, if_neg n2, if_neg n3, if_pos (by omega)]) (by decide))
      generalize rdB s.data.toList 0 = b0 at *
      clear hl hs n0 n2 n3 c0 c1 c2 c3 c4 c5 c7 hA hN d3 d4 c6
      go_enter Try.func18, Try.ntmps18
      go_wp2_with fail
      refine (CT.out _).mono ?_
      rintro e W1 ⟨rfl, bk⟩
      replace hb := hb.trans (bk.mono hb.size)
      clear bk CT
      go_wp2_with fail
      (try simp only [Exit.inBlock, Exit.then])
      exact bodyPost_ret (results_tmp4 rfl _ _ _) rfl ⟨by rw [HB.out.1, HB.out.2.1, HB.out.2.2.1, HB.out.2.2.2]; rfl, hb⟩
    have d6 : decide ((s.size : Int) < 3) = false := by simp; omega
    have hl2 : 2 < s.size := by omega
    have hi2 : (2 : Int) < (s.size : Int) := by omega
    have t2 := rd_at s 2 hl2
    have h2 := rdB_lt s.data.toList 2
    by_cases c8 : rdB s.data.toList 2 < 128
    · have d8 : decide ((rdB s.data.toList 2 : Int) < 128) = true := by simp; omega
      have HB := Lib.hid (rd_bad s 11 (by rw [rdE, if_neg n0, if_neg c1, if_neg n2, if_neg n3, if_neg (by omega), if_pos (.inl ⟨c7, by omega⟩)]) (by decide))
      generalize rdB s.data.toList 0 = b0 at *
      generalize rdB s.data.toList 2 = b2 at *
      clear hl hs n0 n2 n3 c0 c1 c2 c3 c4 c5 c7 hA hN d3 d4 c6 c8
      go_enter Try.func18, Try.ntmps18
      go_wp2_with fail
      refine (CT.out _).mono ?_
      rintro e W1 ⟨rfl, bk⟩
      replace hb := hb.trans (bk.mono hb.size)
      clear bk CT
      go_wp2_with fail
      (try simp only [Exit.inBlock, Exit.then])
      exact bodyPost_ret (results_tmp4 rfl _ _ _) rfl ⟨by rw [HB.out.1, HB.out.2.1, HB.out.2.2.1, HB.out.2.2.2]; rfl, hb⟩
    have d8 : decide ((rdB s.data.toList 2 : Int) < 128) = false := by simp; omega
    by_cases c9 : s.size < 3 + rdB s.data.toList 2
    · have d9 : decide ((s.size : Int) < 3 + (rdB s.data.toList 2 : Int)) = true := by simp; omega
      have HB := Lib.hid (rd_bad s 10 (by rw [rdE, if_neg n0, if_neg c1, if_neg n2, if_neg n3, if_neg (by omega), if_neg (by omega), if_pos (by omega)]) (by decide))
      generalize rdB s.data.toList 0 = b0 at *
      generalize rdB s.data.toList 2 = b2 at *
      clear hl hs n0 n2 n3 c0 c1 c2 c3 c4 c5 c7 hA hN d3 d4 c6 c8 c9
      go_enter Try.func18, Try.ntmps18
      go_wp2_with fail
      refine (CT.out _).mono ?_
      rintro e W1 ⟨rfl, bk⟩
      replace hb := hb.trans (bk.mono hb.size)
      clear bk CT
      go_wp2_with fail
      (try simp only [Exit.inBlock, Exit.then])
      exact bodyPost_ret (results_tmp4 rfl _ _ _) rfl ⟨by rw [HB.out.1, HB.out.2.1, HB.out.2.2.1, HB.out.2.2.2]; rfl, hb⟩
    have d9 : decide ((s.size : Int) < 3 + (rdB s.data.toList 2 : Int)) = false := by simp; omega
    have HB := Lib.hid (rd_good s (by rw [rdE, if_neg n0, if_neg c1, if_neg n2, if_neg n3, if_neg (by omega), if_neg (by omega), if_neg (by omega)]))
    rw [hA, hN] at HB
    have w0 : IntKind.i64.wrap (rdB s.data.toList 0 : Int) = (rdB s.data.toList 0 : Int) := by rw [IntKind.wrap_i64]; omega
    have wn : IntKind.i64.wrap (3 + (rdB s.data.toList 2 : Int)) = 3 + (rdB s.data.toList 2 : Int) := by rw [IntKind.wrap_i64]; omega
    generalize rdB s.data.toList 0 = b0 at *
    generalize rdB s.data.toList 2 = b2 at *
    have f1 : ((3 : Int) + (b2 : Int)).toNat = 3 + b2 := by omega
    have f2 : (3 : Int) + (b2 : Int) ≤ (s.size : Int) := by omega
    have f3 : (3 : Int) ≤ (3 : Int) + (b2 : Int) := by omega
    have f4 : (0 : Int) ≤ (3 : Int) + (b2 : Int) := by omega
    clear hl hs n0 n2 n3 c0 c1 c2 c3 c4 c5 c7 hA hN d3 d4 c6 c8 c9
    go_enter Try.func18, Try.ntmps18
    go_wp2_with fail
    refine (CT.out _).mono ?_
    rintro e W1 ⟨rfl, bk⟩
    replace hb := hb.trans (bk.mono hb.size)
    clear bk CT
    go_wp2_with fail
    refine wp_region_fresh 17 84 [.val (.string s) [(0, .string s)], .val (.int .u8 (b0 : Int)) [(70, .string s)], .val (.int .i64 (b0 : Int)) [(71, .int .u8 (b0 : Int))], .val (.string s) [(0, .string s)], .val (.int .i64 3) [(7, .int .i64 3)], .val (.int .i64 3) [(7, .int .i64 3)], .val (.int .i64 ((b2 : Int))) [(6, .int .i64 ((b2 : Int)))], .val (.int .i64 (3 + (b2 : Int))) [(75, .int .i64 3), (76, .int .i64 ((b2 : Int)))], .val (.string (s.extract 3 (3 + b2))) [(73, .string s), (74, .int .i64 3), (77, .int .i64 (3 + (b2 : Int)))], .val (.string s) [(0, .string s)], .val (.int .i64 3) [(7, .int .i64 3)], .val (.int .i64 ((b2 : Int))) [(6, .int .i64 ((b2 : Int)))], .val (.int .i64 (3 + (b2 : Int))) [(80, .int .i64 3), (81, .int .i64 ((b2 : Int)))], .val (.string (s.extract (3 + b2) s.size)) [(79, .string s), (82, .int .i64 (3 + (b2 : Int)))], .val (.int .i64 (b0 : Int)) [(72, .int .i64 (b0 : Int))], .val (.string (s.extract 3 (3 + b2))) [(78, .string (s.extract 3 (3 + b2)))], .val (.string (s.extract (3 + b2) s.size)) [(83, .string (s.extract (3 + b2) s.size))]] (by kernel_rfl) (by kernel_rfl) rfl ?_ ?_ ?_
    · simp only [List.take_succ_cons, List.take_zero, headObl, specObl, HeadSpec.val, HeadSpec.fresh, and_true]
      refine ⟨?_, ?_, ?_, ?_, ?_, ?_, ?_, ?_, ?_, ?_, ?_, ?_, ?_, ?_, ?_, ?_, ?_⟩
      · intro act w hb h
        have e0 := h (0, .string s) (by simp)
        simp only [Array.getD_eq_getD_getElem?] at e0
        simp [go_sem, e0, sQuiet]
      · intro act w hb h
        have e0 := h (70, .string s) (by simp)
        simp only [Array.getD_eq_getD_getElem?] at e0
        simp [go_sem, e0, sQuiet, hi0, hl0, t0]
      · intro act w hb h
        have e0 := h (71, .int .u8 (b0 : Int)) (by simp)
        simp only [Array.getD_eq_getD_getElem?] at e0
        simp [go_sem, e0, sQuiet, w0]
      · intro act w hb h
        have e0 := h (0, .string s) (by simp)
        simp only [Array.getD_eq_getD_getElem?] at e0
        simp [go_sem, e0, sQuiet]
      · intro act w hb h
        have e0 := h (7, .int .i64 3) (by simp)
        simp only [Array.getD_eq_getD_getElem?] at e0
        simp [go_sem, e0, sQuiet]
      · intro act w hb h
        have e0 := h (7, .int .i64 3) (by simp)
        simp only [Array.getD_eq_getD_getElem?] at e0
        simp [go_sem, e0, sQuiet]
      · intro act w hb h
        have e0 := h (6, .int .i64 ((b2 : Int))) (by simp)
        simp only [Array.getD_eq_getD_getElem?] at e0
        simp [go_sem, e0, sQuiet]
      · intro act w hb h
        have e0 := h (75, .int .i64 3) (by simp)
        have e1 := h (76, .int .i64 ((b2 : Int))) (by simp)
        simp only [Array.getD_eq_getD_getElem?] at e0 e1
        simp [go_sem, e0, e1, sQuiet, wn]
      · intro act w hb h
        have e0 := h (73, .string s) (by simp)
        have e1 := h (74, .int .i64 3) (by simp)
        have e2 := h (77, .int .i64 (3 + (b2 : Int))) (by simp)
        simp only [Array.getD_eq_getD_getElem?] at e0 e1 e2
        simp [go_sem, e0, e1, e2, sQuiet, f1, f2, f3, f4]
      · intro act w hb h
        have e0 := h (0, .string s) (by simp)
        simp only [Array.getD_eq_getD_getElem?] at e0
        simp [go_sem, e0, sQuiet]
      · intro act w hb h
        have e0 := h (7, .int .i64 3) (by simp)
        simp only [Array.getD_eq_getD_getElem?] at e0
        simp [go_sem, e0, sQuiet]
      · intro act w hb h
        have e0 := h (6, .int .i64 ((b2 : Int))) (by simp)
        simp only [Array.getD_eq_getD_getElem?] at e0
        simp [go_sem, e0, sQuiet]
      · intro act w hb h
        have e0 := h (80, .int .i64 3) (by simp)
        have e1 := h (81, .int .i64 ((b2 : Int))) (by simp)
        simp only [Array.getD_eq_getD_getElem?] at e0 e1
        simp [go_sem, e0, e1, sQuiet, wn]
      · intro act w hb h
        have e0 := h (79, .string s) (by simp)
        have e1 := h (82, .int .i64 (3 + (b2 : Int))) (by simp)
        simp only [Array.getD_eq_getD_getElem?] at e0 e1
        simp [go_sem, e0, e1, sQuiet, f1, f2, f4]
      · intro act w hb h
        have e0 := h (72, .int .i64 (b0 : Int)) (by simp)
        simp only [Array.getD_eq_getD_getElem?] at e0
        simp [go_sem, e0, sQuiet]
      · intro act w hb h
        have e0 := h (78, .string (s.extract 3 (3 + b2))) (by simp)
        simp only [Array.getD_eq_getD_getElem?] at e0
        simp [go_sem, e0, sQuiet]
      · intro act w hb h
        have e0 := h (83, .string (s.extract (3 + b2) s.size)) (by simp)
        simp only [Array.getD_eq_getD_getElem?] at e0
        simp [go_sem, e0, sQuiet]
    · simp [headReads, headPut, specV, HeadSpec.val, HeadSpec.fresh, Act.put]
    · simp only [List.take_succ_cons, List.take_zero, List.drop_succ_cons, List.drop_zero, headEnd, HeadSpec.val, HeadSpec.fresh, Act.put, List.setIfInBounds_toArray, List.set_cons_succ, List.set_cons_zero]
      intro X hx _
      go_wp2_with fail
      (try simp only [Exit.inBlock, Exit.then])
      exact bodyPost_ret (results_tmp4 rfl _ _ _) rfl ⟨by rw [HB.out.1, HB.out.2.1, HB.out.2.2.1, HB.out.2.2.2]; rfl, hb.trans (hx.mono hb.size)⟩
  have c7 : rdB s.data.toList 1 = 130 := by omega
  have hA : rdA s.data.toList = 4 := by rw [rdA, if_pos (by omega)]; omega
  replace t1 : ∀ k : 1 < s.size, ((s[1]'k).toNat : Int) = 130 := fun k => by rw [t1 k, c7]; rfl
  have hN : rdN s.data.toList = 256 * rdB s.data.toList 2 + rdB s.data.toList 3 := by rw [rdN, if_neg (by omega), if_pos c7]
  by_cases c6 : s.size < 4
  · have d6 : decide ((s.size : Int) < 4) = true := by simp; omega
    have HB := Lib.hid (rd_bad s 10 (by rw [rdE, if_neg n0, if_neg c1, if_neg n2, if_neg n3, if_pos (by omega)]) (by decide))
    generalize rdB s.data.toList 0 = b0 at *
    clear hl hs n0 n2 n3 c0 c1 c2 c3 c4 c5 c7 hA hN d3 d4 c6
    go_enter Try.func18, Try.ntmps18
    go_wp2_with fail
    refine (CT.out _).mono ?_
    rintro e W1 ⟨rfl, bk⟩
    replace hb := hb.trans (bk.mono hb.size)
    clear bk CT
    go_wp2_with fail
    (try simp only [Exit.inBlock, Exit.then])
    exact bodyPost_ret (results_tmp4 rfl _ _ _) rfl ⟨by rw [HB.out.1, HB.out.2.1, HB.out.2.2.1, HB.out.2.2.2]; rfl, hb⟩
  have d6 : decide ((s.size : Int) < 4) = false := by simp; omega
  have hl2 : 2 < s.size := by omega
  have hi2 : (2 : Int) < (s.size : Int) := by omega
  have t2 := rd_at s 2 hl2
  have h2 := rdB_lt s.data.toList 2
  have hl3 : 3 < s.size := by omega
  have hi3 : (3 : Int) < (s.size : Int) := by omega
  have t3 := rd_at s 3 hl3
  have h3 := rdB_lt s.data.toList 3
  have wm : IntKind.i64.wrap (256 * (rdB s.data.toList 2 : Int)) = 256 * (rdB s.data.toList 2 : Int) := by rw [IntKind.wrap_i64]; omega
  have wk : IntKind.i64.wrap (256 * (rdB s.data.toList 2 : Int) + (rdB s.data.toList 3 : Int)) = 256 * (rdB s.data.toList 2 : Int) + (rdB s.data.toList 3 : Int) := by rw [IntKind.wrap_i64]; omega
  by_cases c8 : (256 * rdB s.data.toList 2 + rdB s.data.toList 3) < 256
  · have d8 : decide ((256 * (rdB s.data.toList 2 : Int) + (rdB s.data.toList 3 : Int)) < 256) = true := by simp; omega
    have HB := Lib.hid (rd_bad s 11 (by rw [rdE, if_neg n0, if_neg c1, if_neg n2, if_neg n3, if_neg (by omega), if_pos (.inr ⟨c7, by omega⟩)]) (by decide))
    generalize rdB s.data.toList 0 = b0 at *
    generalize rdB s.data.toList 2 = b2 at *
    generalize rdB s.data.toList 3 = b3 at *
    clear hl hs n0 n2 n3 c0 c1 c2 c3 c4 c5 c7 hA hN d3 d4 c6 c8
    go_enter Try.func18, Try.ntmps18
    go_wp2_with fail
    refine (CT.out _).mono ?_
    rintro e W1 ⟨rfl, bk⟩
    replace hb := hb.trans (bk.mono hb.size)
    clear bk CT
    go_wp2_with fail
    (try simp only [Exit.inBlock, Exit.then])
    exact bodyPost_ret (results_tmp4 rfl _ _ _) rfl ⟨by rw [HB.out.1, HB.out.2.1, HB.out.2.2.1, HB.out.2.2.2]; rfl, hb⟩
  have d8 : decide ((256 * (rdB s.data.toList 2 : Int) + (rdB s.data.toList 3 : Int)) < 256) = false := by simp; omega
  by_cases c9 : s.size < 4 + (256 * rdB s.data.toList 2 + rdB s.data.toList 3)
  · have d9 : decide ((s.size : Int) < 4 + (256 * (rdB s.data.toList 2 : Int) + (rdB s.data.toList 3 : Int))) = true := by simp; omega
    have HB := Lib.hid (rd_bad s 10 (by rw [rdE, if_neg n0, if_neg c1, if_neg n2, if_neg n3, if_neg (by omega), if_neg (by omega), if_pos (by omega)]) (by decide))
    generalize rdB s.data.toList 0 = b0 at *
    generalize rdB s.data.toList 2 = b2 at *
    generalize rdB s.data.toList 3 = b3 at *
    clear hl hs n0 n2 n3 c0 c1 c2 c3 c4 c5 c7 hA hN d3 d4 c6 c8 c9
    go_enter Try.func18, Try.ntmps18
    go_wp2_with fail
    refine (CT.out _).mono ?_
    rintro e W1 ⟨rfl, bk⟩
    replace hb := hb.trans (bk.mono hb.size)
    clear bk CT
    go_wp2_with fail
    (try simp only [Exit.inBlock, Exit.then])
    exact bodyPost_ret (results_tmp4 rfl _ _ _) rfl ⟨by rw [HB.out.1, HB.out.2.1, HB.out.2.2.1, HB.out.2.2.2]; rfl, hb⟩
  have d9 : decide ((s.size : Int) < 4 + (256 * (rdB s.data.toList 2 : Int) + (rdB s.data.toList 3 : Int))) = false := by simp; omega
  have HB := Lib.hid (rd_good s (by rw [rdE, if_neg n0, if_neg c1, if_neg n2, if_neg n3, if_neg (by omega), if_neg (by omega), if_neg (by omega)]))
  rw [hA, hN] at HB
  have w0 : IntKind.i64.wrap (rdB s.data.toList 0 : Int) = (rdB s.data.toList 0 : Int) := by rw [IntKind.wrap_i64]; omega
  have wn : IntKind.i64.wrap (4 + (256 * (rdB s.data.toList 2 : Int) + (rdB s.data.toList 3 : Int))) = 4 + (256 * (rdB s.data.toList 2 : Int) + (rdB s.data.toList 3 : Int)) := by rw [IntKind.wrap_i64]; omega
  generalize rdB s.data.toList 0 = b0 at *
  generalize rdB s.data.toList 2 = b2 at *
  generalize rdB s.data.toList 3 = b3 at *
  have f1 : ((4 : Int) + (256 * (b2 : Int) + (b3 : Int))).toNat = 4 + (256 * b2 + b3) := by omega
  have f2 : (4 : Int) + (256 * (b2 : Int) + (b3 : Int)) ≤ (s.size : Int) := by omega
  have f3 : (4 : Int) ≤ (4 : Int) + (256 * (b2 : Int) + (b3 : Int)) := by omega
  have f4 : (0 : Int) ≤ (4 : Int) + (256 * (b2 : Int) + (b3 : Int)) := by omega
  clear hl hs n0 n2 n3 c0 c1 c2 c3 c4 c5 c7 hA hN d3 d4 c6 c8 c9
  go_enter Try.func18, Try.ntmps18
  go_wp2_with fail
  refine (CT.out _).mono ?_
  rintro e W1 ⟨rfl, bk⟩
  replace hb := hb.trans (bk.mono hb.size)
  clear bk CT
  go_wp2_with fail
  refine wp_region_fresh 17 84 [.val (.string s) [(0, .string s)], .val (.int .u8 (b0 : Int)) [(70, .string s)], .val (.int .i64 (b0 : Int)) [(71, .int .u8 (b0 : Int))], .val (.string s) [(0, .string s)], .val (.int .i64 4) [(7, .int .i64 4)], .val (.int .i64 4) [(7, .int .i64 4)], .val (.int .i64 ((256 * (b2 : Int) + (b3 : Int)))) [(6, .int .i64 ((256 * (b2 : Int) + (b3 : Int))))], .val (.int .i64 (4 + (256 * (b2 : Int) + (b3 : Int)))) [(75, .int .i64 4), (76, .int .i64 ((256 * (b2 : Int) + (b3 : Int))))], .val (.string (s.extract 4 (4 + (256 * b2 + b3)))) [(73, .string s), (74, .int .i64 4), (77, .int .i64 (4 + (256 * (b2 : Int) + (b3 : Int))))], .val (.string s) [(0, .string s)], .val (.int .i64 4) [(7, .int .i64 4)], .val (.int .i64 ((256 * (b2 : Int) + (b3 : Int)))) [(6, .int .i64 ((256 * (b2 : Int) + (b3 : Int))))], .val (.int .i64 (4 + (256 * (b2 : Int) + (b3 : Int)))) [(80, .int .i64 4), (81, .int .i64 ((256 * (b2 : Int) + (b3 : Int))))], .val (.string (s.extract (4 + (256 * b2 + b3)) s.size)) [(79, .string s), (82, .int .i64 (4 + (256 * (b2 : Int) + (b3 : Int))))], .val (.int .i64 (b0 : Int)) [(72, .int .i64 (b0 : Int))], .val (.string (s.extract 4 (4 + (256 * b2 + b3)))) [(78, .string (s.extract 4 (4 + (256 * b2 + b3))))], .val (.string (s.extract (4 + (256 * b2 + b3)) s.size)) [(83, .string (s.extract (4 + (256 * b2 + b3)) s.size))]] (by kernel_rfl) (by kernel_rfl) rfl ?_ ?_ ?_
  · simp only [List.take_succ_cons, List.take_zero, headObl, specObl, HeadSpec.val, HeadSpec.fresh, and_true]
    refine ⟨?_, ?_, ?_, ?_, ?_, ?_, ?_, ?_, ?_, ?_, ?_, ?_, ?_, ?_, ?_, ?_, ?_⟩
    · intro act w hb h
      have e0 := h (0, .string s) (by simp)
      simp only [Array.getD_eq_getD_getElem?] at e0
      simp [go_sem, e0, sQuiet]
    · intro act w hb h
      have e0 := h (70, .string s) (by simp)
      simp only [Array.getD_eq_getD_getElem?] at e0
      simp [go_sem, e0, sQuiet, hi0, hl0, t0]
    · intro act w hb h
      have e0 := h (71, .int .u8 (b0 : Int)) (by simp)
      simp only [Array.getD_eq_getD_getElem?] at e0
      simp [go_sem, e0, sQuiet, w0]
    · intro act w hb h
      have e0 := h (0, .string s) (by simp)
      simp only [Array.getD_eq_getD_getElem?] at e0
      simp [go_sem, e0, sQuiet]
    · intro act w hb h
      have e0 := h (7, .int .i64 4) (by simp)
      simp only [Array.getD_eq_getD_getElem?] at e0
      simp [go_sem, e0, sQuiet]
    · intro act w hb h
      have e0 := h (7, .int .i64 4) (by simp)
      simp only [Array.getD_eq_getD_getElem?] at e0
      simp [go_sem, e0, sQuiet]
    · intro act w hb h
      have e0 := h (6, .int .i64 ((256 * (b2 : Int) + (b3 : Int)))) (by simp)
      simp only [Array.getD_eq_getD_getElem?] at e0
      simp [go_sem, e0, sQuiet]
    · intro act w hb h
      have e0 := h (75, .int .i64 4) (by simp)
      have e1 := h (76, .int .i64 ((256 * (b2 : Int) + (b3 : Int)))) (by simp)
      simp only [Array.getD_eq_getD_getElem?] at e0 e1
      simp [go_sem, e0, e1, sQuiet, wn]
    · intro act w hb h
      have e0 := h (73, .string s) (by simp)
      have e1 := h (74, .int .i64 4) (by simp)
      have e2 := h (77, .int .i64 (4 + (256 * (b2 : Int) + (b3 : Int)))) (by simp)
      simp only [Array.getD_eq_getD_getElem?] at e0 e1 e2
      simp [go_sem, e0, e1, e2, sQuiet, f1, f2, f3, f4]
    · intro act w hb h
      have e0 := h (0, .string s) (by simp)
      simp only [Array.getD_eq_getD_getElem?] at e0
      simp [go_sem, e0, sQuiet]
    · intro act w hb h
      have e0 := h (7, .int .i64 4) (by simp)
      simp only [Array.getD_eq_getD_getElem?] at e0
      simp [go_sem, e0, sQuiet]
    · intro act w hb h
      have e0 := h (6, .int .i64 ((256 * (b2 : Int) + (b3 : Int)))) (by simp)
      simp only [Array.getD_eq_getD_getElem?] at e0
      simp [go_sem, e0, sQuiet]
    · intro act w hb h
      have e0 := h (80, .int .i64 4) (by simp)
      have e1 := h (81, .int .i64 ((256 * (b2 : Int) + (b3 : Int)))) (by simp)
      simp only [Array.getD_eq_getD_getElem?] at e0 e1
      simp [go_sem, e0, e1, sQuiet, wn]
    · intro act w hb h
      have e0 := h (79, .string s) (by simp)
      have e1 := h (82, .int .i64 (4 + (256 * (b2 : Int) + (b3 : Int)))) (by simp)
      simp only [Array.getD_eq_getD_getElem?] at e0 e1
      simp [go_sem, e0, e1, sQuiet, f1, f2, f4]
    · intro act w hb h
      have e0 := h (72, .int .i64 (b0 : Int)) (by simp)
      simp only [Array.getD_eq_getD_getElem?] at e0
      simp [go_sem, e0, sQuiet]
    · intro act w hb h
      have e0 := h (78, .string (s.extract 4 (4 + (256 * b2 + b3)))) (by simp)
      simp only [Array.getD_eq_getD_getElem?] at e0
      simp [go_sem, e0, sQuiet]
    · intro act w hb h
      have e0 := h (83, .string (s.extract (4 + (256 * b2 + b3)) s.size)) (by simp)
      simp only [Array.getD_eq_getD_getElem?] at e0
      simp [go_sem, e0, sQuiet]
  · simp [headReads, headPut, specV, HeadSpec.val, HeadSpec.fresh, Act.put]
  · simp only [List.take_succ_cons, List.take_zero, List.drop_succ_cons, List.drop_zero, headEnd, HeadSpec.val, HeadSpec.fresh, Act.put, List.setIfInBounds_toArray, List.set_cons_succ, List.set_cons_zero]
    intro X hx _
    go_wp2_with fail
    (try simp only [Exit.inBlock, Exit.then])
    exact bodyPost_ret (results_tmp4 rfl _ _ _) rfl ⟨by rw [HB.out.1, HB.out.2.1, HB.out.2.2.1, HB.out.2.2.2]; rfl, hb.trans (hx.mono hb.size)⟩
end Go.Proofs.Ytimokmhgpigliaa
