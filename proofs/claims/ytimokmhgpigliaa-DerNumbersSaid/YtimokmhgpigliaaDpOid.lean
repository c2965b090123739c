/- Package der: Oid. -/
import Derived.Test.YtimokmhgpigliaaDpEl
import Derived.Test.YtimokmhgpigliaaDpGrp
import Derived.Test.YtimokmhgpigliaaDpMin
namespace Go.Proofs.Ytimokmhgpigliaa
open Go.RowKit Go.Sort
set_option maxRecDepth 100000
set_option linter.unusedSimpArgs false
set_option linter.unusedVariables false

theorem drop_any (zs : List Int) (z : Int) (h : ∀ k, k < zs.length → zs.getD k 0 ≤ z) : ∀ k, 2 ≤ k → k < zs.length → zs.getD k 0 ≤ z := fun k _ hk => h k hk
theorem grB_eq (z : Int) : (⟨(grL z.toNat).toArray⟩ : ByteArray) = grB z := rfl
set_option maxHeartbeats 16000000 in
theorem oidA_any (ao : Option Addr) (n c : Nat) (zs : List Int) (w : World) (hn : zs.length = n) (hm : n ≤ 1000000) (hz : ∀ k, -9223372036854775808 ≤ zs.getD k 0 ∧ zs.getD k 0 ≤ 9223372036854775807) (hi : IntsAt w ao zs)
    (hbad : n < 2 ∨ (2 ≤ n ∧ minU zs (n - 1) < 0)) :
    Calls Try.prog 25 #[.slice ao n c] w fun e w' => e = .returned (.tuple #[.string (oidX zs), .int .i64 (oidErr zs)]) ∧ Below w.heap.size w w' := by
  have hb := Below.refl w.heap.size w
  rcases hbad with h2 | ⟨h2, hneg⟩
  · have d2 : decide ((n : Int) < 2) = true := by simp; omega
    have HR := Lib.hid (oid_bad zs 1 (oid_few zs (by omega)) (by decide))
    clear hi hz hn hm h2
    go_enter Try.func25, Try.ntmps25
    go_wp2_with fail
    refine wp_region_reads (by kernel_rfl) (by kernel_rfl) ?_
    repeat (first | go_big_quiet_step (fail) | quiet_step (fail))
    refine wpQuiet_nil ?_
    intro W1 bk
    replace hb := hb.trans (bk.mono hb.size)
    clear bk
    go_wp2_with fail
    go_ret2
    exact ⟨by rw [HR.out.1, HR.out.2]; rfl, hb⟩
  · obtain ⟨j, hj, hj0⟩ := minU_one zs (n - 1)
    have HR := Lib.hid (oid_bad zs 1 (oid_neg zs (by omega) j (by omega) (by omega)) (by decide))
    have d2 : decide ((n : Int) < 2) = false := by simp; omega
    have CM := Lib.hid (fun W hI => min_any ao n c zs W hn (by omega) hm hI)
    have HI := Lib.hid hi
    have d3 : decide (minU zs (n - 1) < 0) = true := decide_eq_true hneg
    clear hi hz hn hm h2 hneg hj hj0
    generalize minU zs (n - 1) = mn at *
    go_enter Try.func25, Try.ntmps25
    go_wp2_with fail
    refine wp_region_reads (by kernel_rfl) (by kernel_rfl) ?_
    repeat (first | go_big_quiet_step (first | with_reducible exact Calls.regrown_of (CM.out _ (HI.out.step (below_regrown _ _ _)))) | quiet_step (first | with_reducible exact Calls.regrown_of (CM.out _ (HI.out.step (below_regrown _ _ _)))))
    refine wpQuiet_nil ?_
    intro W1 bk
    replace hb := hb.trans (bk.mono hb.size)
    clear bk
    go_wp2_with fail
    go_ret2
    exact ⟨by rw [HR.out.1, HR.out.2]; rfl, hb⟩
set_option maxHeartbeats 16000000 in
theorem oidB_any (ao : Option Addr) (n c : Nat) (zs : List Int) (w : World) (hn : zs.length = n) (hm : n ≤ 1000000) (hcap : n ≤ c) (hz : ∀ k, -9223372036854775808 ≤ zs.getD k 0 ∧ zs.getD k 0 ≤ 9223372036854775807) (hi : IntsAt w ao zs)
    (h2 : 2 ≤ n) (hneg : ¬ minU zs (n - 1) < 0) (hbg : oidBad zs) :
    Calls Try.prog 25 #[.slice ao n c] w fun e w' => e = .returned (.tuple #[.string (oidX zs), .int .i64 (oidErr zs)]) ∧ Below w.heap.size w w' := by
  have hb := Below.refl w.heap.size w
  have hpos : ∀ k, k < zs.length → 0 ≤ zs.getD k 0 := fun k hk => by have := minU_all zs (n - 1) k (by omega); omega
  have d2 : decide ((n : Int) < 2) = false := by simp; omega
  have d3 : decide (minU zs (n - 1) < 0) = false := decide_eq_false hneg
  have CM := Lib.hid (fun W hI => min_any ao n c zs W hn (by omega) hm hI)
  have CX := Lib.hid (fun W hI => max_any ao n c zs W hn (by omega) hm hI)
  have CB := Lib.hid (fun W => isBeginning_any (zs.getD 0 0) (zs.getD 1 0) W)
  have HI := Lib.hid hi
  obtain ⟨g, off, rfl, hcs⟩ := ints_at hi (by omega)
  have c0 := hcs 0 (by omega); have c1 := hcs 1 (by omega)
  rw [Nat.add_zero] at c0
  have HCS := Lib.hid hcs
  have i0 : (0 : Int) < (n : Int) := by omega
  have j0 : 0 < n := by omega
  have i1 : (1 : Int) < (n : Int) := by omega
  have j1 : 1 < n := by omega
  have p0 := hpos 0 (by omega); have p1 := hpos 1 (by omega)
  have HMX : Hid (∀ j, j < zs.length → zs.getD j 0 ≤ maxU zs (n - 1)) := Lib.hid (fun j hj => maxU_all zs (n - 1) j (by omega))
  have HM1 := Lib.hid (maxU_one zs (n - 1))
  clear hi hcs
  have hq : bgB (zs.getD 0 0) (zs.getD 1 0) = false := by
    cases h : bgB (zs.getD 0 0) (zs.getD 1 0) with
    | false => rfl
    | true => exact absurd hbg ((bg_iff zs p1).1 h)
  rw [hq] at CB
  have HR := Lib.hid (oid_bad zs 1 (oid_arg zs (by omega) hbg) (by decide))
  generalize minU zs (n - 1) = mn at *
  obtain ⟨z0, ez0⟩ : ∃ z0, zs.getD 0 0 = z0 := ⟨_, rfl⟩
  obtain ⟨z1, ez1⟩ : ∃ z1, zs.getD 1 0 = z1 := ⟨_, rfl⟩
  rw [ez0] at c0
  rw [ez1] at c1
  rw [ez0, ez1] at CB
  clear hz hn hm h2 hneg hbg hpos hq CX HCS HMX HM1 ez0 ez1 hcap
  go_enter Try.func25, Try.ntmps25
  go_wp2_with fail
  refine wp_region_toldg 17 56 [(Told.val (.slice (some ⟨g, off, none⟩) n c), [0]),
    (Told.val (.int .i64 (n : Int)), [7]),
    (Told.val (.bool false), [8]),
    (Told.val (.bool false), [9]),
    (Told.val (.slice (some ⟨g, off, none⟩) n c), [0]),
    (Told.val (.int .i64 mn), [11]),
    (Told.val (.bool false), [12]),
    (Told.val (.bool false), [10, 13]),
    (Told.val (.bool false), [14]),
    (Told.val (.slice (some ⟨g, off, none⟩) n c), [0]),
    (Told.val (.pointer (some ⟨g, off, none⟩)), [16]),
    (Told.val (.int .i64 z0), [17]),
    (Told.val (.slice (some ⟨g, off, none⟩) n c), [0]),
    (Told.val (.pointer (some ⟨g, off + 1, none⟩)), [19]),
    (Told.val (.int .i64 z1), [20]),
    (Told.val (.bool false), [18, 21]),
    (Told.val (.bool true), [22])]
    (by kernel_rfl) (by kernel_rfl) rfl (by simp [toldGuards, Told.val]) ?_ ?_
  · simp only [List.take_succ_cons, List.take_zero, toldObl, and_true]
    refine And.intro ?_ (And.intro ?_ (And.intro ?_ (And.intro ?_ (And.intro ?_ (And.intro ?_ (And.intro ?_ (And.intro ?_ (And.intro ?_ (And.intro ?_ (And.intro ?_ (And.intro ?_ (And.intro ?_ (And.intro ?_ (And.intro ?_ (And.intro ?_ (?_))))))))))))))))
    · intro a w hb h
      have e0 : a.tmps.getD 0 undef = .slice (some ⟨g, off, none⟩) n c := h 0 (by simp)
      simp only [Array.getD_eq_getD_getElem?] at e0
      refine told_q ?_
      simp [go_sem, e0, sQuiet]
    · intro a w hb h
      have e0 : a.tmps.getD 7 undef = .slice (some ⟨g, off, none⟩) n c := h 7 (by simp)
      simp only [Array.getD_eq_getD_getElem?] at e0
      refine told_q ?_
      simp [go_sem, e0, sQuiet]
    · intro a w hb h
      have e0 : a.tmps.getD 8 undef = .int .i64 (n : Int) := h 8 (by simp)
      simp only [Array.getD_eq_getD_getElem?] at e0
      refine told_q ?_
      simp [go_sem, e0, sQuiet, d2]
    · intro a w hb h
      have e0 : a.tmps.getD 9 undef = .bool false := h 9 (by simp)
      simp only [Array.getD_eq_getD_getElem?] at e0
      refine told_q ?_
      simp [go_sem, e0, sQuiet]
    · intro a w hb h
      have e0 : a.tmps.getD 0 undef = .slice (some ⟨g, off, none⟩) n c := h 0 (by simp)
      simp only [Array.getD_eq_getD_getElem?] at e0
      refine told_q ?_
      simp [go_sem, e0, sQuiet]
    · intro a w hb h
      have e0 : a.tmps.getD 11 undef = .slice (some ⟨g, off, none⟩) n c := h 11 (by simp)
      simp only [Array.getD_eq_getD_getElem?] at e0
      refine told_q ?_
      simp [go_sem, e0, sQuiet]
      exact CM.out _ (HI.out.step hb)
    · intro a w hb h
      have e0 : a.tmps.getD 12 undef = .int .i64 mn := h 12 (by simp)
      simp only [Array.getD_eq_getD_getElem?] at e0
      refine told_q ?_
      simp [go_sem, e0, sQuiet, d3]
    · intro a w hb h
      have e0 : a.tmps.getD 10 undef = .bool false := h 10 (by simp)
      have e1 : a.tmps.getD 13 undef = .bool false := h 13 (by simp)
      simp only [Array.getD_eq_getD_getElem?] at e0 e1
      refine told_q ?_
      simp [go_sem, e0, e1, sQuiet]
    · intro a w hb h
      have e0 : a.tmps.getD 14 undef = .bool false := h 14 (by simp)
      simp only [Array.getD_eq_getD_getElem?] at e0
      refine told_q ?_
      simp [go_sem, e0, sQuiet]
    · intro a w hb h
      have e0 : a.tmps.getD 0 undef = .slice (some ⟨g, off, none⟩) n c := h 0 (by simp)
      simp only [Array.getD_eq_getD_getElem?] at e0
      refine told_q ?_
      simp [go_sem, e0, sQuiet]
    · intro a w hb h
      have e0 : a.tmps.getD 16 undef = .slice (some ⟨g, off, none⟩) n c := h 16 (by simp)
      simp only [Array.getD_eq_getD_getElem?] at e0
      refine told_q ?_
      simp [go_sem, e0, sQuiet, i0, j0]
    · intro a w hb h
      have e0 : a.tmps.getD 17 undef = .pointer (some ⟨g, off, none⟩) := h 17 (by simp)
      simp only [Array.getD_eq_getD_getElem?] at e0
      have hc := (hb.cell (block_lt_of_cell c0)).trans c0
      refine told_q ?_
      simp [go_sem, e0, sQuiet, hc]
    · intro a w hb h
      have e0 : a.tmps.getD 0 undef = .slice (some ⟨g, off, none⟩) n c := h 0 (by simp)
      simp only [Array.getD_eq_getD_getElem?] at e0
      refine told_q ?_
      simp [go_sem, e0, sQuiet]
    · intro a w hb h
      have e0 : a.tmps.getD 19 undef = .slice (some ⟨g, off, none⟩) n c := h 19 (by simp)
      simp only [Array.getD_eq_getD_getElem?] at e0
      refine told_q ?_
      simp [go_sem, e0, sQuiet, i1, j1]
    · intro a w hb h
      have e0 : a.tmps.getD 20 undef = .pointer (some ⟨g, off + 1, none⟩) := h 20 (by simp)
      simp only [Array.getD_eq_getD_getElem?] at e0
      have hc := (hb.cell (block_lt_of_cell c1)).trans c1
      refine told_q ?_
      simp [go_sem, e0, sQuiet, hc]
    · intro a w hb h
      have e0 : a.tmps.getD 18 undef = .int .i64 z0 := h 18 (by simp)
      have e1 : a.tmps.getD 21 undef = .int .i64 z1 := h 21 (by simp)
      simp only [Array.getD_eq_getD_getElem?] at e0 e1
      refine told_q ?_
      simp [go_sem, e0, e1, sQuiet]
      exact CB.out _
    · intro a w hb h
      have e0 : a.tmps.getD 22 undef = .bool false := h 22 (by simp)
      simp only [Array.getD_eq_getD_getElem?] at e0
      refine told_q ?_
      simp [go_sem, e0, sQuiet]
  simp only [List.take_succ_cons, List.take_zero, List.drop_succ_cons, List.drop_zero, toldEnd, Act.put, List.setIfInBounds_toArray, List.set_cons_succ, List.set_cons_zero]
  rintro X bk v7 q7 v8 q8 v9 q9 v10 q10 v11 q11 v12 q12 v13 q13 v14 q14 v15 q15 v16 q16 v17 q17 v18 q18 v19 q19 v20 q20 v21 q21 v22 q22 v23 q23
  obtain rfl := q7.symm
  obtain rfl := q8.symm
  obtain rfl := q9.symm
  obtain rfl := q10.symm
  obtain rfl := q11.symm
  obtain rfl := q12.symm
  obtain rfl := q13.symm
  obtain rfl := q14.symm
  obtain rfl := q15.symm
  obtain rfl := q16.symm
  obtain rfl := q17.symm
  obtain rfl := q18.symm
  obtain rfl := q19.symm
  obtain rfl := q20.symm
  obtain rfl := q21.symm
  obtain rfl := q22.symm
  obtain rfl := q23.symm
  clear q7 q8 q9 q10 q11 q12 q13 q14 q15 q16 q17 q18 q19 q20 q21 q22 q23
  replace hb := hb.trans (bk.mono hb.size)
  replace HI := Lib.hid (HI.out.step bk)
  replace c0 := (bk.cell (block_lt_of_cell c0)).trans c0
  replace c1 := (bk.cell (block_lt_of_cell c1)).trans c1
  clear bk
  go_wp2_with fail
  go_ret2
  exact ⟨by rw [HR.out.1, HR.out.2]; rfl, hb⟩
set_option maxHeartbeats 16000000 in
theorem oidC_any (ao : Option Addr) (n c : Nat) (zs : List Int) (w : World) (hn : zs.length = n) (hm : n ≤ 1000000) (hcap : n ≤ c) (hz : ∀ k, -9223372036854775808 ≤ zs.getD k 0 ∧ zs.getD k 0 ≤ 9223372036854775807) (hi : IntsAt w ao zs)
    (h2 : 2 ≤ n) (hneg : ¬ minU zs (n - 1) < 0) (hbg : ¬ oidBad zs) (hbig : 20 < n ∨ (n ≤ 20 ∧ 268435455 < maxU zs (n - 1))) :
    Calls Try.prog 25 #[.slice ao n c] w fun e w' => e = .returned (.tuple #[.string (oidX zs), .int .i64 (oidErr zs)]) ∧ Below w.heap.size w w' := by
  have hb := Below.refl w.heap.size w
  have hpos : ∀ k, k < zs.length → 0 ≤ zs.getD k 0 := fun k hk => by have := minU_all zs (n - 1) k (by omega); omega
  have d2 : decide ((n : Int) < 2) = false := by simp; omega
  have d3 : decide (minU zs (n - 1) < 0) = false := decide_eq_false hneg
  have CM := Lib.hid (fun W hI => min_any ao n c zs W hn (by omega) hm hI)
  have CX := Lib.hid (fun W hI => max_any ao n c zs W hn (by omega) hm hI)
  have CB := Lib.hid (fun W => isBeginning_any (zs.getD 0 0) (zs.getD 1 0) W)
  have HI := Lib.hid hi
  obtain ⟨g, off, rfl, hcs⟩ := ints_at hi (by omega)
  have c0 := hcs 0 (by omega); have c1 := hcs 1 (by omega)
  rw [Nat.add_zero] at c0
  have HCS := Lib.hid hcs
  have i0 : (0 : Int) < (n : Int) := by omega
  have j0 : 0 < n := by omega
  have i1 : (1 : Int) < (n : Int) := by omega
  have j1 : 1 < n := by omega
  have p0 := hpos 0 (by omega); have p1 := hpos 1 (by omega)
  have HMX : Hid (∀ j, j < zs.length → zs.getD j 0 ≤ maxU zs (n - 1)) := Lib.hid (fun j hj => maxU_all zs (n - 1) j (by omega))
  have HM1 := Lib.hid (maxU_one zs (n - 1))
  clear hi hcs
  have hq : bgB (zs.getD 0 0) (zs.getD 1 0) = true := (bg_iff zs p1).2 hbg
  rw [hq] at CB
  rcases hbig with h20 | ⟨h20, hmx⟩
  · have HR := Lib.hid (oid_bad zs 13 (oid_many zs (by omega) hpos hbg (by omega)) (by decide))
    have d20 : decide ((20 : Int) < (n : Int)) = true := by simp; omega
    generalize minU zs (n - 1) = mn at *
    obtain ⟨z0, ez0⟩ : ∃ z0, zs.getD 0 0 = z0 := ⟨_, rfl⟩
    obtain ⟨z1, ez1⟩ : ∃ z1, zs.getD 1 0 = z1 := ⟨_, rfl⟩
    rw [ez0] at c0
    rw [ez1] at c1
    rw [ez0, ez1] at CB
    clear hz hn hm h2 hneg hbg hpos hq CX HCS HMX HM1 ez0 ez1 hcap h20
    go_enter Try.func25, Try.ntmps25
    go_wp2_with fail
    refine wp_region_toldg 17 56 [(Told.val (.slice (some ⟨g, off, none⟩) n c), [0]),
      (Told.val (.int .i64 (n : Int)), [7]),
      (Told.val (.bool false), [8]),
      (Told.val (.bool false), [9]),
      (Told.val (.slice (some ⟨g, off, none⟩) n c), [0]),
      (Told.val (.int .i64 mn), [11]),
      (Told.val (.bool false), [12]),
      (Told.val (.bool false), [10, 13]),
      (Told.val (.bool false), [14]),
      (Told.val (.slice (some ⟨g, off, none⟩) n c), [0]),
      (Told.val (.pointer (some ⟨g, off, none⟩)), [16]),
      (Told.val (.int .i64 z0), [17]),
      (Told.val (.slice (some ⟨g, off, none⟩) n c), [0]),
      (Told.val (.pointer (some ⟨g, off + 1, none⟩)), [19]),
      (Told.val (.int .i64 z1), [20]),
      (Told.val (.bool true), [18, 21]),
      (Told.val (.bool false), [22])]
      (by kernel_rfl) (by kernel_rfl) rfl (by simp [toldGuards, Told.val]) ?_ ?_
    · simp only [List.take_succ_cons, List.take_zero, toldObl, and_true]
      refine And.intro ?_ (And.intro ?_ (And.intro ?_ (And.intro ?_ (And.intro ?_ (And.intro ?_ (And.intro ?_ (And.intro ?_ (And.intro ?_ (And.intro ?_ (And.intro ?_ (And.intro ?_ (And.intro ?_ (And.intro ?_ (And.intro ?_ (And.intro ?_ (?_))))))))))))))))
      · intro a w hb h
        have e0 : a.tmps.getD 0 undef = .slice (some ⟨g, off, none⟩) n c := h 0 (by simp)
        simp only [Array.getD_eq_getD_getElem?] at e0
        refine told_q ?_
        simp [go_sem, e0, sQuiet]
      · intro a w hb h
        have e0 : a.tmps.getD 7 undef = .slice (some ⟨g, off, none⟩) n c := h 7 (by simp)
        simp only [Array.getD_eq_getD_getElem?] at e0
        refine told_q ?_
        simp [go_sem, e0, sQuiet]
      · intro a w hb h
        have e0 : a.tmps.getD 8 undef = .int .i64 (n : Int) := h 8 (by simp)
        simp only [Array.getD_eq_getD_getElem?] at e0
        refine told_q ?_
        simp [go_sem, e0, sQuiet, d2]
      · intro a w hb h
        have e0 : a.tmps.getD 9 undef = .bool false := h 9 (by simp)
        simp only [Array.getD_eq_getD_getElem?] at e0
        refine told_q ?_
        simp [go_sem, e0, sQuiet]
      · intro a w hb h
        have e0 : a.tmps.getD 0 undef = .slice (some ⟨g, off, none⟩) n c := h 0 (by simp)
        simp only [Array.getD_eq_getD_getElem?] at e0
        refine told_q ?_
        simp [go_sem, e0, sQuiet]
      · intro a w hb h
        have e0 : a.tmps.getD 11 undef = .slice (some ⟨g, off, none⟩) n c := h 11 (by simp)
        simp only [Array.getD_eq_getD_getElem?] at e0
        refine told_q ?_
        simp [go_sem, e0, sQuiet]
        exact CM.out _ (HI.out.step hb)
      · intro a w hb h
        have e0 : a.tmps.getD 12 undef = .int .i64 mn := h 12 (by simp)
        simp only [Array.getD_eq_getD_getElem?] at e0
        refine told_q ?_
        simp [go_sem, e0, sQuiet, d3]
      · intro a w hb h
        have e0 : a.tmps.getD 10 undef = .bool false := h 10 (by simp)
        have e1 : a.tmps.getD 13 undef = .bool false := h 13 (by simp)
        simp only [Array.getD_eq_getD_getElem?] at e0 e1
        refine told_q ?_
        simp [go_sem, e0, e1, sQuiet]
      · intro a w hb h
        have e0 : a.tmps.getD 14 undef = .bool false := h 14 (by simp)
        simp only [Array.getD_eq_getD_getElem?] at e0
        refine told_q ?_
        simp [go_sem, e0, sQuiet]
      · intro a w hb h
        have e0 : a.tmps.getD 0 undef = .slice (some ⟨g, off, none⟩) n c := h 0 (by simp)
        simp only [Array.getD_eq_getD_getElem?] at e0
        refine told_q ?_
        simp [go_sem, e0, sQuiet]
      · intro a w hb h
        have e0 : a.tmps.getD 16 undef = .slice (some ⟨g, off, none⟩) n c := h 16 (by simp)
        simp only [Array.getD_eq_getD_getElem?] at e0
        refine told_q ?_
        simp [go_sem, e0, sQuiet, i0, j0]
      · intro a w hb h
        have e0 : a.tmps.getD 17 undef = .pointer (some ⟨g, off, none⟩) := h 17 (by simp)
        simp only [Array.getD_eq_getD_getElem?] at e0
        have hc := (hb.cell (block_lt_of_cell c0)).trans c0
        refine told_q ?_
        simp [go_sem, e0, sQuiet, hc]
      · intro a w hb h
        have e0 : a.tmps.getD 0 undef = .slice (some ⟨g, off, none⟩) n c := h 0 (by simp)
        simp only [Array.getD_eq_getD_getElem?] at e0
        refine told_q ?_
        simp [go_sem, e0, sQuiet]
      · intro a w hb h
        have e0 : a.tmps.getD 19 undef = .slice (some ⟨g, off, none⟩) n c := h 19 (by simp)
        simp only [Array.getD_eq_getD_getElem?] at e0
        refine told_q ?_
        simp [go_sem, e0, sQuiet, i1, j1]
      · intro a w hb h
        have e0 : a.tmps.getD 20 undef = .pointer (some ⟨g, off + 1, none⟩) := h 20 (by simp)
        simp only [Array.getD_eq_getD_getElem?] at e0
        have hc := (hb.cell (block_lt_of_cell c1)).trans c1
        refine told_q ?_
        simp [go_sem, e0, sQuiet, hc]
      · intro a w hb h
        have e0 : a.tmps.getD 18 undef = .int .i64 z0 := h 18 (by simp)
        have e1 : a.tmps.getD 21 undef = .int .i64 z1 := h 21 (by simp)
        simp only [Array.getD_eq_getD_getElem?] at e0 e1
        refine told_q ?_
        simp [go_sem, e0, e1, sQuiet]
        exact CB.out _
      · intro a w hb h
        have e0 : a.tmps.getD 22 undef = .bool true := h 22 (by simp)
        simp only [Array.getD_eq_getD_getElem?] at e0
        refine told_q ?_
        simp [go_sem, e0, sQuiet]
    simp only [List.take_succ_cons, List.take_zero, List.drop_succ_cons, List.drop_zero, toldEnd, Act.put, List.setIfInBounds_toArray, List.set_cons_succ, List.set_cons_zero]
    rintro X bk v7 q7 v8 q8 v9 q9 v10 q10 v11 q11 v12 q12 v13 q13 v14 q14 v15 q15 v16 q16 v17 q17 v18 q18 v19 q19 v20 q20 v21 q21 v22 q22 v23 q23
    obtain rfl := q7.symm
    obtain rfl := q8.symm
    obtain rfl := q9.symm
    obtain rfl := q10.symm
    obtain rfl := q11.symm
    obtain rfl := q12.symm
    obtain rfl := q13.symm
    obtain rfl := q14.symm
    obtain rfl := q15.symm
    obtain rfl := q16.symm
    obtain rfl := q17.symm
    obtain rfl := q18.symm
    obtain rfl := q19.symm
    obtain rfl := q20.symm
    obtain rfl := q21.symm
    obtain rfl := q22.symm
    obtain rfl := q23.symm
    clear q7 q8 q9 q10 q11 q12 q13 q14 q15 q16 q17 q18 q19 q20 q21 q22 q23
    replace hb := hb.trans (bk.mono hb.size)
    replace HI := Lib.hid (HI.out.step bk)
    replace c0 := (bk.cell (block_lt_of_cell c0)).trans c0
    replace c1 := (bk.cell (block_lt_of_cell c1)).trans c1
    clear bk
    go_wp2_with fail
    go_ret2
    exact ⟨by rw [HR.out.1, HR.out.2]; rfl, hb⟩
  · obtain ⟨j, hj, hj0⟩ := HM1.out
    have hbg' := hbg
    have hbd : ¬ (2 < zs.getD 0 0 ∨ (zs.getD 0 0 < 2 ∧ 39 < zs.getD 1 0) ∨ 1000000 < zs.getD 1 0) := hbg
    have hj2 : 2 ≤ j := by
      rcases Nat.lt_or_ge j 2 with h | h
      · have : j = 0 ∨ j = 1 := by omega
        rcases this with rfl | rfl <;> omega
      · exact h
    have HR := Lib.hid (oid_bad zs 13 (oid_big zs (by omega) hpos hbg (by omega) j hj2 (by omega) (by omega)) (by decide))
    have d20 : decide ((20 : Int) < (n : Int)) = false := by simp; omega
    have dmx : decide ((268435455 : Int) < maxU zs (n - 1)) = true := decide_eq_true hmx
    generalize minU zs (n - 1) = mn at *
    obtain ⟨z0, ez0⟩ : ∃ z0, zs.getD 0 0 = z0 := ⟨_, rfl⟩
    obtain ⟨z1, ez1⟩ : ∃ z1, zs.getD 1 0 = z1 := ⟨_, rfl⟩
    rw [ez0] at c0
    rw [ez1] at c1
    rw [ez0, ez1] at CB
    clear hz hn hm h2 hneg hbg hbg' hbd hpos hq HCS HMX HM1 ez0 ez1 hcap h20 hj hj0 hj2 hmx
    generalize maxU zs (n - 1) = mx at *
    go_enter Try.func25, Try.ntmps25
    go_wp2_with fail
    refine wp_region_toldg 17 56 [(Told.val (.slice (some ⟨g, off, none⟩) n c), [0]),
      (Told.val (.int .i64 (n : Int)), [7]),
      (Told.val (.bool false), [8]),
      (Told.val (.bool false), [9]),
      (Told.val (.slice (some ⟨g, off, none⟩) n c), [0]),
      (Told.val (.int .i64 mn), [11]),
      (Told.val (.bool false), [12]),
      (Told.val (.bool false), [10, 13]),
      (Told.val (.bool false), [14]),
      (Told.val (.slice (some ⟨g, off, none⟩) n c), [0]),
      (Told.val (.pointer (some ⟨g, off, none⟩)), [16]),
      (Told.val (.int .i64 z0), [17]),
      (Told.val (.slice (some ⟨g, off, none⟩) n c), [0]),
      (Told.val (.pointer (some ⟨g, off + 1, none⟩)), [19]),
      (Told.val (.int .i64 z1), [20]),
      (Told.val (.bool true), [18, 21]),
      (Told.val (.bool false), [22])]
      (by kernel_rfl) (by kernel_rfl) rfl (by simp [toldGuards, Told.val]) ?_ ?_
    · simp only [List.take_succ_cons, List.take_zero, toldObl, and_true]
      refine And.intro ?_ (And.intro ?_ (And.intro ?_ (And.intro ?_ (And.intro ?_ (And.intro ?_ (And.intro ?_ (And.intro ?_ (And.intro ?_ (And.intro ?_ (And.intro ?_ (And.intro ?_ (And.intro ?_ (And.intro ?_ (And.intro ?_ (And.intro ?_ (?_))))))))))))))))
      · intro a w hb h
        have e0 : a.tmps.getD 0 undef = .slice (some ⟨g, off, none⟩) n c := h 0 (by simp)
        simp only [Array.getD_eq_getD_getElem?] at e0
        refine told_q ?_
        simp [go_sem, e0, sQuiet]
      · intro a w hb h
        have e0 : a.tmps.getD 7 undef = .slice (some ⟨g, off, none⟩) n c := h 7 (by simp)
        simp only [Array.getD_eq_getD_getElem?] at e0
        refine told_q ?_
        simp [go_sem, e0, sQuiet]
      · intro a w hb h
        have e0 : a.tmps.getD 8 undef = .int .i64 (n : Int) := h 8 (by simp)
        simp only [Array.getD_eq_getD_getElem?] at e0
        refine told_q ?_
        simp [go_sem, e0, sQuiet, d2]
      · intro a w hb h
        have e0 : a.tmps.getD 9 undef = .bool false := h 9 (by simp)
        simp only [Array.getD_eq_getD_getElem?] at e0
        refine told_q ?_
        simp [go_sem, e0, sQuiet]
      · intro a w hb h
        have e0 : a.tmps.getD 0 undef = .slice (some ⟨g, off, none⟩) n c := h 0 (by simp)
        simp only [Array.getD_eq_getD_getElem?] at e0
        refine told_q ?_
        simp [go_sem, e0, sQuiet]
      · intro a w hb h
        have e0 : a.tmps.getD 11 undef = .slice (some ⟨g, off, none⟩) n c := h 11 (by simp)
        simp only [Array.getD_eq_getD_getElem?] at e0
        refine told_q ?_
        simp [go_sem, e0, sQuiet]
        exact CM.out _ (HI.out.step hb)
      · intro a w hb h
        have e0 : a.tmps.getD 12 undef = .int .i64 mn := h 12 (by simp)
        simp only [Array.getD_eq_getD_getElem?] at e0
        refine told_q ?_
        simp [go_sem, e0, sQuiet, d3]
      · intro a w hb h
        have e0 : a.tmps.getD 10 undef = .bool false := h 10 (by simp)
        have e1 : a.tmps.getD 13 undef = .bool false := h 13 (by simp)
        simp only [Array.getD_eq_getD_getElem?] at e0 e1
        refine told_q ?_
        simp [go_sem, e0, e1, sQuiet]
      · intro a w hb h
        have e0 : a.tmps.getD 14 undef = .bool false := h 14 (by simp)
        simp only [Array.getD_eq_getD_getElem?] at e0
        refine told_q ?_
        simp [go_sem, e0, sQuiet]
      · intro a w hb h
        have e0 : a.tmps.getD 0 undef = .slice (some ⟨g, off, none⟩) n c := h 0 (by simp)
        simp only [Array.getD_eq_getD_getElem?] at e0
        refine told_q ?_
        simp [go_sem, e0, sQuiet]
      · intro a w hb h
        have e0 : a.tmps.getD 16 undef = .slice (some ⟨g, off, none⟩) n c := h 16 (by simp)
        simp only [Array.getD_eq_getD_getElem?] at e0
        refine told_q ?_
        simp [go_sem, e0, sQuiet, i0, j0]
      · intro a w hb h
        have e0 : a.tmps.getD 17 undef = .pointer (some ⟨g, off, none⟩) := h 17 (by simp)
        simp only [Array.getD_eq_getD_getElem?] at e0
        have hc := (hb.cell (block_lt_of_cell c0)).trans c0
        refine told_q ?_
        simp [go_sem, e0, sQuiet, hc]
      · intro a w hb h
        have e0 : a.tmps.getD 0 undef = .slice (some ⟨g, off, none⟩) n c := h 0 (by simp)
        simp only [Array.getD_eq_getD_getElem?] at e0
        refine told_q ?_
        simp [go_sem, e0, sQuiet]
      · intro a w hb h
        have e0 : a.tmps.getD 19 undef = .slice (some ⟨g, off, none⟩) n c := h 19 (by simp)
        simp only [Array.getD_eq_getD_getElem?] at e0
        refine told_q ?_
        simp [go_sem, e0, sQuiet, i1, j1]
      · intro a w hb h
        have e0 : a.tmps.getD 20 undef = .pointer (some ⟨g, off + 1, none⟩) := h 20 (by simp)
        simp only [Array.getD_eq_getD_getElem?] at e0
        have hc := (hb.cell (block_lt_of_cell c1)).trans c1
        refine told_q ?_
        simp [go_sem, e0, sQuiet, hc]
      · intro a w hb h
        have e0 : a.tmps.getD 18 undef = .int .i64 z0 := h 18 (by simp)
        have e1 : a.tmps.getD 21 undef = .int .i64 z1 := h 21 (by simp)
        simp only [Array.getD_eq_getD_getElem?] at e0 e1
        refine told_q ?_
        simp [go_sem, e0, e1, sQuiet]
        exact CB.out _
      · intro a w hb h
        have e0 : a.tmps.getD 22 undef = .bool true := h 22 (by simp)
        simp only [Array.getD_eq_getD_getElem?] at e0
        refine told_q ?_
        simp [go_sem, e0, sQuiet]
    simp only [List.take_succ_cons, List.take_zero, List.drop_succ_cons, List.drop_zero, toldEnd, Act.put, List.setIfInBounds_toArray, List.set_cons_succ, List.set_cons_zero]
    rintro X bk v7 q7 v8 q8 v9 q9 v10 q10 v11 q11 v12 q12 v13 q13 v14 q14 v15 q15 v16 q16 v17 q17 v18 q18 v19 q19 v20 q20 v21 q21 v22 q22 v23 q23
    obtain rfl := q7.symm
    obtain rfl := q8.symm
    obtain rfl := q9.symm
    obtain rfl := q10.symm
    obtain rfl := q11.symm
    obtain rfl := q12.symm
    obtain rfl := q13.symm
    obtain rfl := q14.symm
    obtain rfl := q15.symm
    obtain rfl := q16.symm
    obtain rfl := q17.symm
    obtain rfl := q18.symm
    obtain rfl := q19.symm
    obtain rfl := q20.symm
    obtain rfl := q21.symm
    obtain rfl := q22.symm
    obtain rfl := q23.symm
    clear q7 q8 q9 q10 q11 q12 q13 q14 q15 q16 q17 q18 q19 q20 q21 q22 q23
    replace hb := hb.trans (bk.mono hb.size)
    replace HI := Lib.hid (HI.out.step bk)
    replace c0 := (bk.cell (block_lt_of_cell c0)).trans c0
    replace c1 := (bk.cell (block_lt_of_cell c1)).trans c1
    clear bk
    go_wp2_with fail
    refine (CX.out _ HI.out).mono ?_
    rintro e W2 ⟨rfl, bk⟩
    replace hb := hb.trans (bk.mono hb.size)
    clear bk CX
    go_wp2_with fail
    go_ret2
    exact ⟨by rw [HR.out.1, HR.out.2]; rfl, hb⟩
set_option maxHeartbeats 16000000 in
theorem oidD_any (ao : Option Addr) (n c : Nat) (zs : List Int) (w : World) (hn : zs.length = n) (hm : n ≤ 1000000) (hcap : n ≤ c) (hz : ∀ k, -9223372036854775808 ≤ zs.getD k 0 ∧ zs.getD k 0 ≤ 9223372036854775807) (hi : IntsAt w ao zs)
    (h2 : 2 ≤ n) (hneg : ¬ minU zs (n - 1) < 0) (hbg : ¬ oidBad zs) (h20 : n ≤ 20) (hmx : ¬ 268435455 < maxU zs (n - 1)) :
    Calls Try.prog 25 #[.slice ao n c] w fun e w' => e = .returned (.tuple #[.string (oidX zs), .int .i64 (oidErr zs)]) ∧ Below w.heap.size w w' := by
  have hb := Below.refl w.heap.size w
  have hpos : ∀ k, k < zs.length → 0 ≤ zs.getD k 0 := fun k hk => by have := minU_all zs (n - 1) k (by omega); omega
  have d2 : decide ((n : Int) < 2) = false := by simp; omega
  have d3 : decide (minU zs (n - 1) < 0) = false := decide_eq_false hneg
  have CM := Lib.hid (fun W hI => min_any ao n c zs W hn (by omega) hm hI)
  have CX := Lib.hid (fun W hI => max_any ao n c zs W hn (by omega) hm hI)
  have CB := Lib.hid (fun W => isBeginning_any (zs.getD 0 0) (zs.getD 1 0) W)
  have HI := Lib.hid hi
  obtain ⟨g, off, rfl, hcs⟩ := ints_at hi (by omega)
  have c0 := hcs 0 (by omega); have c1 := hcs 1 (by omega)
  rw [Nat.add_zero] at c0
  have HCS := Lib.hid hcs
  have i0 : (0 : Int) < (n : Int) := by omega
  have j0 : 0 < n := by omega
  have i1 : (1 : Int) < (n : Int) := by omega
  have j1 : 1 < n := by omega
  have p0 := hpos 0 (by omega); have p1 := hpos 1 (by omega)
  have HMX : Hid (∀ j, j < zs.length → zs.getD j 0 ≤ maxU zs (n - 1)) := Lib.hid (fun j hj => maxU_all zs (n - 1) j (by omega))
  have HM1 := Lib.hid (maxU_one zs (n - 1))
  clear hi hcs
  have hq : bgB (zs.getD 0 0) (zs.getD 1 0) = true := (bg_iff zs p1).2 hbg
  rw [hq] at CB
  have hbd : ¬ (2 < zs.getD 0 0 ∨ (zs.getD 0 0 < 2 ∧ 39 < zs.getD 1 0) ∨ 1000000 < zs.getD 1 0) := hbg
  have hsm : ∀ k, k < zs.length → zs.getD k 0 ≤ 268435455 := fun k hk => by have := HMX.out k hk; omega
  have hok := oid_ok zs (by omega) hpos hbg (by omega) (fun k _ hk => hsm k hk)
  have HR : Hid (oidX zs = ⟨(wrL ((6 : Nat) : Int) (oidB zs).size).toArray⟩ ++ oidB zs ∧ oidErr zs = 0) := Lib.hid ⟨by rw [oidX, if_pos hok, wrX, if_pos (oid_wr zs (by omega))]; rfl, hok⟩
  have hbs := oidB_size zs (by omega)
  have CE := Lib.hid (fun W => element_any 6 (oidB zs) W (by decide) (by omega))
  have d20 : decide ((20 : Int) < (n : Int)) = false := by simp; omega
  have dmx : decide ((268435455 : Int) < maxU zs (n - 1)) = false := decide_eq_false hmx
  have w40 : IntKind.i64.wrap (40 * zs.getD 0 0) = 40 * zs.getD 0 0 := by rw [IntKind.wrap_i64]; omega
  have u40 : IntKind.i64.wrap (40 * zs.getD 0 0 + zs.getD 1 0) = 40 * zs.getD 0 0 + zs.getD 1 0 := by rw [IntKind.wrap_i64]; omega
  have CG := Lib.hid (fun W => groups_any (40 * zs.getD 0 0 + zs.getD 1 0) W (by omega) (by omega))
  rw [grB_eq, ← oidP_two zs] at CG
  have HS := Lib.hid (fun k (h2k : 2 ≤ k) (hk : k < n) => oidP_succ zs k h2k (by omega))
  have HSZ := Lib.hid (fun k (h : k ≤ 20) => oidP_size zs k h)
  have HGZ := Lib.hid grB_size
  have HEND := Lib.hid (oidP_end zs)
  rw [hn] at HEND
  have CGZ := Lib.hid (fun k (hk : k < n) W => groups_any (zs.getD k 0) W (hpos k (by omega)) (hz k).2)
  have HNN := Lib.hid hn
  have hlow : (2 : Int) ≤ (n : Int) := by omega
  generalize minU zs (n - 1) = mn at *
  obtain ⟨z0, ez0⟩ : ∃ z0, zs.getD 0 0 = z0 := ⟨_, rfl⟩
  obtain ⟨z1, ez1⟩ : ∃ z1, zs.getD 1 0 = z1 := ⟨_, rfl⟩
  rw [ez0] at c0
  rw [ez1] at c1
  rw [ez0, ez1] at CB
  rw [ez0, ez1] at CG u40
  rw [ez0] at w40
  clear hz hm hneg hbg hbd hpos hq HMX HM1 ez0 ez1 hsm hok hbs hn p0 p1
  generalize maxU zs (n - 1) = mx at *
  generalize (⟨(wrL ((6 : Nat) : Int) (oidB zs).size).toArray⟩ ++ oidB zs : ByteArray) = ox at *
  obtain ⟨b2, eb2⟩ : ∃ b2, oidP zs 2 = b2 := ⟨_, rfl⟩
  rw [eb2] at CG
  have HB2 := Lib.hid eb2
  clear eb2
  go_enter Try.func25, Try.ntmps25
  go_wp2_with fail
  refine wp_region_toldg 17 56 [(Told.val (.slice (some ⟨g, off, none⟩) n c), [0]),
    (Told.val (.int .i64 (n : Int)), [7]),
    (Told.val (.bool false), [8]),
    (Told.val (.bool false), [9]),
    (Told.val (.slice (some ⟨g, off, none⟩) n c), [0]),
    (Told.val (.int .i64 mn), [11]),
    (Told.val (.bool false), [12]),
    (Told.val (.bool false), [10, 13]),
    (Told.val (.bool false), [14]),
    (Told.val (.slice (some ⟨g, off, none⟩) n c), [0]),
    (Told.val (.pointer (some ⟨g, off, none⟩)), [16]),
    (Told.val (.int .i64 z0), [17]),
    (Told.val (.slice (some ⟨g, off, none⟩) n c), [0]),
    (Told.val (.pointer (some ⟨g, off + 1, none⟩)), [19]),
    (Told.val (.int .i64 z1), [20]),
    (Told.val (.bool true), [18, 21]),
    (Told.val (.bool false), [22])]
    (by kernel_rfl) (by kernel_rfl) rfl (by simp [toldGuards, Told.val]) ?_ ?_
  · simp only [List.take_succ_cons, List.take_zero, toldObl, and_true]
    refine And.intro ?_ (And.intro ?_ (And.intro ?_ (And.intro ?_ (And.intro ?_ (And.intro ?_ (And.intro ?_ (And.intro ?_ (And.intro ?_ (And.intro ?_ (And.intro ?_ (And.intro ?_ (And.intro ?_ (And.intro ?_ (And.intro ?_ (And.intro ?_ (?_))))))))))))))))
    · intro a w hb h
      have e0 : a.tmps.getD 0 undef = .slice (some ⟨g, off, none⟩) n c := h 0 (by simp)
      simp only [Array.getD_eq_getD_getElem?] at e0
      refine told_q ?_
      simp [go_sem, e0, sQuiet]
    · intro a w hb h
      have e0 : a.tmps.getD 7 undef = .slice (some ⟨g, off, none⟩) n c := h 7 (by simp)
      simp only [Array.getD_eq_getD_getElem?] at e0
      refine told_q ?_
      simp [go_sem, e0, sQuiet]
    · intro a w hb h
      have e0 : a.tmps.getD 8 undef = .int .i64 (n : Int) := h 8 (by simp)
      simp only [Array.getD_eq_getD_getElem?] at e0
      refine told_q ?_
      simp [go_sem, e0, sQuiet, d2]
    · intro a w hb h
      have e0 : a.tmps.getD 9 undef = .bool false := h 9 (by simp)
      simp only [Array.getD_eq_getD_getElem?] at e0
      refine told_q ?_
      simp [go_sem, e0, sQuiet]
    · intro a w hb h
      have e0 : a.tmps.getD 0 undef = .slice (some ⟨g, off, none⟩) n c := h 0 (by simp)
      simp only [Array.getD_eq_getD_getElem?] at e0
      refine told_q ?_
      simp [go_sem, e0, sQuiet]
    · intro a w hb h
      have e0 : a.tmps.getD 11 undef = .slice (some ⟨g, off, none⟩) n c := h 11 (by simp)
      simp only [Array.getD_eq_getD_getElem?] at e0
      refine told_q ?_
      simp [go_sem, e0, sQuiet]
      exact CM.out _ (HI.out.step hb)
    · intro a w hb h
      have e0 : a.tmps.getD 12 undef = .int .i64 mn := h 12 (by simp)
      simp only [Array.getD_eq_getD_getElem?] at e0
      refine told_q ?_
      simp [go_sem, e0, sQuiet, d3]
    · intro a w hb h
      have e0 : a.tmps.getD 10 undef = .bool false := h 10 (by simp)
      have e1 : a.tmps.getD 13 undef = .bool false := h 13 (by simp)
      simp only [Array.getD_eq_getD_getElem?] at e0 e1
      refine told_q ?_
      simp [go_sem, e0, e1, sQuiet]
    · intro a w hb h
      have e0 : a.tmps.getD 14 undef = .bool false := h 14 (by simp)
      simp only [Array.getD_eq_getD_getElem?] at e0
      refine told_q ?_
      simp [go_sem, e0, sQuiet]
    · intro a w hb h
      have e0 : a.tmps.getD 0 undef = .slice (some ⟨g, off, none⟩) n c := h 0 (by simp)
      simp only [Array.getD_eq_getD_getElem?] at e0
      refine told_q ?_
      simp [go_sem, e0, sQuiet]
    · intro a w hb h
      have e0 : a.tmps.getD 16 undef = .slice (some ⟨g, off, none⟩) n c := h 16 (by simp)
      simp only [Array.getD_eq_getD_getElem?] at e0
      refine told_q ?_
      simp [go_sem, e0, sQuiet, i0, j0]
    · intro a w hb h
      have e0 : a.tmps.getD 17 undef = .pointer (some ⟨g, off, none⟩) := h 17 (by simp)
      simp only [Array.getD_eq_getD_getElem?] at e0
      have hc := (hb.cell (block_lt_of_cell c0)).trans c0
      refine told_q ?_
      simp [go_sem, e0, sQuiet, hc]
    · intro a w hb h
      have e0 : a.tmps.getD 0 undef = .slice (some ⟨g, off, none⟩) n c := h 0 (by simp)
      simp only [Array.getD_eq_getD_getElem?] at e0
      refine told_q ?_
      simp [go_sem, e0, sQuiet]
    · intro a w hb h
      have e0 : a.tmps.getD 19 undef = .slice (some ⟨g, off, none⟩) n c := h 19 (by simp)
      simp only [Array.getD_eq_getD_getElem?] at e0
      refine told_q ?_
      simp [go_sem, e0, sQuiet, i1, j1]
    · intro a w hb h
      have e0 : a.tmps.getD 20 undef = .pointer (some ⟨g, off + 1, none⟩) := h 20 (by simp)
      simp only [Array.getD_eq_getD_getElem?] at e0
      have hc := (hb.cell (block_lt_of_cell c1)).trans c1
      refine told_q ?_
      simp [go_sem, e0, sQuiet, hc]
    · intro a w hb h
      have e0 : a.tmps.getD 18 undef = .int .i64 z0 := h 18 (by simp)
      have e1 : a.tmps.getD 21 undef = .int .i64 z1 := h 21 (by simp)
      simp only [Array.getD_eq_getD_getElem?] at e0 e1
      refine told_q ?_
      simp [go_sem, e0, e1, sQuiet]
      exact CB.out _
    · intro a w hb h
      have e0 : a.tmps.getD 22 undef = .bool true := h 22 (by simp)
      simp only [Array.getD_eq_getD_getElem?] at e0
      refine told_q ?_
      simp [go_sem, e0, sQuiet]
  simp only [List.take_succ_cons, List.take_zero, List.drop_succ_cons, List.drop_zero, toldEnd, Act.put, List.setIfInBounds_toArray, List.set_cons_succ, List.set_cons_zero]
  rintro X bk v7 q7 v8 q8 v9 q9 v10 q10 v11 q11 v12 q12 v13 q13 v14 q14 v15 q15 v16 q16 v17 q17 v18 q18 v19 q19 v20 q20 v21 q21 v22 q22 v23 q23
  obtain rfl := q7.symm
  obtain rfl := q8.symm
  obtain rfl := q9.symm
  obtain rfl := q10.symm
  obtain rfl := q11.symm
  obtain rfl := q12.symm
  obtain rfl := q13.symm
  obtain rfl := q14.symm
  obtain rfl := q15.symm
  obtain rfl := q16.symm
  obtain rfl := q17.symm
  obtain rfl := q18.symm
  obtain rfl := q19.symm
  obtain rfl := q20.symm
  obtain rfl := q21.symm
  obtain rfl := q22.symm
  obtain rfl := q23.symm
  clear q7 q8 q9 q10 q11 q12 q13 q14 q15 q16 q17 q18 q19 q20 q21 q22 q23
  replace hb := hb.trans (bk.mono hb.size)
  replace HI := Lib.hid (HI.out.step bk)
  replace c0 := (bk.cell (block_lt_of_cell c0)).trans c0
  replace c1 := (bk.cell (block_lt_of_cell c1)).trans c1
  clear bk
  go_wp2_with fail
  refine (CX.out _ HI.out).mono ?_
  rintro e W2 ⟨rfl, bk⟩
  replace hb := hb.trans (bk.mono hb.size)
  replace HI := Lib.hid (HI.out.step bk)
  replace c0 := (bk.cell (block_lt_of_cell c0)).trans c0
  replace c1 := (bk.cell (block_lt_of_cell c1)).trans c1
  clear bk CX
  go_wp2_with fail
  refine wp_region_told 9 56 [(Told.val (.slice (some ⟨g, off, none⟩) n c), [0]),
    (Told.val (.pointer (some ⟨g, off, none⟩)), [33]),
    (Told.val (.int .i64 z0), [34]),
    (Told.val (.int .i64 (40 * z0)), [35]),
    (Told.val (.slice (some ⟨g, off, none⟩) n c), [0]),
    (Told.val (.pointer (some ⟨g, off + 1, none⟩)), [37]),
    (Told.val (.int .i64 z1), [38]),
    (Told.val (.int .i64 (40 * z0 + z1)), [36, 39]),
    (Told.val (.string b2), [40])]
    (by kernel_rfl) (by kernel_rfl) rfl ?_ ?_
  · simp only [List.take_succ_cons, List.take_zero, toldObl, and_true]
    refine And.intro ?_ (And.intro ?_ (And.intro ?_ (And.intro ?_ (And.intro ?_ (And.intro ?_ (And.intro ?_ (And.intro ?_ (?_))))))))
    · intro a w hb h
      have e0 : a.tmps.getD 0 undef = .slice (some ⟨g, off, none⟩) n c := h 0 (by simp)
      simp only [Array.getD_eq_getD_getElem?] at e0
      refine told_q ?_
      simp [go_sem, e0, sQuiet]
    · intro a w hb h
      have e0 : a.tmps.getD 33 undef = .slice (some ⟨g, off, none⟩) n c := h 33 (by simp)
      simp only [Array.getD_eq_getD_getElem?] at e0
      refine told_q ?_
      simp [go_sem, e0, sQuiet, i0, j0]
    · intro a w hb h
      have e0 : a.tmps.getD 34 undef = .pointer (some ⟨g, off, none⟩) := h 34 (by simp)
      simp only [Array.getD_eq_getD_getElem?] at e0
      have hc := (hb.cell (block_lt_of_cell c0)).trans c0
      refine told_q ?_
      simp [go_sem, e0, sQuiet, hc]
    · intro a w hb h
      have e0 : a.tmps.getD 35 undef = .int .i64 z0 := h 35 (by simp)
      simp only [Array.getD_eq_getD_getElem?] at e0
      refine told_q ?_
      simp [go_sem, e0, sQuiet, w40]
    · intro a w hb h
      have e0 : a.tmps.getD 0 undef = .slice (some ⟨g, off, none⟩) n c := h 0 (by simp)
      simp only [Array.getD_eq_getD_getElem?] at e0
      refine told_q ?_
      simp [go_sem, e0, sQuiet]
    · intro a w hb h
      have e0 : a.tmps.getD 37 undef = .slice (some ⟨g, off, none⟩) n c := h 37 (by simp)
      simp only [Array.getD_eq_getD_getElem?] at e0
      refine told_q ?_
      simp [go_sem, e0, sQuiet, i1, j1]
    · intro a w hb h
      have e0 : a.tmps.getD 38 undef = .pointer (some ⟨g, off + 1, none⟩) := h 38 (by simp)
      simp only [Array.getD_eq_getD_getElem?] at e0
      have hc := (hb.cell (block_lt_of_cell c1)).trans c1
      refine told_q ?_
      simp [go_sem, e0, sQuiet, hc]
    · intro a w hb h
      have e0 : a.tmps.getD 36 undef = .int .i64 (40 * z0) := h 36 (by simp)
      have e1 : a.tmps.getD 39 undef = .int .i64 z1 := h 39 (by simp)
      simp only [Array.getD_eq_getD_getElem?] at e0 e1
      refine told_q ?_
      simp [go_sem, e0, e1, sQuiet, u40]
    · intro a w hb h
      have e0 : a.tmps.getD 40 undef = .int .i64 (40 * z0 + z1) := h 40 (by simp)
      simp only [Array.getD_eq_getD_getElem?] at e0
      refine told_q ?_
      simp [go_sem, e0, sQuiet]
      exact CG.out _
  simp only [List.take_succ_cons, List.take_zero, List.drop_succ_cons, List.drop_zero, toldEnd, Act.put, List.setIfInBounds_toArray, List.set_cons_succ, List.set_cons_zero]
  rintro X bk v33 q33 v34 q34 v35 q35 v36 q36 v37 q37 v38 q38 v39 q39 v40 q40 v41 q41
  obtain rfl := q33.symm
  obtain rfl := q34.symm
  obtain rfl := q35.symm
  obtain rfl := q36.symm
  obtain rfl := q37.symm
  obtain rfl := q38.symm
  obtain rfl := q39.symm
  obtain rfl := q40.symm
  obtain rfl := q41.symm
  clear q33 q34 q35 q36 q37 q38 q39 q40 q41
  replace hb := hb.trans (bk.mono hb.size)
  clear bk c0 c1 w40 u40 CG CB CM i0 j0 i1 j1 d2 d3 d20 dmx HI hmx
  by_cases hc2 : c = 2
  · have hn2 : n = 2 := by omega
    subst hc2
    subst hn2
    clear HCS CGZ HS HSZ HGZ hcap h2 h20
    rw [HB2.out] at HEND
    have e2 := HEND.out
    go_wp2_with fail
    go_loopw [4, 45] (fun bv iv wr => bv = .string b2 ∧ iv = .int .i64 0 ∧ Below w.heap.size w wr) (fun _ _ _ => 0)
    case atStart => exact ⟨rfl, rfl, hb⟩
    case round =>
      clear hb
      obtain ⟨rfl, rfl, hb⟩ := hrel
      subst e2
      go_wp2_with fail
      refine (CE.out _).mono ?_
      rintro e W4 ⟨rfl, bk⟩
      replace hb := hb.trans (bk.mono hb.size)
      clear bk
      go_wp2_with fail
      go_ret2
      exact ⟨by rw [HR.out.1, HR.out.2]; rfl, hb⟩
  · obtain ⟨r, hr⟩ : ∃ r, n - 2 = r := ⟨_, rfl⟩
    have HNR : Hid (n = r + 2) := Lib.hid (by omega)
    have HH20 : Hid (r + 2 ≤ 20) := Lib.hid (by omega)
    have hr18 : r ≤ 18 := by omega
    clear h2 h20 hcap
    go_wp2_with fail
    clear hr hlow
    rw [HNR.out] at HNN HEND
    have hB := hb.size
    generalize hBB : w.heap.size = B at *
    have HBB := Lib.hid hBB
    clear hBB
    go_loopw [4, 6, 45] (fun bv nv iv wr => ∃ j : Nat, j ≤ r ∧ bv = .string (oidP zs (j + 2)) ∧ iv = .int .i64 (j : Int) ∧ Below B w wr ∧ B ≤ wr.heap.size) (fun _ _ iv _ => r - (intOf iv).toNat)
    case atStart => exact ⟨0, by omega, by rw [HB2.out], rfl, hb, hB⟩
    case round =>
      clear hB
      obtain ⟨j, hj, rfl, rfl, hb', hB⟩ := hrel
      by_cases hlt : j < r
      · have hd : decide ((j : Int) < (r : Int)) = true := by simp; omega
        have hjr : (j : Int) < (r : Int) := by omega
        have ck0 := HCS.out (j + 2) (by rw [HNN.out]; omega)
        rw [show off + (j + 2) = off + 2 + j by omega] at ck0
        have ck := (hb'.cell (HBB.out ▸ block_lt_of_cell ck0)).trans ck0
        have CK := Lib.hid (fun W => CGZ.out (j + 2) (by rw [HNR.out]; omega) W)
        rw [grB_eq] at CK
        have hs := HS.out (j + 2) (by omega) (by rw [HNR.out]; omega)
        have h20 := HH20.out
        have z1 := HSZ.out (j + 2) (by omega)
        have z2 := HGZ.out (zs.getD (j + 2) 0)
        have ksz : (oidP zs (j + 2)).size + (grB (zs.getD (j + 2) 0)).size ≤ 9223372036854775807 := by omega
        have HSS := Lib.hid hs
        clear ck0 hs z1 z2 h20 hb
        generalize grB (zs.getD (j + 2) 0) = gz at *
        generalize zs.getD (j + 2) 0 = z at *
        obtain ⟨bj, ebj⟩ : ∃ bj, oidP zs (j + 2) = bj := ⟨_, rfl⟩
        rw [ebj] at HSS ksz
        simp only [ebj]
        clear ebj
        go_wp2_with fail
        refine (CK.out _).mono ?_
        rintro e W5 ⟨rfl, bk⟩
        replace hb' := hb'.trans (bk.mono hB)
        replace hB := Nat.le_trans hB bk.size
        clear bk CK ck
        go_wp2_with fail
        go_roundw
        case rel => exact ⟨j + 1, by omega, by rw [show j + 1 + 2 = j + 2 + 1 by omega, HSS.out], by go_num, hb', hB⟩
        case measure => simp [intOf]; omega
      · have hd : decide ((j : Int) < (r : Int)) = false := by simp; omega
        obtain rfl : j = r := by omega
        rw [HEND.out]
        clear hb
        go_wp2_with fail
        refine (CE.out _).mono ?_
        rintro e W4 ⟨rfl, bk⟩
        replace hb' := hb'.trans (bk.mono hB)
        clear bk
        go_wp2_with fail
        go_ret2
        exact ⟨by rw [HR.out.1, HR.out.2]; rfl, by rw [HBB.out]; exact hb'⟩
theorem oid_any (ao : Option Addr) (n c : Nat) (zs : List Int) (w : World) (hn : zs.length = n) (hm : n ≤ 1000000) (hcap : n ≤ c) (hz : ∀ k, -9223372036854775808 ≤ zs.getD k 0 ∧ zs.getD k 0 ≤ 9223372036854775807) (hi : IntsAt w ao zs) :
    Calls Try.prog 25 #[.slice ao n c] w fun e w' => e = .returned (.tuple #[.string (oidX zs), .int .i64 (oidErr zs)]) ∧ Below w.heap.size w w' := by
  by_cases h2 : n < 2
  · exact oidA_any ao n c zs w hn hm hz hi (.inl h2)
  by_cases hneg : minU zs (n - 1) < 0
  · exact oidA_any ao n c zs w hn hm hz hi (.inr ⟨by omega, hneg⟩)
  by_cases hbg : oidBad zs
  · exact oidB_any ao n c zs w hn hm hcap hz hi (by omega) hneg hbg
  by_cases h20 : n ≤ 20
  · by_cases hmx : 268435455 < maxU zs (n - 1)
    · exact oidC_any ao n c zs w hn hm hcap hz hi (by omega) hneg hbg (.inr ⟨h20, hmx⟩)
    · exact oidD_any ao n c zs w hn hm hcap hz hi (by omega) hneg hbg h20 hmx
  · exact oidC_any ao n c zs w hn hm hcap hz hi (by omega) hneg hbg (.inl (by omega))
end Go.Proofs.Ytimokmhgpigliaa
