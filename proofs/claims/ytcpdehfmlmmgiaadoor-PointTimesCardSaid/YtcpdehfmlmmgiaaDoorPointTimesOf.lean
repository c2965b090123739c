/- PointTimes, whatever the program's points are. -/
import Derived.Test.YtcpdehfmlmmgiaaDoorPtSmall
import Derived.Test.YtcpdehfmlmmgiaaDoorToldLate
import Derived.Test.YtcpdehfmlmmgiaaDoorPart
namespace Go.Proofs.YtcpdehfmlmmgiaaDoor
open Go.RowKit Go.Sort
set_option maxRecDepth 100000
set_option linter.unusedSimpArgs false
set_option linter.unusedVariables false

theorem nought_bits (i : Nat) : bitP (leF 0 32) i = 0 := by
  have h : leF 0 32 = List.replicate 32 0 := by decide +kernel
  have h2 : ∀ n j : Nat, (List.replicate n (0 : UInt8)).getD j 0 = 0 := fun n j => by
    rw [List.getD_eq_getElem?_getD, List.getElem?_replicate]
    split <;> rfl
  rw [bitP, h, h2]
  simp
theorem nought_times (p : PtN) : txtP (mulPT p (smT 0)) = smT 1 ∧ mulET (smT 0) = 0 := by
  rw [mulPT, mulET, if_pos (smT_size 0), if_pos (smT_size 0)]
  refine ⟨?_, rfl⟩
  rw [txtP, show (smT 0).data.toList = leF 0 32 from rfl, no_time_bytes p _ nought_bits]
  rfl
theorem times_bad (p : PtN) (n : ByteArray) (h : n.size ≠ 32) : txtP (mulPT p n) = smT 1 ∧ mulET n = 1 := by
  rw [mulPT, mulET, if_neg h, if_neg h]
  exact ⟨by rw [txtP, zero_bytes]; rfl, rfl⟩
theorem times_ok (n : ByteArray) (h : n.size = 32) : mulET n = 0 := by rw [mulET, if_pos h]
/-- A point and a number of a call's answer. -/
def tTup (IsPt : Array Value → PtN → Prop) (p : PtN) (q : Int) : Told := ⟨fun _ v => ∃ cs, v = .tuple #[.agg cs, .int .i64 q] ∧ IsPt cs p, fun _ _ _ _ h => h⟩
/-- A block that was made behind all that was there, and the pointer to it. -/
def tNew (z : Array Value) (B : Nat) : Told := ⟨fun w v => ∃ g, v = .pointer (some ⟨g, 0, none⟩) ∧ B ≤ g ∧ w.heap[g]? = some (.cells z 28), fun w w' v hb ⟨g, h1, h2, h3⟩ => ⟨g, h1, h2, blk_below hb (blk_lt h3) h3⟩⟩
theorem run_store_laid {w : World} {a : Act} {o : Oper} (x y : Operand) (ho : o.op = .store 28 x y) (g : Nat) (cs z : Array Value) (hx : a.eval x = .pointer (some ⟨g, 0, none⟩)) (hy : a.eval y = .agg cs) (hg : w.heap[g]? = some (.cells z 28))
    (hi : (Tryd.prog.info? 28).map (·.size) = some cs.size) (hz : z.size = cs.size) (h1 : cs.all (·.oneCell') = true) : (execOp a.eval o).run Tryd.prog w = .ok .skip (w.setRow g cs) := by
  have hl : (setMany z 0 cs.toList) = cs := by
    apply Array.ext_getElem?
    intro i
    rw [setMany_get _ _ _ _ (by simp; omega)]
    by_cases hi : i < cs.size
    · rw [if_pos (by simp; omega), Nat.sub_zero, Array.getElem?_toList]
    · rw [if_neg (by simp; omega), Array.getElem?_eq_none (by omega), Array.getElem?_eq_none (by omega)]
  have hst := run_storeVar_part w g 0 28 28 z cs hg hi (by omega) h1
  rw [hl] at hst
  unfold execOp
  simp only [ho, hx, hy, Instr.storeAt, Instr.sureAddr, Sem.run_bind, Sem.run_pure, Result.andThen_ok, hst]
theorem tupOf {IsPt : Array Value → PtN → Prop} {P : Program} {f : Nat} {args : Array Value} {w : World} {p : PtN} {q : Int} (h : Calls P f args w fun e w' => (∃ es, e = .returned (.tuple #[.agg es, .int .i64 q]) ∧ IsPt es p) ∧ Below w.heap.size w w') : Calls P f args w (fun e w'' => ∃ v, e = .returned v ∧ (tTup IsPt p q).T w'' v ∧ Below w.heap.size w w'') :=
  h.mono fun e w'' ⟨⟨es, h1, h2⟩, h3⟩ => ⟨_, h1, ⟨es, rfl, h2⟩, h3⟩

set_option maxHeartbeats 8000000 in
theorem pointTimes_of {IsPt : Array Value → PtN → Prop} {zv : Array Value} {N : Nat} (C : PtCalls IsPt zv N) (HA : ∀ W : World, PrmQ W → Calls Tryd.prog 15 #[] W fun e w' => e = .returned (.bool true) ∧ Below W.heap.size W w') (s : ByteArray) (n : ByteArray) (w : World) (hT : PrmQ w) :
    Calls Tryd.prog 7 #[.string s, .string n] w fun e w' => e = .returned (.bool true) ∧ Below w.heap.size w w' := by
  have CO := Lib.hid (C.of s)
  generalize ofPT s = p at *
  generalize ofET s = q at *
  have hzP := (zero_of_info C.info).1
  have hzR := (zero_of_info infoR).1
  have HP := Lib.hid hT
  have hb := Below.refl w.heap.size w
  have hgl := HP.out.lt
  have HAw := Lib.hid HA
  clear hT HA
  go_enter Tryd.func7, Tryd.ntmps7
  go_wp2_with fail
  refine (CO.out w HP.out).mono ?_
  rintro e W1 ⟨⟨cs, rfl, hcs⟩, bk⟩
  have Hcs := Lib.hid hcs
  clear hcs
  replace hb := hb.trans (bk.mono hb.size)
  replace HP := Lib.hid (HP.out.step bk)
  clear bk
  by_cases hq0 : q = 0
  · have nz : (q != 0) = false := by simp [hq0]
    clear hq0
    have HN := Lib.hid (blk_new W1 (.cells zv 28))
    have bn := below_new W1 (.cells zv 28)
    have Scs := Lib.hid (C.isz Hcs.out); have Ocs := Lib.hid (C.zsz Hcs.out); have Ics := Lib.hid (C.one _ _ Hcs.out)
    have Bcs := Lib.hid (setRow_heap _ W1.heap.size _ cs _ _ HN.out)
    have bk := below_setRow bn (Nat.le_refl _) cs
    go_wp2_with (first
      | (with_reducible refine wpList_store_row rfl 28 _ _ rfl W1.heap.size cs rfl rfl 28 _ HN.out Scs.out Ocs.out Ics.out ?_)
      | (with_reducible refine wpList_load_row rfl 28 _ rfl W1.heap.size rfl 28 _ (0, 0) _ Bcs.out Tryd.underlying28 rfl Scs.out ?_))
    have hg1 := hb.size
    replace hb := hb.trans (bk.mono hb.size)
    replace HP := Lib.hid (HP.out.step bk)
    clear bk
    generalize (World.setRow (World.alloc _ _) _ _) = V2 at *
    generalize W1.heap.size = g1 at *
    clear bn HN
    have CM := Lib.hid (fun W h hT => C.mul cs p n W h hT)
    have CM0 := Lib.hid (fun W h hT => C.mul cs p (smT 0) W h hT)
    obtain ⟨z1, z2⟩ := nought_times p
    rw [z2] at CM0
    have CB0 := Lib.hid (fun ds W h hT => C.bytes ds (mulPT p (smT 0)) W h hT)
    rw [z1] at CB0
    have CB := Lib.hid (fun ds W h hT => C.bytes ds (mulPT p n) W h hT)
    have hsz := txtP_size (mulPT p n)
    have hbad := times_bad p n
    have S0 := Lib.hid (fun W => small11_any 0 W (by decide))
    have S1 := Lib.hid (fun W => small11_any 1 W (by decide))
    generalize mulPT p (smT 0) = pz at *
    generalize mulPT p n = pn at *
    generalize smT 0 = s0 at *
    generalize smT 1 = s1 at *
    generalize txtP pn = tn at *
    have xs : (s1.toList == s1.toList) = true := by simp
    have HBad := Lib.hid hbad
    clear hbad z1 z2
    refine (CM.out V2 Hcs.out HP.out).mono ?_
    rintro e W3 ⟨⟨es, rfl, hes⟩, bk⟩
    have Hes := Lib.hid hes
    clear hes
    replace hb := hb.trans (bk.mono hb.size)
    replace HP := Lib.hid (HP.out.step bk)
    replace Bcs := Lib.hid (blk_below bk (blk_lt Bcs.out) Bcs.out)
    clear bk
    have HN := Lib.hid (blk_new W3 (.cells zv 28))
    have bn := below_new W3 (.cells zv 28)
    have Ses := Lib.hid (C.isz Hes.out); have Oes := Lib.hid (C.zsz Hes.out); have Ies := Lib.hid (C.one _ _ Hes.out)
    go_wp2_with (with_reducible refine wpList_store_row rfl 28 _ _ rfl W3.heap.size es rfl rfl 28 _ HN.out Ses.out Oes.out Ies.out ?_)
    have Bes := Lib.hid (setRow_heap _ W3.heap.size _ es _ _ HN.out)
    have bk := below_setRow bn (Nat.le_refl _) es
    have hg2 := hb.size
    replace hb := hb.trans (bk.mono hb.size)
    replace HP := Lib.hid (HP.out.step bk)
    replace Bcs := Lib.hid (blk_below bk (blk_lt Bcs.out) Bcs.out)
    clear bk
    generalize (World.setRow (World.alloc _ _) _ _) = V4 at *
    generalize W3.heap.size = g2 at *
    clear bn HN
    refine wp_region_told_late 7 5 64 [9, 29] [(Told.val (.agg cs), [5]), (Told.val (.string s0), []), (tTup IsPt pz 0, [26, 27]), (tTup IsPt pz 0, [28]), (tIs IsPt pz, [25]), (Told.val (.int .i64 0), [25]), (tNew zv V4.heap.size, [])]
      _ rfl (by kernel_rfl) (by kernel_rfl) rfl (by simp [toldGuards]) ?_ ?_ ?_ ?_ ?_
    · intro k hk o ho
      simp at ho
      subst ho
      rcases List.mem_cons.1 hk with rfl | hk
      · decide
      · rcases List.mem_cons.1 hk with rfl | hk
        · decide
        · cases hk
    · simp only [List.take_succ_cons, List.take_zero, toldObl, and_true]
      refine ⟨?_, ?_, ?_, ?_, ?_, ?_, ?_⟩
      · intro a w hb h
        have e0 : a.tmps.getD 5 undef = .pointer (some ⟨g1, 0, none⟩) := h 5 (by simp)
        exact told_of_sQuiet (sQuiet_load_row 28 (.tmp 5) rfl g1 e0 28 _ (0, 0) _ (blk_below hb (blk_lt Bcs.out) Bcs.out) Tryd.underlying28 rfl Scs.out)
      · intro a w hb h
        simp [go_sem, toldQuiet]
        exact valOf (S0.out w)
      · intro a w hb h
        have e0 : a.tmps.getD 26 undef = .agg cs := h 26 (by simp)
        have e1 : a.tmps.getD 27 undef = .string s0 := h 27 (by simp)
        simp only [Array.getD_eq_getD_getElem?] at e0 e1
        simp [go_sem, e0, e1, toldQuiet]
        exact tupOf (CM0.out w Hcs.out (HP.out.step hb))
      · intro a w hb h
        obtain ⟨u0, e0, f0⟩ : ∃ cs, a.tmps.getD 28 undef = .tuple #[.agg cs, .int .i64 0] ∧ IsPt cs pz := h 28 (by simp)
        simp only [Array.getD_eq_getD_getElem?] at e0
        simp [go_sem, e0, toldQuiet]
        exact ⟨Below.refl _ _, u0, rfl, f0⟩
      · intro a w hb h
        obtain ⟨u0, e0, f0⟩ : ∃ cs, a.tmps.getD 25 undef = .tuple #[.agg cs, .int .i64 0] ∧ IsPt cs pz := h 25 (by simp)
        simp only [Array.getD_eq_getD_getElem?] at e0
        simp [go_sem, e0, toldQuiet]
        exact ⟨Below.refl _ _, u0, rfl, f0⟩
      · intro a w hb h
        obtain ⟨u0, e0, f0⟩ : ∃ cs, a.tmps.getD 25 undef = .tuple #[.agg cs, .int .i64 0] ∧ IsPt cs pz := h 25 (by simp)
        simp only [Array.getD_eq_getD_getElem?] at e0
        simp [go_sem, e0, toldQuiet, Told.val]
        exact Below.refl _ _
      · intro a w hb h
        simp [go_sem, hzP, toldQuiet]
        exact ⟨below_new w _, w.heap.size, rfl, hb.size, blk_new w _⟩
    · intro o s ho hs a w h
      simp at ho hs
      subst ho hs
      obtain ⟨u0, e0, f0⟩ : ∃ cs, a.tmps.getD 25 undef = .tuple #[.agg cs, .int .i64 0] ∧ IsPt cs pz := h 25 (by simp)
      simp only [Array.getD_eq_getD_getElem?] at e0
      refine ⟨.int .i64 0, by simp [go_sem, e0], fun w1 => rfl⟩
    · intro s hs k hk t ht
      simp at hs
      subst hs
      obtain rfl : k = 25 := by simpa using hk
      have : t = tTup IsPt pz 0 := by simpa [toldGet] using ht.symm
      subst this
      exact fun _ _ _ h => h
    intro V1 bk
    simp only [List.take_succ_cons, List.take_zero, List.drop_succ_cons, List.drop_zero, toldEndS, Act.put, List.setIfInBounds_toArray, List.set_cons_succ, List.set_cons_zero]
    rintro v26 q26 v27 q27 v28 q28 v25 q25 _ ⟨zs, rfl, hzs⟩ v30 q30 _ ⟨g3, rfl, hg3, hz3⟩
    obtain rfl := q30.symm
    have Szs := Lib.hid (C.isz hzs); have Ozs := Lib.hid (C.zsz hzs); have Izs := Lib.hid (C.one _ _ hzs)
    have hbq := below_setRow bk hg3 zs
    refine ⟨V1.setRow g3 zs, hbq, fun a' ha' => ?_, ?_⟩
    · have e9 : a'.tmps.getD 9 undef = .pointer (some ⟨g3, 0, none⟩) := ha' 9 (by simp)
      have e29 : a'.tmps.getD 29 undef = .agg zs := ha' 29 (by simp)
      exact run_store_laid (.tmp 9) (.tmp 29) rfl g3 zs zv e9 e29 hz3 Szs.out Ozs.out Izs.out
    have Hzs := Lib.hid hzs
    have Bzs := Lib.hid (setRow_heap V1 g3 _ zs _ _ hz3)
    clear q26 q27 q28 q25 q30 hzs hz3 hg3 Szs Ozs Izs
    replace hb := hb.trans (hbq.mono hb.size)
    replace HP := Lib.hid (HP.out.step hbq)
    replace Bcs := Lib.hid (blk_below hbq (blk_lt Bcs.out) Bcs.out)
    replace Bes := Lib.hid (blk_below hbq (blk_lt Bes.out) Bes.out)
    clear hbq bk
    generalize V1.setRow g3 zs = V2 at *
    have SZ := Lib.hid (C.isz Hzs.out)
    go_wp2_with (first
      | (with_reducible refine wpList_load_row rfl 28 _ rfl g3 rfl 28 _ (0, 0) _ Bzs.out Tryd.underlying28 rfl SZ.out ?_)
      | ((with_reducible refine wpList_load_want ?hw 28 _ rfl g3 rfl 28 _ (0, 0) _ Bzs.out Tryd.underlying28 rfl SZ.out ?_); (case hw => rfl)))
    refine (CB0.out zs V2 Hzs.out HP.out).mono ?_
    rintro e W6 ⟨rfl, bk⟩
    replace hb := hb.trans (bk.mono hb.size)
    replace HP := Lib.hid (HP.out.step bk)
    replace Bcs := Lib.hid (blk_below bk (blk_lt Bcs.out) Bcs.out)
    replace Bes := Lib.hid (blk_below bk (blk_lt Bes.out) Bes.out)
    replace Bzs := Lib.hid (blk_below bk (blk_lt Bzs.out) Bzs.out)
    clear bk
    go_wp2_with fail
    by_cases hn : n.size = 32
    · have hq := times_ok n hn
      have hd : ((n.size : Int) != 32) = false := by simp [hn]
      have ht : ((tn.size : Int) == 32) = true := by rw [hsz]; rfl
      rw [hq] at *
      clear hq hn hsz
      refine (S1.out W6).mono ?_
      rintro e W7 ⟨rfl, bk⟩
      replace hb := hb.trans (bk.mono hb.size)
      replace HP := Lib.hid (HP.out.step bk)
      replace Bcs := Lib.hid (blk_below bk (blk_lt Bcs.out) Bcs.out)
      replace Bes := Lib.hid (blk_below bk (blk_lt Bes.out) Bes.out)
      replace Bzs := Lib.hid (blk_below bk (blk_lt Bzs.out) Bzs.out)
      clear bk
      go_wp2_with (first
        | (with_reducible refine wpList_load_row rfl 28 _ rfl g2 rfl 28 _ (0, 0) _ Bes.out Tryd.underlying28 rfl Ses.out ?_)
        | ((with_reducible refine wpList_load_want ?hw 28 _ rfl g2 rfl 28 _ (0, 0) _ Bes.out Tryd.underlying28 rfl Ses.out ?_); (case hw => rfl)))
      refine (CB.out es W7 Hes.out HP.out).mono ?_
      rintro e W8 ⟨rfl, bk⟩
      replace hb := hb.trans (bk.mono hb.size)
      replace HP := Lib.hid (HP.out.step bk)
      replace Bcs := Lib.hid (blk_below bk (blk_lt Bcs.out) Bcs.out)
      replace Bes := Lib.hid (blk_below bk (blk_lt Bes.out) Bes.out)
      replace Bzs := Lib.hid (blk_below bk (blk_lt Bzs.out) Bzs.out)
      clear bk
      go_wp2_with fail
      refine (HAw.out W8 HP.out).mono ?_
      rintro e W9 ⟨rfl, bk⟩
      replace hb := hb.trans (bk.mono hb.size)
      replace HP := Lib.hid (HP.out.step bk)
      replace Bcs := Lib.hid (blk_below bk (blk_lt Bcs.out) Bcs.out)
      replace Bes := Lib.hid (blk_below bk (blk_lt Bes.out) Bes.out)
      replace Bzs := Lib.hid (blk_below bk (blk_lt Bzs.out) Bzs.out)
      clear bk
      go_wp2_with fail
      go_ret
      exact ⟨rfl, hb⟩
    · obtain ⟨hx, hq⟩ := HBad.out hn
      have hd : ((n.size : Int) != 32) = true := by simp; omega
      rw [hq] at *
      rw [hx] at CB
      clear hq hn hsz hx
      refine (S1.out W6).mono ?_
      rintro e W7 ⟨rfl, bk⟩
      replace hb := hb.trans (bk.mono hb.size)
      replace HP := Lib.hid (HP.out.step bk)
      replace Bcs := Lib.hid (blk_below bk (blk_lt Bcs.out) Bcs.out)
      replace Bes := Lib.hid (blk_below bk (blk_lt Bes.out) Bes.out)
      replace Bzs := Lib.hid (blk_below bk (blk_lt Bzs.out) Bzs.out)
      clear bk
      go_wp2_with (first
        | (with_reducible refine wpList_load_row rfl 28 _ rfl g2 rfl 28 _ (0, 0) _ Bes.out Tryd.underlying28 rfl Ses.out ?_)
        | ((with_reducible refine wpList_load_want ?hw 28 _ rfl g2 rfl 28 _ (0, 0) _ Bes.out Tryd.underlying28 rfl Ses.out ?_); (case hw => rfl)))
      refine (CB.out es W7 Hes.out HP.out).mono ?_
      rintro e W8 ⟨rfl, bk⟩
      replace hb := hb.trans (bk.mono hb.size)
      replace HP := Lib.hid (HP.out.step bk)
      replace Bcs := Lib.hid (blk_below bk (blk_lt Bcs.out) Bcs.out)
      replace Bes := Lib.hid (blk_below bk (blk_lt Bes.out) Bes.out)
      replace Bzs := Lib.hid (blk_below bk (blk_lt Bzs.out) Bzs.out)
      clear bk
      go_wp2_with fail
      refine (S1.out W8).mono ?_
      rintro e W9 ⟨rfl, bk⟩
      replace hb := hb.trans (bk.mono hb.size)
      replace HP := Lib.hid (HP.out.step bk)
      replace Bcs := Lib.hid (blk_below bk (blk_lt Bcs.out) Bcs.out)
      replace Bes := Lib.hid (blk_below bk (blk_lt Bes.out) Bes.out)
      replace Bzs := Lib.hid (blk_below bk (blk_lt Bzs.out) Bzs.out)
      clear bk
      go_wp2_with fail
      refine (HAw.out W9 HP.out).mono ?_
      rintro e W10 ⟨rfl, bk⟩
      replace hb := hb.trans (bk.mono hb.size)
      replace HP := Lib.hid (HP.out.step bk)
      replace Bcs := Lib.hid (blk_below bk (blk_lt Bcs.out) Bcs.out)
      replace Bes := Lib.hid (blk_below bk (blk_lt Bes.out) Bes.out)
      replace Bzs := Lib.hid (blk_below bk (blk_lt Bzs.out) Bzs.out)
      clear bk
      go_wp2_with fail
      go_ret
      exact ⟨rfl, hb⟩
  · have nz : (q != 0) = true := by simp; exact hq0
    clear hq0
    have HN := Lib.hid (blk_new W1 (.cells zv 28))
    have bn := below_new W1 (.cells zv 28)
    have Scs := Lib.hid (C.isz Hcs.out); have Ocs := Lib.hid (C.zsz Hcs.out); have Ics := Lib.hid (C.one _ _ Hcs.out)
    go_wp2_with (with_reducible refine wpList_store_row rfl 28 _ _ rfl W1.heap.size cs rfl rfl 28 _ HN.out Scs.out Ocs.out Ics.out ?_)
    have Bcs := Lib.hid (setRow_heap _ W1.heap.size _ cs _ _ HN.out)
    have bk := below_setRow bn (Nat.le_refl _) cs
    have hg1 := hb.size
    replace hb := hb.trans (bk.mono hb.size)
    replace HP := Lib.hid (HP.out.step bk)
    clear bk
    generalize (World.setRow (World.alloc _ _) _ _) = V2 at *
    generalize W1.heap.size = g1 at *
    clear bn HN
    refine (C.base V2 HP.out).mono ?_
    rintro e W3 ⟨⟨bs, rfl, hbs⟩, bk⟩
    have Hbs := Lib.hid hbs
    clear hbs
    replace hb := hb.trans (bk.mono hb.size)
    replace HP := Lib.hid (HP.out.step bk)
    replace Bcs := Lib.hid (blk_below bk (blk_lt Bcs.out) Bcs.out)
    clear bk
    have Sbs := Lib.hid (C.isz Hbs.out); have Obs := Lib.hid (C.same Hcs.out Hbs.out); have Ibs := Lib.hid (C.one _ _ Hbs.out)
    have Bbs := Lib.hid (setRow_heap _ g1 _ bs _ _ Bcs.out)
    have HP2 := Lib.hid (HP.out.below (below_setRow (Below.refl w.heap.size W3) hg1 bs) hgl)
    replace hb := below_setRow hb hg1 bs
    go_wp2_with (first
      | (with_reducible refine wpList_store_row rfl 28 _ _ rfl g1 bs rfl rfl 28 _ Bcs.out Sbs.out Obs.out Ibs.out ?_)
      | (with_reducible refine wpList_load_row rfl 28 _ rfl g1 rfl 28 _ (0, 0) _ Bbs.out Tryd.underlying28 rfl Sbs.out ?_))
    clear Bcs HP
    generalize W3.setRow g1 bs = V4 at *
    have HP := HP2
    clear HP2
    have CM := Lib.hid (fun W h hT => C.mul bs baseP n W h hT)
    have CM0 := Lib.hid (fun W h hT => C.mul bs baseP (smT 0) W h hT)
    obtain ⟨z1, z2⟩ := nought_times baseP
    rw [z2] at CM0
    have CB0 := Lib.hid (fun ds W h hT => C.bytes ds (mulPT baseP (smT 0)) W h hT)
    rw [z1] at CB0
    have CB := Lib.hid (fun ds W h hT => C.bytes ds (mulPT baseP n) W h hT)
    have hsz := txtP_size (mulPT baseP n)
    have hbad := times_bad baseP n
    have S0 := Lib.hid (fun W => small11_any 0 W (by decide))
    have S1 := Lib.hid (fun W => small11_any 1 W (by decide))
    generalize mulPT baseP (smT 0) = pz at *
    generalize mulPT baseP n = pn at *
    generalize smT 0 = s0 at *
    generalize smT 1 = s1 at *
    generalize txtP pn = tn at *
    have xs : (s1.toList == s1.toList) = true := by simp
    have HBad := Lib.hid hbad
    clear hbad z1 z2
    refine (CM.out V4 Hbs.out HP.out).mono ?_
    rintro e W5 ⟨⟨es, rfl, hes⟩, bk⟩
    have Hes := Lib.hid hes
    clear hes
    replace hb := hb.trans (bk.mono hb.size)
    replace HP := Lib.hid (HP.out.step bk)
    replace Bbs := Lib.hid (blk_below bk (blk_lt Bbs.out) Bbs.out)
    clear bk
    have HN := Lib.hid (blk_new W5 (.cells zv 28))
    have bn := below_new W5 (.cells zv 28)
    have Ses := Lib.hid (C.isz Hes.out); have Oes := Lib.hid (C.zsz Hes.out); have Ies := Lib.hid (C.one _ _ Hes.out)
    go_wp2_with (with_reducible refine wpList_store_row rfl 28 _ _ rfl W5.heap.size es rfl rfl 28 _ HN.out Ses.out Oes.out Ies.out ?_)
    have Bes := Lib.hid (setRow_heap _ W5.heap.size _ es _ _ HN.out)
    have bk := below_setRow bn (Nat.le_refl _) es
    have hg2 := hb.size
    replace hb := hb.trans (bk.mono hb.size)
    replace HP := Lib.hid (HP.out.step bk)
    replace Bbs := Lib.hid (blk_below bk (blk_lt Bbs.out) Bbs.out)
    clear bk
    generalize (World.setRow (World.alloc _ _) _ _) = V6 at *
    generalize W5.heap.size = g2 at *
    clear bn HN
    refine wp_region_told_late 7 5 64 [9, 29] [(Told.val (.agg bs), [5]), (Told.val (.string s0), []), (tTup IsPt pz 0, [26, 27]), (tTup IsPt pz 0, [28]), (tIs IsPt pz, [25]), (Told.val (.int .i64 0), [25]), (tNew zv V6.heap.size, [])]
      _ rfl (by kernel_rfl) (by kernel_rfl) rfl (by simp [toldGuards]) ?_ ?_ ?_ ?_ ?_
    · intro k hk o ho
      simp at ho
      subst ho
      rcases List.mem_cons.1 hk with rfl | hk
      · decide
      · rcases List.mem_cons.1 hk with rfl | hk
        · decide
        · cases hk
    · simp only [List.take_succ_cons, List.take_zero, toldObl, and_true]
      refine ⟨?_, ?_, ?_, ?_, ?_, ?_, ?_⟩
      · intro a w hb h
        have e0 : a.tmps.getD 5 undef = .pointer (some ⟨g1, 0, none⟩) := h 5 (by simp)
        exact told_of_sQuiet (sQuiet_load_row 28 (.tmp 5) rfl g1 e0 28 _ (0, 0) _ (blk_below hb (blk_lt Bbs.out) Bbs.out) Tryd.underlying28 rfl Sbs.out)
      · intro a w hb h
        simp [go_sem, toldQuiet]
        exact valOf (S0.out w)
      · intro a w hb h
        have e0 : a.tmps.getD 26 undef = .agg bs := h 26 (by simp)
        have e1 : a.tmps.getD 27 undef = .string s0 := h 27 (by simp)
        simp only [Array.getD_eq_getD_getElem?] at e0 e1
        simp [go_sem, e0, e1, toldQuiet]
        exact tupOf (CM0.out w Hbs.out (HP.out.step hb))
      · intro a w hb h
        obtain ⟨u0, e0, f0⟩ : ∃ cs, a.tmps.getD 28 undef = .tuple #[.agg cs, .int .i64 0] ∧ IsPt cs pz := h 28 (by simp)
        simp only [Array.getD_eq_getD_getElem?] at e0
        simp [go_sem, e0, toldQuiet]
        exact ⟨Below.refl _ _, u0, rfl, f0⟩
      · intro a w hb h
        obtain ⟨u0, e0, f0⟩ : ∃ cs, a.tmps.getD 25 undef = .tuple #[.agg cs, .int .i64 0] ∧ IsPt cs pz := h 25 (by simp)
        simp only [Array.getD_eq_getD_getElem?] at e0
        simp [go_sem, e0, toldQuiet]
        exact ⟨Below.refl _ _, u0, rfl, f0⟩
      · intro a w hb h
        obtain ⟨u0, e0, f0⟩ : ∃ cs, a.tmps.getD 25 undef = .tuple #[.agg cs, .int .i64 0] ∧ IsPt cs pz := h 25 (by simp)
        simp only [Array.getD_eq_getD_getElem?] at e0
        simp [go_sem, e0, toldQuiet, Told.val]
        exact Below.refl _ _
      · intro a w hb h
        simp [go_sem, hzP, toldQuiet]
        exact ⟨below_new w _, w.heap.size, rfl, hb.size, blk_new w _⟩
    · intro o s ho hs a w h
      simp at ho hs
      subst ho hs
      obtain ⟨u0, e0, f0⟩ : ∃ cs, a.tmps.getD 25 undef = .tuple #[.agg cs, .int .i64 0] ∧ IsPt cs pz := h 25 (by simp)
      simp only [Array.getD_eq_getD_getElem?] at e0
      refine ⟨.int .i64 0, by simp [go_sem, e0], fun w1 => rfl⟩
    · intro s hs k hk t ht
      simp at hs
      subst hs
      obtain rfl : k = 25 := by simpa using hk
      have : t = tTup IsPt pz 0 := by simpa [toldGet] using ht.symm
      subst this
      exact fun _ _ _ h => h
    intro V1 bk
    simp only [List.take_succ_cons, List.take_zero, List.drop_succ_cons, List.drop_zero, toldEndS, Act.put, List.setIfInBounds_toArray, List.set_cons_succ, List.set_cons_zero]
    rintro v26 q26 v27 q27 v28 q28 v25 q25 _ ⟨zs, rfl, hzs⟩ v30 q30 _ ⟨g3, rfl, hg3, hz3⟩
    obtain rfl := q30.symm
    have Szs := Lib.hid (C.isz hzs); have Ozs := Lib.hid (C.zsz hzs); have Izs := Lib.hid (C.one _ _ hzs)
    have hbq := below_setRow bk hg3 zs
    refine ⟨V1.setRow g3 zs, hbq, fun a' ha' => ?_, ?_⟩
    · have e9 : a'.tmps.getD 9 undef = .pointer (some ⟨g3, 0, none⟩) := ha' 9 (by simp)
      have e29 : a'.tmps.getD 29 undef = .agg zs := ha' 29 (by simp)
      exact run_store_laid (.tmp 9) (.tmp 29) rfl g3 zs zv e9 e29 hz3 Szs.out Ozs.out Izs.out
    have Hzs := Lib.hid hzs
    have Bzs := Lib.hid (setRow_heap V1 g3 _ zs _ _ hz3)
    clear q26 q27 q28 q25 q30 hzs hz3 hg3 Szs Ozs Izs
    replace hb := hb.trans (hbq.mono hb.size)
    replace HP := Lib.hid (HP.out.step hbq)
    replace Bbs := Lib.hid (blk_below hbq (blk_lt Bbs.out) Bbs.out)
    replace Bes := Lib.hid (blk_below hbq (blk_lt Bes.out) Bes.out)
    clear hbq bk
    generalize V1.setRow g3 zs = V2 at *
    have SZ := Lib.hid (C.isz Hzs.out)
    go_wp2_with (first
      | (with_reducible refine wpList_load_row rfl 28 _ rfl g3 rfl 28 _ (0, 0) _ Bzs.out Tryd.underlying28 rfl SZ.out ?_)
      | ((with_reducible refine wpList_load_want ?hw 28 _ rfl g3 rfl 28 _ (0, 0) _ Bzs.out Tryd.underlying28 rfl SZ.out ?_); (case hw => rfl)))
    refine (CB0.out zs V2 Hzs.out HP.out).mono ?_
    rintro e W8 ⟨rfl, bk⟩
    replace hb := hb.trans (bk.mono hb.size)
    replace HP := Lib.hid (HP.out.step bk)
    replace Bbs := Lib.hid (blk_below bk (blk_lt Bbs.out) Bbs.out)
    replace Bes := Lib.hid (blk_below bk (blk_lt Bes.out) Bes.out)
    replace Bzs := Lib.hid (blk_below bk (blk_lt Bzs.out) Bzs.out)
    clear bk
    go_wp2_with fail
    by_cases hn : n.size = 32
    · have hq := times_ok n hn
      have hd : ((n.size : Int) != 32) = false := by simp [hn]
      have ht : ((tn.size : Int) == 32) = true := by rw [hsz]; rfl
      rw [hq] at *
      clear hq hn hsz
      refine (S1.out W8).mono ?_
      rintro e W9 ⟨rfl, bk⟩
      replace hb := hb.trans (bk.mono hb.size)
      replace HP := Lib.hid (HP.out.step bk)
      replace Bbs := Lib.hid (blk_below bk (blk_lt Bbs.out) Bbs.out)
      replace Bes := Lib.hid (blk_below bk (blk_lt Bes.out) Bes.out)
      replace Bzs := Lib.hid (blk_below bk (blk_lt Bzs.out) Bzs.out)
      clear bk
      go_wp2_with (first
        | (with_reducible refine wpList_load_row rfl 28 _ rfl g2 rfl 28 _ (0, 0) _ Bes.out Tryd.underlying28 rfl Ses.out ?_)
        | ((with_reducible refine wpList_load_want ?hw 28 _ rfl g2 rfl 28 _ (0, 0) _ Bes.out Tryd.underlying28 rfl Ses.out ?_); (case hw => rfl)))
      refine (CB.out es W9 Hes.out HP.out).mono ?_
      rintro e W10 ⟨rfl, bk⟩
      replace hb := hb.trans (bk.mono hb.size)
      replace HP := Lib.hid (HP.out.step bk)
      replace Bbs := Lib.hid (blk_below bk (blk_lt Bbs.out) Bbs.out)
      replace Bes := Lib.hid (blk_below bk (blk_lt Bes.out) Bes.out)
      replace Bzs := Lib.hid (blk_below bk (blk_lt Bzs.out) Bzs.out)
      clear bk
      go_wp2_with fail
      refine (HAw.out W10 HP.out).mono ?_
      rintro e W11 ⟨rfl, bk⟩
      replace hb := hb.trans (bk.mono hb.size)
      replace HP := Lib.hid (HP.out.step bk)
      replace Bbs := Lib.hid (blk_below bk (blk_lt Bbs.out) Bbs.out)
      replace Bes := Lib.hid (blk_below bk (blk_lt Bes.out) Bes.out)
      replace Bzs := Lib.hid (blk_below bk (blk_lt Bzs.out) Bzs.out)
      clear bk
      go_wp2_with fail
      go_ret
      exact ⟨rfl, hb⟩
    · obtain ⟨hx, hq⟩ := HBad.out hn
      have hd : ((n.size : Int) != 32) = true := by simp; omega
      rw [hq] at *
      rw [hx] at CB
      clear hq hn hsz hx
      refine (S1.out W8).mono ?_
      rintro e W9 ⟨rfl, bk⟩
      replace hb := hb.trans (bk.mono hb.size)
      replace HP := Lib.hid (HP.out.step bk)
      replace Bbs := Lib.hid (blk_below bk (blk_lt Bbs.out) Bbs.out)
      replace Bes := Lib.hid (blk_below bk (blk_lt Bes.out) Bes.out)
      replace Bzs := Lib.hid (blk_below bk (blk_lt Bzs.out) Bzs.out)
      clear bk
      go_wp2_with (first
        | (with_reducible refine wpList_load_row rfl 28 _ rfl g2 rfl 28 _ (0, 0) _ Bes.out Tryd.underlying28 rfl Ses.out ?_)
        | ((with_reducible refine wpList_load_want ?hw 28 _ rfl g2 rfl 28 _ (0, 0) _ Bes.out Tryd.underlying28 rfl Ses.out ?_); (case hw => rfl)))
      refine (CB.out es W9 Hes.out HP.out).mono ?_
      rintro e W10 ⟨rfl, bk⟩
      replace hb := hb.trans (bk.mono hb.size)
      replace HP := Lib.hid (HP.out.step bk)
      replace Bbs := Lib.hid (blk_below bk (blk_lt Bbs.out) Bbs.out)
      replace Bes := Lib.hid (blk_below bk (blk_lt Bes.out) Bes.out)
      replace Bzs := Lib.hid (blk_below bk (blk_lt Bzs.out) Bzs.out)
      clear bk
      go_wp2_with fail
      refine (S1.out W10).mono ?_
      rintro e W11 ⟨rfl, bk⟩
      replace hb := hb.trans (bk.mono hb.size)
      replace HP := Lib.hid (HP.out.step bk)
      replace Bbs := Lib.hid (blk_below bk (blk_lt Bbs.out) Bbs.out)
      replace Bes := Lib.hid (blk_below bk (blk_lt Bes.out) Bes.out)
      replace Bzs := Lib.hid (blk_below bk (blk_lt Bzs.out) Bzs.out)
      clear bk
      go_wp2_with fail
      refine (HAw.out W11 HP.out).mono ?_
      rintro e W12 ⟨rfl, bk⟩
      replace hb := hb.trans (bk.mono hb.size)
      replace HP := Lib.hid (HP.out.step bk)
      replace Bbs := Lib.hid (blk_below bk (blk_lt Bbs.out) Bbs.out)
      replace Bes := Lib.hid (blk_below bk (blk_lt Bes.out) Bes.out)
      replace Bzs := Lib.hid (blk_below bk (blk_lt Bzs.out) Bzs.out)
      clear bk
      go_wp2_with fail
      go_ret
      exact ⟨rfl, hb⟩
end Go.Proofs.YtcpdehfmlmmgiaaDoor
