/- The reference's Verify. -/
import Derived.Test.YtcpnenjmbajbeaaGreatDoorSgRef
import Derived.Test.YtcpnenjmbajbeaaGreatDoorToldW
namespace Go.Proofs.YtcpnenjmbajbeaaGreatDoor
open Go.RowKit Go.Sort
set_option maxRecDepth 100000
set_option linter.unusedSimpArgs false
set_option linter.unusedVariables false

theorem DigAt.keepRow {W : World} {v : Value} {l : List Nat} {B : Nat} {row : Array Value} {T : TypeId} {fr : Nat × Nat} (h : DigAt W v l) (hB : W.heap[B]? = some (.cells row T fr)) (h0 : ∃ v, row[0]? = some v ∧ ∀ n, v ≠ .int .i64 n) (new : Array Value) : DigAt (W.setRow B new) v l := by
  obtain ⟨D, cap, rfl, hc⟩ := h
  obtain ⟨u, h0, hu⟩ := h0
  have hne : D ≠ B := by
    rintro rfl
    have h1 := hc 0 (by decide)
    rw [cell_of_row _ _ _ _ _ _ hB, h0] at h1
    exact hu _ (Option.some.inj h1)
  exact ⟨D, cap, rfl, fun j hj => (World.cell?_of_block (a := ⟨D, j, none⟩) (setRow_other _ _ _ _ hne)).trans (hc j hj)⟩
theorem PtAt.keepRow {W : World} {v : Value} {p : PtN} {B : Nat} {row : Array Value} {T : TypeId} {fr : Nat × Nat} (h : PtAt W v p) (hB : W.heap[B]? = some (.cells row T fr)) (h0 : ∃ v, row[0]? = some v ∧ ∀ n, v ≠ .int .i64 n) (new : Array Value) : PtAt (W.setRow B new) v p := by
  obtain ⟨vx, vy, vz, vt, rfl, h1, h2, h3, h4⟩ := h
  exact ⟨vx, vy, vz, vt, rfl, h1.keepRow hB h0 new, h2.keepRow hB h0 new, h3.keepRow hB h0 new, h4.keepRow hB h0 new⟩
theorem zeroR_first : ∃ v, zeroR[0]? = some v ∧ ∀ n, v ≠ .int .i64 n := ⟨_, rfl, fun n e => by cases e⟩
/-- A point of the reference's and a number of a call's answer; a block made for a point. -/
def tTupR (p : PtN) (q : Int) : Told := ⟨fun w v => ∃ d, v = .tuple #[d, .int .i64 q] ∧ PtAt w d p, fun _ _ _ hb ⟨d, h1, h2⟩ => ⟨d, h1, h2.step hb⟩⟩
def tNewR (B : Nat) : Told := ⟨fun w v => ∃ g, v = .pointer (some ⟨g, 0, none⟩) ∧ B ≤ g ∧ w.heap[g]? = some (.cells zeroR 51), fun w w' v hb ⟨g, h1, h2, h3⟩ => ⟨g, h1, h2, blk_below hb (blk_lt h3) h3⟩⟩
theorem told_pt {P : Program} {f : Nat} {args : Array Value} {w : World} {p : PtN} (h : Calls P f args w fun e w' => (∃ d, e = .returned d ∧ PtAt w' d p) ∧ Below w.heap.size w w') : Calls P f args w (fun e w'' => ∃ v, e = .returned v ∧ (tPt p).T w'' v ∧ Below w.heap.size w w'') :=
  h.mono fun e w'' ⟨⟨d, h1, h2⟩, h3⟩ => ⟨_, h1, h2, h3⟩
theorem told_tup {P : Program} {f : Nat} {args : Array Value} {w : World} {p : PtN} {q : Int} (h : Calls P f args w fun e w' => (∃ d, e = .returned (.tuple #[d, .int .i64 q]) ∧ PtAt w' d p) ∧ Below w.heap.size w w') : Calls P f args w (fun e w'' => ∃ v, e = .returned v ∧ (tTupR p q).T w'' v ∧ Below w.heap.size w w'') :=
  h.mono fun e w'' ⟨⟨d, h1, h2⟩, h3⟩ => ⟨_, h1, ⟨d, rfl, h2⟩, h3⟩
theorem told_txt {P : Program} {f : Nat} {args : Array Value} {w : World} {v : Value} (h : Calls P f args w fun e w' => e = .returned v ∧ Below w.heap.size w w') : Calls P f args w (fun e w'' => ∃ u, e = .returned u ∧ (Told.val v).T w'' u ∧ Below w.heap.size w w'') :=
  h.mono fun e w'' ⟨h1, h2⟩ => ⟨v, h1, rfl, h2⟩
theorem ver_sizes (p t g : ByteArray) (hp : p.size = 32) (hg : g.size = 64) (ht : t.size ≤ 1000000) : (g.extract 0 32 ++ p ++ t).size ≤ 1048576 := by
  rw [ByteArray.size_append, ByteArray.size_append, ByteArray.size_extract, hp, hg]
  omega
set_option maxHeartbeats 8000000 in
theorem rverify_any (p t g : ByteArray) (w : World) (ht : t.size ≤ 1000000) :
    Calls Tryz.prog 12 #[.string p, .string t, .string g] w fun e w' => e = .returned (.int .i64 (verE p t g)) ∧ Below w.heap.size w w' := by
  have hb := Below.refl w.heap.size w
  have CO := Lib.hid (rofT_any p)
  have hop := ofPT_ok p
  have hzR := (zero_of_info infoR).1
  by_cases h1 : ofET p = 0
  · have d1 : ((0 : Int) != 0) = false := rfl
    rw [h1] at CO
    by_cases h2 : g.size = 64
    · have d2 : ((g.size : Int) != 64) = false := by simp; omega
      have y3 : (32 : Int) ≤ (g.size : Int) := by omega
      have y0 : (0 : Int) ≤ (32 : Int) := by omega
      have CR := Lib.hid (fun W => rright_any (g.extract 32 g.size) W)
      by_cases h3 : okR (g.extract 32 64) = true
      · have hv : verE p t g = if (txtP (verP p t g)).toList == (g.extract 0 32).toList then 0 else 22 := by rw [verE, if_pos h1, if_pos ⟨h2, h3⟩]
        rw [show okR (g.extract 32 g.size) = true by rw [h2]; exact h3] at CR
        obtain ⟨k1, k2, k3, k4⟩ := ver_cats p t g (ofET_ok p h1).1 h2 ht
        have hbs : (g.extract 32 64).size = 32 := by rw [ByteArray.size_extract, h2]; rfl
        have CD := Lib.hid (fun W => refSum64_any (g.extract 0 32 ++ p ++ t) W (ver_sizes p t g (ofET_ok p h1).1 h2 ht))
        rw [show (⟨(sha512L kf hf (g.extract 0 32 ++ p ++ t).data.toList).toArray⟩ : ByteArray) = digT (g.extract 0 32 ++ p ++ t) from rfl] at CD
        have CW := Lib.hid (fun W => rwide_any (digT (g.extract 0 32 ++ p ++ t)) W)
        rw [show wideX (digT (g.extract 0 32 ++ p ++ t)) = kT (g.extract 0 32) p t from rfl] at CW
        have CB := Lib.hid rbase_any
        have CM1 := Lib.hid (fun v W h => rmulT_any v baseP (g.extract 32 g.size) W baseP_ok h)
        rw [show mulPT baseP (g.extract 32 g.size) = mulPT baseP (g.extract 32 64) by rw [h2], show mulET (g.extract 32 g.size) = 0 by rw [h2]; exact if_pos hbs] at CM1
        have CM2 := Lib.hid (fun v W h => rmulT_any v (ofPT p) (kT (g.extract 0 32) p t) W hop h)
        have CN := Lib.hid (fun v W h => rneg_any v (mulPT (ofPT p) (kT (g.extract 0 32) p t)) W (mulPT_ok _ _) h)
        have CA := Lib.hid (fun v u W h k => radd_any v u (mulPT baseP (g.extract 32 64)) (negP (mulPT (ofPT p) (kT (g.extract 0 32) p t))) W (mulPT_ok _ _) (negP_ok _ (mulPT_ok _ _)) h k)
        rw [show sumP (mulPT baseP (g.extract 32 64)) (negP (mulPT (ofPT p) (kT (g.extract 0 32) p t))) = verP p t g from rfl] at CA
        have CY := Lib.hid (fun v W h => rbytesT_any v (verP p t g) W (verP_ok _ _ _) h)
        have HV := Lib.hid hv
        generalize verE p t g = ve at *
        generalize txtP (verP p t g) = tv at *
        generalize verP p t g = vp at *
        generalize negP (mulPT (ofPT p) (kT (g.extract 0 32) p t)) = nk at *
        generalize mulPT (ofPT p) (kT (g.extract 0 32) p t) = mk at *
        generalize mulPT baseP (g.extract 32 64) = mb at *
        generalize mulET (kT (g.extract 0 32) p t) = qe at *
        generalize kT (g.extract 0 32) p t = kk at *
        generalize hdd : digT (g.extract 0 32 ++ p ++ t) = dd at *
        clear hdd
        generalize wideE dd = we at *
        generalize baseP = bp at *
        generalize ofPT p = pp at *
        have HOP := Lib.hid hop
        clear h3 hbs hop hv h1 h2
        go_enter Tryz.func12, Tryz.ntmps12
        go_wp2_with fail
        refine (CO.out w).mono ?_
        rintro e W1 ⟨⟨vr, rfl, hvr⟩, bk⟩
        replace hb := hb.trans (bk.mono hb.size)
        clear bk
        have Hvr := Lib.hid hvr
        clear hvr
        obtain ⟨ra, rb, rc, rd, rfl⟩ := Hvr.out.four
        have HN := Lib.hid (blk_new W1 (.cells zeroR 51))
        have bn := below_new W1 (.cells zeroR 51)
        have Sr := Lib.hid (sizeR ra rb rc rd); have Or := Lib.hid (zeroR_size ra rb rc rd); have Ir := Lib.hid Hvr.out.one
        have Br := Lib.hid (setRow_heap _ W1.heap.size _ #[ra, rb, rc, rd] _ _ HN.out)
        have bk := below_setRow bn (Nat.le_refl _) #[ra, rb, rc, rd]
        go_wp2_with (first | (with_reducible refine wpList_store_row rfl 51 _ _ rfl W1.heap.size #[ra, rb, rc, rd] rfl rfl 51 _ HN.out Sr.out Or.out Ir.out ?_) | (with_reducible refine wpList_load_row rfl 51 _ rfl W1.heap.size rfl 51 _ (0, 0) _ Br.out Tryz.underlying51 rfl Sr.out ?_))
        replace hb := hb.trans (bk.mono hb.size)
        replace Hvr := Lib.hid (Hvr.out.step bk)
        clear bk
        generalize (World.setRow (World.alloc _ _) _ _) = V2 at *
        generalize W1.heap.size = g1 at *
        clear bn HN
        try simp only [Act.put]
        refine (CR.out V2).mono ?_
        rintro e W3 ⟨rfl, bk⟩
        replace hb := hb.trans (bk.mono hb.size)
        replace Hvr := Lib.hid (Hvr.out.step bk)
        replace Br := Lib.hid (blk_below bk (blk_lt Br.out) Br.out)
        clear bk
        go_wp2_with fail
        refine (CD.out W3).mono ?_
        rintro e W4 ⟨rfl, bk⟩
        replace hb := hb.trans (bk.mono hb.size)
        replace Hvr := Lib.hid (Hvr.out.step bk)
        replace Br := Lib.hid (blk_below bk (blk_lt Br.out) Br.out)
        clear bk
        go_wp2_with fail
        refine (CW.out W4).mono ?_
        rintro e W5 ⟨rfl, bk⟩
        replace hb := hb.trans (bk.mono hb.size)
        replace Hvr := Lib.hid (Hvr.out.step bk)
        replace Br := Lib.hid (blk_below bk (blk_lt Br.out) Br.out)
        clear bk
        go_wp2_with fail
        have HB1 := Lib.hid CB.out
        refine wp_region_told_latew 8 6 63 [11, 47] [(tPt bp, []), (Told.val (.string g), [2]), (Told.val (.string (g.extract 32 g.size)), [44]), (tTupR mb 0, [43, 45]), (tTupR mb 0, [46]), (tPt mb, [42]), (Told.val (.int .i64 0), [42]), (tNewR W5.heap.size, [])]
          _ rfl (by kernel_rfl) (by kernel_rfl) rfl (by simp [toldGuards]) ?_ ?_ ?_ ?_
        · intro k hk o ho
          simp at ho
          subst ho
          rcases List.mem_cons.1 hk with rfl | hk
          · decide
          · rcases List.mem_cons.1 hk with rfl | hk
            · decide
            · cases hk
        · simp only [List.take_succ_cons, List.take_zero, toldObl, and_true]
          refine ⟨?_, ?_, ?_, ?_, ?_, ?_, ?_, ?_⟩
          · intro a w hb h
            simp [go_sem, toldQuiet]
            exact told_pt (CB.out w)
          · intro a w hb h
            have e0 : a.tmps.getD 2 undef = .string g := h 2 (by simp)
            simp only [Array.getD_eq_getD_getElem?] at e0
            simp [go_sem, e0, toldQuiet, Told.val]
            exact Below.refl _ _
          · intro a w hb h
            have e0 : a.tmps.getD 44 undef = .string g := h 44 (by simp)
            simp only [Array.getD_eq_getD_getElem?] at e0
            simp [go_sem, e0, toldQuiet, Told.val, y3]
            exact Below.refl _ _
          · intro a w hb h
            have f0 : PtAt w (a.tmps.getD 43 undef) bp := h 43 (by simp)
            obtain ⟨u0, e0⟩ : ∃ u, a.tmps.getD 43 undef = u := ⟨_, rfl⟩
            rw [e0] at f0
            have e1 : a.tmps.getD 45 undef = .string (g.extract 32 g.size) := h 45 (by simp)
            simp only [Array.getD_eq_getD_getElem?] at e0 e1
            simp [go_sem, e0, e1, toldQuiet]
            exact told_tup (CM1.out u0 w f0)
          · intro a w hb h
            obtain ⟨u0, e0, f0⟩ : ∃ d, a.tmps.getD 46 undef = .tuple #[d, .int .i64 0] ∧ PtAt w d mb := h 46 (by simp)
            simp only [Array.getD_eq_getD_getElem?] at e0
            simp [go_sem, e0, toldQuiet]
            exact ⟨Below.refl _ _, u0, rfl, f0⟩
          · intro a w hb h
            obtain ⟨u0, e0, f0⟩ : ∃ d, a.tmps.getD 42 undef = .tuple #[d, .int .i64 0] ∧ PtAt w d mb := h 42 (by simp)
            simp only [Array.getD_eq_getD_getElem?] at e0
            simp [go_sem, e0, toldQuiet]
            exact ⟨Below.refl _ _, f0⟩
          · intro a w hb h
            obtain ⟨u0, e0, f0⟩ : ∃ d, a.tmps.getD 42 undef = .tuple #[d, .int .i64 0] ∧ PtAt w d mb := h 42 (by simp)
            simp only [Array.getD_eq_getD_getElem?] at e0
            simp [go_sem, e0, toldQuiet, Told.val]
            exact Below.refl _ _
          · intro a w hb h
            simp [go_sem, hzR, toldQuiet]
            exact ⟨below_new w _, w.heap.size, rfl, hb.size, blk_new w _⟩
        · intro o s ho hs a w h
          simp at ho hs
          subst ho hs
          obtain ⟨u0, e0, f0⟩ : ∃ d, a.tmps.getD 42 undef = .tuple #[d, .int .i64 0] ∧ PtAt w d mb := h 42 (by simp)
          simp only [Array.getD_eq_getD_getElem?] at e0
          exact ⟨.int .i64 0, fun w2 => by simp [go_sem, e0], fun w1 => rfl⟩
        intro X bk
        simp only [List.take_succ_cons, List.take_zero, List.drop_succ_cons, List.drop_zero, toldEndS, Act.put, List.setIfInBounds_toArray, List.set_cons_succ, List.set_cons_zero]
        rintro v43 q43 v44 q44 v45 q45 v46 q46 v42 q42 v47 hvm v48 q48 _ ⟨g3, rfl, hg3, hz3⟩
        obtain rfl := q48.symm
        obtain ⟨ma, mb', mc, md, rfl⟩ := hvm.four
        have Sm := Lib.hid (sizeR ma mb' mc md); have Om := Lib.hid (zeroR_size ma mb' mc md); have Im := Lib.hid hvm.one
        have hbq := below_setRow bk hg3 #[ma, mb', mc, md]
        refine ⟨X.setRow g3 #[ma, mb', mc, md], hbq, fun a' ha' => ?_, ?_⟩
        · have e11 : a'.eval (.tmp 11) = .pointer (some ⟨g3, 0, none⟩) := ha' 11 (by simp)
          have e47 : a'.eval (.tmp 47) = .agg #[ma, mb', mc, md] := ha' 47 (by simp)
          have hrun := run_storeVar_row (P := Tryz.prog) X g3 51 51 zeroR #[ma, mb', mc, md] hz3 Sm.out Om.out Im.out
          unfold execOp
          simp only [e11, e47, Instr.storeAt, Instr.sureAddr, Sem.run_bind, Sem.run_pure, Result.andThen_ok, hrun]
        have Hvm := Lib.hid (hvm.keepRow hz3 zeroR_first #[ma, mb', mc, md])
        have Bm := Lib.hid (setRow_heap X g3 _ #[ma, mb', mc, md] _ _ hz3)
        clear q43 q44 q45 q46 q42 q48 hvm hz3 hg3
        replace hb := hb.trans (hbq.mono hb.size)
        replace Hvr := Lib.hid (Hvr.out.step hbq)
        replace Br := Lib.hid (blk_below hbq (blk_lt Br.out) Br.out)
        clear hbq
        clear bk
        generalize X.setRow g3 _ = X2 at *
        clear HB1 CB CM1
        go_wp2_with (with_reducible refine wpList_load_row rfl 51 _ rfl g1 rfl 51 _ (0, 0) _ Br.out Tryz.underlying51 rfl Sr.out ?_)
        refine (CM2.out _ X2 Hvr.out).mono ?_
        rintro e W6 ⟨⟨vk, rfl, hvk⟩, bk⟩
        replace hb := hb.trans (bk.mono hb.size)
        replace Hvr := Lib.hid (Hvr.out.step bk)
        replace Hvm := Lib.hid (Hvm.out.step bk)
        replace Br := Lib.hid (blk_below bk (blk_lt Br.out) Br.out)
        replace Bm := Lib.hid (blk_below bk (blk_lt Bm.out) Bm.out)
        clear bk
        have Hvk := Lib.hid hvk
        clear hvk
        obtain ⟨ka, kb, kc, kd, rfl⟩ := Hvk.out.four
        have HN := Lib.hid (blk_new W6 (.cells zeroR 51))
        have bn := below_new W6 (.cells zeroR 51)
        have Sk := Lib.hid (sizeR ka kb kc kd); have Ok := Lib.hid (zeroR_size ka kb kc kd); have Ik := Lib.hid Hvk.out.one
        have Bk := Lib.hid (setRow_heap _ W6.heap.size _ #[ka, kb, kc, kd] _ _ HN.out)
        have bk := below_setRow bn (Nat.le_refl _) #[ka, kb, kc, kd]
        have KBr := Lib.hid (blk_below bk (blk_lt Br.out) Br.out)
        have KBm := Lib.hid (blk_below bk (blk_lt Bm.out) Bm.out)
        go_wp2_with (first | (with_reducible refine wpList_store_row rfl 51 _ _ rfl W6.heap.size #[ka, kb, kc, kd] rfl rfl 51 _ HN.out Sk.out Ok.out Ik.out ?_) | (with_reducible refine wpList_load_row rfl 51 _ rfl W6.heap.size rfl 51 _ (0, 0) _ Bk.out Tryz.underlying51 rfl Sk.out ?_))
        clear KBr
        clear KBm
        replace hb := hb.trans (bk.mono hb.size)
        replace Hvr := Lib.hid (Hvr.out.step bk)
        replace Hvm := Lib.hid (Hvm.out.step bk)
        replace Hvk := Lib.hid (Hvk.out.step bk)
        replace Br := Lib.hid (blk_below bk (blk_lt Br.out) Br.out)
        replace Bm := Lib.hid (blk_below bk (blk_lt Bm.out) Bm.out)
        clear bk
        generalize (World.setRow (World.alloc _ _) _ _) = V7 at *
        generalize W6.heap.size = g5 at *
        clear bn HN
        try simp only [Act.put]
        refine wp_region_told 7 63 [(Told.val (.agg #[ma, mb', mc, md]), [11]), (Told.val (.agg #[ka, kb, kc, kd]), [13]), (tPt nk, [56]), (tPt vp, [55, 57]), (Told.val (.string tv), [58]), (Told.val (.string g), [2]), (Told.val (.string (g.extract 0 32)), [60])]
          (by kernel_rfl) (by kernel_rfl) rfl ?_ ?_
        · simp only [List.take_succ_cons, List.take_zero, toldObl, and_true]
          refine ⟨?_, ?_, ?_, ?_, ?_, ?_, ?_⟩
          · intro a w hb h
            have e0 : a.tmps.getD 11 undef = .pointer (some ⟨g3, 0, none⟩) := h 11 (by simp)
            exact told_of_sQuiet (sQuiet_load_row 51 (.tmp 11) rfl g3 e0 51 _ (0, 0) _ (blk_below hb (blk_lt Bm.out) Bm.out) Tryz.underlying51 rfl Sm.out)
          · intro a w hb h
            have e0 : a.tmps.getD 13 undef = .pointer (some ⟨g5, 0, none⟩) := h 13 (by simp)
            exact told_of_sQuiet (sQuiet_load_row 51 (.tmp 13) rfl g5 e0 51 _ (0, 0) _ (blk_below hb (blk_lt Bk.out) Bk.out) Tryz.underlying51 rfl Sk.out)
          · intro a w hb h
            have e0 : a.tmps.getD 56 undef = .agg #[ka, kb, kc, kd] := h 56 (by simp)
            simp only [Array.getD_eq_getD_getElem?] at e0
            simp [go_sem, e0, toldQuiet]
            exact told_pt (CN.out _ w (Hvk.out.step hb))
          · intro a w hb h
            have e0 : a.tmps.getD 55 undef = .agg #[ma, mb', mc, md] := h 55 (by simp)
            have f1 : PtAt w (a.tmps.getD 57 undef) nk := h 57 (by simp)
            obtain ⟨u1, e1⟩ : ∃ u, a.tmps.getD 57 undef = u := ⟨_, rfl⟩
            rw [e1] at f1
            simp only [Array.getD_eq_getD_getElem?] at e0 e1
            simp [go_sem, e0, e1, toldQuiet]
            exact told_pt (CA.out _ _ w (Hvm.out.step hb) f1)
          · intro a w hb h
            have f1 : PtAt w (a.tmps.getD 58 undef) vp := h 58 (by simp)
            obtain ⟨u1, e1⟩ : ∃ u, a.tmps.getD 58 undef = u := ⟨_, rfl⟩
            rw [e1] at f1
            simp only [Array.getD_eq_getD_getElem?] at e1
            simp [go_sem, e1, toldQuiet]
            exact told_txt (CY.out _ w f1)
          · intro a w hb h
            have e0 : a.tmps.getD 2 undef = .string g := h 2 (by simp)
            simp only [Array.getD_eq_getD_getElem?] at e0
            simp [go_sem, e0, toldQuiet, Told.val]
            exact Below.refl _ _
          · intro a w hb h
            have e0 : a.tmps.getD 60 undef = .string g := h 60 (by simp)
            simp only [Array.getD_eq_getD_getElem?] at e0
            simp [go_sem, e0, toldQuiet, Told.val, y3]
            exact Below.refl _ _
        simp only [List.take_succ_cons, List.take_zero, List.drop_succ_cons, List.drop_zero, toldEnd, Act.put, List.setIfInBounds_toArray, List.set_cons_succ, List.set_cons_zero]
        rintro Y bk v55 q55 v56 q56 v57 q57 v58 q58 v59 q59 v60 q60 v61 q61
        obtain rfl := q55.symm
        obtain rfl := q56.symm
        obtain rfl := q59.symm
        obtain rfl := q60.symm
        obtain rfl := q61.symm
        replace hb := hb.trans (bk.mono hb.size)
        clear bk q57 q58 q55 q56 q59 q60 q61 Hvk Hvm Bm Bk Br Hvr CN CA CY CM2
        cases hc : (tv.toList == (g.extract 0 32).toList) with
        | true =>
          have hn : (tv.toList != (g.extract 0 32).toList) = false := by rw [bne, hc]; rfl
          go_wp2_with fail
          go_ret
          exact ⟨by rw [HV.out, hc]; rfl, hb⟩
        | false =>
          have hn : (tv.toList != (g.extract 0 32).toList) = true := by rw [bne, hc]; rfl
          go_wp2_with fail
          go_ret
          exact ⟨by rw [HV.out, hc]; rfl, hb⟩
      · have hv : verE p t g = 22 := by rw [verE, if_pos h1, if_neg (fun k => h3 k.2)]
        have h3' : okR (g.extract 32 g.size) = false := by rw [h2]; simpa using h3
        rw [h3'] at CR
        rw [hv]
        generalize ofPT p = pp at *
        clear h1 h2 h3 h3' hv hop
        go_enter Tryz.func12, Tryz.ntmps12
        go_wp2_with fail
        refine (CO.out w).mono ?_
        rintro e W1 ⟨⟨vr, rfl, hvr⟩, bk⟩
        replace hb := hb.trans (bk.mono hb.size)
        clear bk
        have Hvr := Lib.hid hvr
        clear hvr
        obtain ⟨ra, rb, rc, rd, rfl⟩ := Hvr.out.four
        have HN := Lib.hid (blk_new W1 (.cells zeroR 51))
        have bn := below_new W1 (.cells zeroR 51)
        have Sr := Lib.hid (sizeR ra rb rc rd); have Or := Lib.hid (zeroR_size ra rb rc rd); have Ir := Lib.hid Hvr.out.one
        have Br := Lib.hid (setRow_heap _ W1.heap.size _ #[ra, rb, rc, rd] _ _ HN.out)
        have bk := below_setRow bn (Nat.le_refl _) #[ra, rb, rc, rd]
        go_wp2_with (first | (with_reducible refine wpList_store_row rfl 51 _ _ rfl W1.heap.size #[ra, rb, rc, rd] rfl rfl 51 _ HN.out Sr.out Or.out Ir.out ?_) | (with_reducible refine wpList_load_row rfl 51 _ rfl W1.heap.size rfl 51 _ (0, 0) _ Br.out Tryz.underlying51 rfl Sr.out ?_))
        replace hb := hb.trans (bk.mono hb.size)
        replace Hvr := Lib.hid (Hvr.out.step bk)
        clear bk
        generalize (World.setRow (World.alloc _ _) _ _) = V2 at *
        generalize W1.heap.size = g1 at *
        clear bn HN
        try simp only [Act.put]
        refine (CR.out V2).mono ?_
        rintro e W3 ⟨rfl, bk⟩
        replace hb := hb.trans (bk.mono hb.size)
        replace Hvr := Lib.hid (Hvr.out.step bk)
        replace Br := Lib.hid (blk_below bk (blk_lt Br.out) Br.out)
        clear bk
        go_wp2_with fail
        go_ret
        exact ⟨rfl, hb⟩
    · have d2 : ((g.size : Int) != 64) = true := by simp; omega
      have hv : verE p t g = 22 := by rw [verE, if_pos h1, if_neg (fun k => h2 k.1)]
      rw [hv]
      generalize ofPT p = pp at *
      clear h1 h2 hv hop
      go_enter Tryz.func12, Tryz.ntmps12
      go_wp2_with fail
      refine (CO.out w).mono ?_
      rintro e W1 ⟨⟨vr, rfl, hvr⟩, bk⟩
      replace hb := hb.trans (bk.mono hb.size)
      clear bk
      have Hvr := Lib.hid hvr
      clear hvr
      obtain ⟨ra, rb, rc, rd, rfl⟩ := Hvr.out.four
      have HN := Lib.hid (blk_new W1 (.cells zeroR 51))
      have bn := below_new W1 (.cells zeroR 51)
      have Sr := Lib.hid (sizeR ra rb rc rd); have Or := Lib.hid (zeroR_size ra rb rc rd); have Ir := Lib.hid Hvr.out.one
      have Br := Lib.hid (setRow_heap _ W1.heap.size _ #[ra, rb, rc, rd] _ _ HN.out)
      have bk := below_setRow bn (Nat.le_refl _) #[ra, rb, rc, rd]
      go_wp2_with (first | (with_reducible refine wpList_store_row rfl 51 _ _ rfl W1.heap.size #[ra, rb, rc, rd] rfl rfl 51 _ HN.out Sr.out Or.out Ir.out ?_) | (with_reducible refine wpList_load_row rfl 51 _ rfl W1.heap.size rfl 51 _ (0, 0) _ Br.out Tryz.underlying51 rfl Sr.out ?_))
      replace hb := hb.trans (bk.mono hb.size)
      replace Hvr := Lib.hid (Hvr.out.step bk)
      clear bk
      generalize (World.setRow (World.alloc _ _) _ _) = V2 at *
      generalize W1.heap.size = g1 at *
      clear bn HN
      try simp only [Act.put]
      go_ret
      exact ⟨rfl, hb⟩
  · have d1 : (ofET p != 0) = true := by simp; omega
    have hv : verE p t g = 21 := by rw [verE, if_neg h1]
    rw [hv]
    generalize ofPT p = pp at *
    generalize ofET p = q at *
    clear h1 hv hop
    go_enter Tryz.func12, Tryz.ntmps12
    go_wp2_with fail
    refine (CO.out w).mono ?_
    rintro e W1 ⟨⟨vr, rfl, hvr⟩, bk⟩
    replace hb := hb.trans (bk.mono hb.size)
    clear bk
    have Hvr := Lib.hid hvr
    clear hvr
    obtain ⟨ra, rb, rc, rd, rfl⟩ := Hvr.out.four
    have HN := Lib.hid (blk_new W1 (.cells zeroR 51))
    have bn := below_new W1 (.cells zeroR 51)
    have Sr := Lib.hid (sizeR ra rb rc rd); have Or := Lib.hid (zeroR_size ra rb rc rd); have Ir := Lib.hid Hvr.out.one
    have Br := Lib.hid (setRow_heap _ W1.heap.size _ #[ra, rb, rc, rd] _ _ HN.out)
    have bk := below_setRow bn (Nat.le_refl _) #[ra, rb, rc, rd]
    go_wp2_with (first | (with_reducible refine wpList_store_row rfl 51 _ _ rfl W1.heap.size #[ra, rb, rc, rd] rfl rfl 51 _ HN.out Sr.out Or.out Ir.out ?_) | (with_reducible refine wpList_load_row rfl 51 _ rfl W1.heap.size rfl 51 _ (0, 0) _ Br.out Tryz.underlying51 rfl Sr.out ?_))
    replace hb := hb.trans (bk.mono hb.size)
    replace Hvr := Lib.hid (Hvr.out.step bk)
    clear bk
    generalize (World.setRow (World.alloc _ _) _ _) = V2 at *
    generalize W1.heap.size = g1 at *
    clear bn HN
    try simp only [Act.put]
    go_ret
    exact ⟨rfl, hb⟩
end Go.Proofs.YtcpnenjmbajbeaaGreatDoor
