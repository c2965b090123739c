/- The reference's Add and Neg. -/
import Derived.Test.YtcpdehfmlmmgiaaDoorPrTog
namespace Go.Proofs.YtcpdehfmlmmgiaaDoor
open Go.RowKit Go.Sort
set_option maxRecDepth 100000
set_option linter.unusedSimpArgs false
set_option linter.unusedVariables false

theorem told_of_sQuiet {P : Program} {w : World} {v : Value} {r : Result Next} (h : sQuiet P w v r) : toldQuiet P w (Told.val v) r := by
  cases r with
  | ok n w' =>
    cases n <;> simp only [sQuiet] at h <;> simp only [toldQuiet]
    case value u => obtain ⟨rfl, rfl⟩ := h; exact ⟨Below.refl _ _, rfl⟩
    case enter f args =>
      obtain ⟨rfl, hc⟩ := h
      exact ⟨rfl, hc.mono fun e w'' ⟨he, hb⟩ => ⟨v, he, rfl, hb⟩⟩
  | halt x w' => simp only [sQuiet] at h
theorem told_build {P : Program} {o : Oper} {a : Act} {w : World} {t : Told} {T : TypeId} {parts : Array (Nat × Operand)} {cells : Array Value} (ho : o.op = .build T parts) (hb : (Instr.build T (parts.map fun (i, x) => (i, a.eval x))).run P w = .ok (.agg cells) w) (hT : t.T w (.agg cells)) : toldQuiet P w t ((execOp a.eval o).run P w) := by
  unfold execOp
  simp only [ho, Sem.run_bind, hb, Result.andThen_ok]
  exact ⟨Below.refl _ _, hT⟩
theorem ptOf {P : Program} {f : Nat} {args : Array Value} {w : World} {p : PtN} (h : Calls P f args w fun e w' => (∃ d', e = .returned d' ∧ PtAt w' d' p) ∧ Below w.heap.size w w') : Calls P f args w (fun e w'' => ∃ v, e = .returned v ∧ (tPt p).T w'' v ∧ Below w.heap.size w w'') :=
  h.mono fun e w'' ⟨⟨d', h1, h2⟩, h3⟩ => ⟨d', h1, h2, h3⟩
theorem PtAt.one {w : World} {a b c d : Value} {p : PtN} (h : PtAt w (.agg #[a, b, c, d]) p) : (#[a, b, c, d] : Array Value).all (·.oneCell') = true := by
  obtain ⟨vx, vy, vz, vt, he, h1, h2, h3, h4⟩ := h
  injection he with he
  injection he with he
  simp only [List.cons.injEq, and_true] at he
  obtain ⟨rfl, rfl, rfl, rfl⟩ := he
  exact sliceR_one h1 h2 h3 h4
theorem PtAt.first {w : World} {a b c d : Value} {p : PtN} (h : PtAt w (.agg #[a, b, c, d]) p) : ∃ x n e, (#[a, b, c, d] : Array Value)[0]? = some (.slice x n e) := by
  obtain ⟨vx, vy, vz, vt, he, h1, h2, h3, h4⟩ := h
  injection he with he
  injection he with he
  simp only [List.cons.injEq, and_true] at he
  obtain ⟨rfl, rfl, rfl, rfl⟩ := he
  obtain ⟨D, cap, rfl⟩ := h1.slice
  exact ⟨_, _, _, rfl⟩
theorem PtAt.four {w : World} {v : Value} {p : PtN} (h : PtAt w v p) : ∃ a b c d, v = .agg #[a, b, c, d] := by
  obtain ⟨vx, vy, vz, vt, rfl, _⟩ := h
  exact ⟨_, _, _, _, rfl⟩

set_option maxHeartbeats 4000000 in
theorem radd_any (vp vq : Value) (p q : PtN) (w : World) (hp : p.Ok) (hq : q.Ok) (h1 : PtAt w vp p) (h2 : PtAt w vq q) :
    Calls Tryd.prog 17 #[vp, vq] w fun e w' => (∃ d', e = .returned d' ∧ PtAt w' d' (sumP p q)) ∧ Below w.heap.size w w' := by
  obtain ⟨hz, hi⟩ := zero_of_info infoR
  obtain ⟨a1, b1, c1, d1, rfl⟩ := h1.four
  obtain ⟨a2, b2, c2, d2, rfl⟩ := h2.four
  have hb := below_new3 w (.cells #[a1, b1, c1, d1] 34) (.cells #[a2, b2, c2, d2] 34) (.cells zeroR 34)
  have HA := Lib.hid (blk_old (o := .cells zeroR 34) (blk_old (o := .cells #[a2, b2, c2, d2] 34) (blk_new w (.cells #[a1, b1, c1, d1] 34))))
  have HB := Lib.hid (blk_old (o := .cells zeroR 34) (blk_new2 w (.cells #[a1, b1, c1, d1] 34) (.cells #[a2, b2, c2, d2] 34)))
  have HR := Lib.hid (blk_new3 w (.cells #[a1, b1, c1, d1] 34) (.cells #[a2, b2, c2, d2] 34) (.cells zeroR 34))
  have HP := Lib.hid (h1.step hb); have HQ := Lib.hid (h2.step hb)
  have C1 := Lib.hid (fun W => rtwo_any W)
  have C2 := Lib.hid (fun k W g1 g2 g3 => rtog_any (.agg #[a1, b1, c1, d1]) (.agg #[a2, b2, c2, d2]) k p q W hp hq g1 g2 g3)
  have S1 := Lib.hid (sizeR a1 b1 c1 d1); have S2 := Lib.hid (sizeR a2 b2 c2 d2)
  generalize hsum : sumP p q = s at *
  have HSUM := Lib.hid hsum
  clear hi h1 h2 hp hq hsum
  go_enter Tryd.func17, Tryd.ntmps17
  go_upto_region 1 with fail
  clear hz
  generalize (((w.alloc _).alloc _).alloc _) = W0 at *
  generalize hBB : w.heap.size = B at *
  have HBB := Lib.hid hBB
  clear hBB
  refine wp_region_told 4 9 [(Told.val (.agg #[a1, b1, c1, d1]), [2]), (Told.val (.agg #[a2, b2, c2, d2]), [3]), (tDig twoF, []), (tPt s, [5, 6, 7])]
    (by kernel_rfl) (by kernel_rfl) rfl ?_ ?_
  · simp only [List.take_succ_cons, List.take_zero, toldObl, and_true]
    refine ⟨?_, ?_, ?_, ?_⟩
    · intro a w hb h
      have e0 : a.tmps.getD 2 undef = .pointer (some ⟨B, 0, none⟩) := h 2 (by simp)
      exact told_of_sQuiet (sQuiet_load_row 34 (.tmp 2) rfl B e0 34 _ (0, 0) _ (blk_below hb (blk_lt HA.out) HA.out) Tryd.underlying34 rfl S1.out)
    · intro a w hb h
      have e0 : a.tmps.getD 3 undef = .pointer (some ⟨B + 1, 0, none⟩) := h 3 (by simp)
      exact told_of_sQuiet (sQuiet_load_row 34 (.tmp 3) rfl (B + 1) e0 34 _ (0, 0) _ (blk_below hb (blk_lt HB.out) HB.out) Tryd.underlying34 rfl S2.out)
    · intro a w hb h
      simp [go_sem, toldQuiet]
      exact digOf (C1.out w)
    · intro a w hb h
      have e0 : a.tmps.getD 5 undef = .agg #[a1, b1, c1, d1] := h 5 (by simp)
      have e1 : a.tmps.getD 6 undef = .agg #[a2, b2, c2, d2] := h 6 (by simp)
      have f2 : DigAt w (a.tmps.getD 7 undef) (digN twoF) := h 7 (by simp)
      obtain ⟨u2, e2⟩ : ∃ u, a.tmps.getD 7 undef = u := ⟨_, rfl⟩
      rw [e2] at f2
      simp only [Array.getD_eq_getD_getElem?] at e0 e1 e2
      simp [go_sem, e0, e1, e2, toldQuiet]
      exact ptOf (C2.out u2 w (HP.out.step hb) (HQ.out.step hb) f2)
  · simp only [List.take_succ_cons, List.take_zero, List.drop_succ_cons, List.drop_zero, toldEnd, Act.put, List.setIfInBounds_toArray, List.set_cons_succ, List.set_cons_zero]
    intro W1 bk v5 q5 v6 q6 v7 q7 v8 q8
    obtain rfl := q5.symm
    obtain rfl := q6.symm
    have q8 : PtAt W1 v8 s := q8
    obtain ⟨x, y, z, t, rfl⟩ := q8.four
    have hb1 : Below B w W1 := hb.trans (bk.mono (Nat.le_of_lt (blk_lt HA.out)))
    have HR1 := Lib.hid (blk_below bk (blk_lt HR.out) HR.out)
    have HSz := Lib.hid (sizeR x y z t); have HO := Lib.hid (zeroR_size x y z t); have H11 := Lib.hid q8.one
    have H6 := Lib.hid (q8.rowed HR1.out ⟨_, _, _, rfl⟩ #[x, y, z, t])
    clear HA HB HR HP HQ hb bk q8 C1 C2 q7
    go_wp2_with (with_reducible refine wpList_store_row rfl 34 _ _ rfl (B + 1 + 1) #[x, y, z, t] rfl rfl 34 _ HR1.out HSz.out HO.out H11.out ?_)
    exact bodyPost_ret (v := .agg #[x, y, z, t]) (results_cell_row (by rfl) _ _ (B + 1 + 1) 34 _ (0, 0) _ rfl (setRow_heap _ _ _ _ _ _ HR1.out) Tryd.underlying34 rfl HSz.out) rfl ⟨⟨_, rfl, by first | exact H6.out | (rw [HSUM.out]; exact H6.out)⟩, by rw [HBB.out]; exact below_setRow hb1 (by omega) _⟩

set_option maxHeartbeats 4000000 in
theorem rneg_any (vp : Value) (p : PtN) (w : World) (hp : p.Ok) (h1 : PtAt w vp p) :
    Calls Tryd.prog 14 #[vp] w fun e w' => (∃ d', e = .returned d' ∧ PtAt w' d' (negP p)) ∧ Below w.heap.size w w' := by
  obtain ⟨hz, hi⟩ := zero_of_info infoR
  obtain ⟨px, py, pz, pt, rfl, kx, ky, kz, kt⟩ := h1
  have hb := below_new2 w (.cells #[px, py, pz, pt] 34) (.cells zeroR 34)
  have HA := Lib.hid (blk_old (o := .cells zeroR 34) (blk_new w (.cells #[px, py, pz, pt] 34)))
  have HR := Lib.hid (blk_new2 w (.cells #[px, py, pz, pt] 34) (.cells zeroR 34))
  have Hpx := Lib.hid (kx.step hb); have Hpy := Lib.hid (ky.step hb); have Hpz := Lib.hid (kz.step hb); have Hpt := Lib.hid (kt.step hb)
  have C1 := Lib.hid (fun W => zeroD_any W)
  have C2 := Lib.hid (fun d W g1 g2 => subRef_any d px 0 p.x W (by decide) hp.1 g1 g2)
  have C3 := Lib.hid (fun d W g1 g2 => subRef_any d pt 0 p.t W (by decide) hp.2.2.2 g1 g2)
  have HN : Hid (negP p = ⟨subF 0 p.x, p.y, p.z, subF 0 p.t⟩) := Lib.hid rfl
  generalize p.x = nx at *
  generalize p.y = ny at *
  generalize p.z = nz at *
  generalize p.t = nt at *
  generalize subF 0 nx = mx at *
  generalize subF 0 nt = mt at *
  clear hi kx ky kz kt hp
  go_enter Tryd.func14, Tryd.ntmps14
  go_wp2_with fail
  clear hz
  generalize ((w.alloc _).alloc _) = W0 at *
  generalize hBB : w.heap.size = B at *
  have HBB := Lib.hid hBB
  clear hBB
  refine (C1.out W0).mono ?_
  rintro e W1 ⟨⟨dz, rfl, hd⟩, bk⟩
  have Hdz := Lib.hid hd
  replace Hpx := Lib.hid (Hpx.out.step bk); replace Hpy := Lib.hid (Hpy.out.step bk); replace Hpz := Lib.hid (Hpz.out.step bk); replace Hpt := Lib.hid (Hpt.out.step bk)
  replace hb := hb.trans (bk.mono (Nat.le_of_lt (blk_lt HA.out)))
  replace HA := Lib.hid (blk_below bk (blk_lt HA.out) HA.out)
  replace HR := Lib.hid (blk_below bk (blk_lt HR.out) HR.out)
  clear hd bk C1
  go_wp2_with fail
  have cx : Hid (W1.cell? ⟨B, 0, none⟩ = some px) := Lib.hid (by rw [cell_of_row _ _ _ _ _ _ HA.out]; rfl)
  have cy : Hid (W1.cell? ⟨B, 1, none⟩ = some py) := Lib.hid (by rw [cell_of_row _ _ _ _ _ _ HA.out]; rfl)
  have cz : Hid (W1.cell? ⟨B, 2, none⟩ = some pz) := Lib.hid (by rw [cell_of_row _ _ _ _ _ _ HA.out]; rfl)
  have ct : Hid (W1.cell? ⟨B, 3, none⟩ = some pt) := Lib.hid (by rw [cell_of_row _ _ _ _ _ _ HA.out]; rfl)
  refine wp_region_told 13 18 [(Told.val dz, [3]), (Told.val (.pointer (some ⟨B, 0, none⟩)), [1]), (Told.val px, [6]), (tDig mx, [5, 7]), (Told.val (.pointer (some ⟨B, 1, none⟩)), [1]), (Told.val py, [9]),
    (Told.val (.pointer (some ⟨B, 2, none⟩)), [1]), (Told.val pz, [11]), (Told.val dz, [3]), (Told.val (.pointer (some ⟨B, 3, none⟩)), [1]), (Told.val pt, [14]), (tDig mt, [13, 15]), (tPt ⟨mx, ny, nz, mt⟩, [8, 10, 12, 16])]
    (by kernel_rfl) (by kernel_rfl) rfl ?_ ?_
  · simp only [List.take_succ_cons, List.take_zero, toldObl, and_true]
    refine ⟨?_, ?_, ?_, ?_, ?_, ?_, ?_, ?_, ?_, ?_, ?_, ?_, ?_⟩
    · intro a w hb h
      have e0 : a.tmps.getD 3 undef = dz := h 3 (by simp)
      simp only [Array.getD_eq_getD_getElem?] at e0
      simp [go_sem, e0, toldQuiet, Told.val]
      exact Below.refl _ _
    · intro a w hb h
      have e0 : a.tmps.getD 1 undef = .pointer (some ⟨B, 0, none⟩) := h 1 (by simp)
      simp only [Array.getD_eq_getD_getElem?] at e0
      simp [go_sem, e0, toldQuiet, Told.val]
      exact Below.refl _ _
    · intro a w hb h
      have e0 : a.tmps.getD 6 undef = .pointer (some ⟨B, 0, none⟩) := h 6 (by simp)
      simp only [Array.getD_eq_getD_getElem?] at e0
      have cc := (hb.cell (block_lt_of_cell cx.out)).trans cx.out
      simp [go_sem, e0, toldQuiet, Told.val, cc]
      exact Below.refl _ _
    · intro a w hb h
      have e0 : a.tmps.getD 5 undef = dz := h 5 (by simp)
      have e1 : a.tmps.getD 7 undef = px := h 7 (by simp)
      simp only [Array.getD_eq_getD_getElem?] at e0 e1
      simp [go_sem, e0, e1, toldQuiet]
      exact digOf (C2.out dz w (Hdz.out.step hb) (Hpx.out.step hb))
    · intro a w hb h
      have e0 : a.tmps.getD 1 undef = .pointer (some ⟨B, 0, none⟩) := h 1 (by simp)
      simp only [Array.getD_eq_getD_getElem?] at e0
      simp [go_sem, e0, toldQuiet, Told.val]
      exact Below.refl _ _
    · intro a w hb h
      have e0 : a.tmps.getD 9 undef = .pointer (some ⟨B, 1, none⟩) := h 9 (by simp)
      simp only [Array.getD_eq_getD_getElem?] at e0
      have cc := (hb.cell (block_lt_of_cell cy.out)).trans cy.out
      simp [go_sem, e0, toldQuiet, Told.val, cc]
      exact Below.refl _ _
    · intro a w hb h
      have e0 : a.tmps.getD 1 undef = .pointer (some ⟨B, 0, none⟩) := h 1 (by simp)
      simp only [Array.getD_eq_getD_getElem?] at e0
      simp [go_sem, e0, toldQuiet, Told.val]
      exact Below.refl _ _
    · intro a w hb h
      have e0 : a.tmps.getD 11 undef = .pointer (some ⟨B, 2, none⟩) := h 11 (by simp)
      simp only [Array.getD_eq_getD_getElem?] at e0
      have cc := (hb.cell (block_lt_of_cell cz.out)).trans cz.out
      simp [go_sem, e0, toldQuiet, Told.val, cc]
      exact Below.refl _ _
    · intro a w hb h
      have e0 : a.tmps.getD 3 undef = dz := h 3 (by simp)
      simp only [Array.getD_eq_getD_getElem?] at e0
      simp [go_sem, e0, toldQuiet, Told.val]
      exact Below.refl _ _
    · intro a w hb h
      have e0 : a.tmps.getD 1 undef = .pointer (some ⟨B, 0, none⟩) := h 1 (by simp)
      simp only [Array.getD_eq_getD_getElem?] at e0
      simp [go_sem, e0, toldQuiet, Told.val]
      exact Below.refl _ _
    · intro a w hb h
      have e0 : a.tmps.getD 14 undef = .pointer (some ⟨B, 3, none⟩) := h 14 (by simp)
      simp only [Array.getD_eq_getD_getElem?] at e0
      have cc := (hb.cell (block_lt_of_cell ct.out)).trans ct.out
      simp [go_sem, e0, toldQuiet, Told.val, cc]
      exact Below.refl _ _
    · intro a w hb h
      have e0 : a.tmps.getD 13 undef = dz := h 13 (by simp)
      have e1 : a.tmps.getD 15 undef = pt := h 15 (by simp)
      simp only [Array.getD_eq_getD_getElem?] at e0 e1
      simp [go_sem, e0, e1, toldQuiet]
      exact digOf (C3.out dz w (Hdz.out.step hb) (Hpt.out.step hb))
    · intro a w hb h
      have f0 : DigAt w (a.tmps.getD 8 undef) (digN mx) := h 8 (by simp)
      have e1 : a.tmps.getD 10 undef = py := h 10 (by simp)
      have e2 : a.tmps.getD 12 undef = pz := h 12 (by simp)
      have f3 : DigAt w (a.tmps.getD 16 undef) (digN mt) := h 16 (by simp)
      obtain ⟨u0, e0⟩ : ∃ u, a.tmps.getD 8 undef = u := ⟨_, rfl⟩
      obtain ⟨u3, e3⟩ : ∃ u, a.tmps.getD 16 undef = u := ⟨_, rfl⟩
      rw [e0] at f0
      rw [e3] at f3
      have hbd := build_pt f0 (Hpy.out.step hb) (Hpz.out.step hb) f3 w
      refine told_build rfl (cells := #[u0, py, pz, u3]) ?_ ⟨u0, py, pz, u3, rfl, f0, Hpy.out.step hb, Hpz.out.step hb, f3⟩
      rw [show (#[(0, Operand.tmp 8), (1, Operand.tmp 10), (2, Operand.tmp 12), (3, Operand.tmp 16)] : Array (Nat × Operand)).map (fun (i, x) => (i, a.eval x)) = #[(0, a.tmps.getD 8 undef), (1, a.tmps.getD 10 undef), (2, a.tmps.getD 12 undef), (3, a.tmps.getD 16 undef)] from by simp only [List.map_toArray, List.map_cons, List.map_nil]; rfl, e0, e1, e2, e3]
      exact hbd
  · simp only [List.take_succ_cons, List.take_zero, List.drop_succ_cons, List.drop_zero, toldEnd, Act.put, List.setIfInBounds_toArray, List.set_cons_succ, List.set_cons_zero]
    intro W2 bk v5 q5 v6 q6 v7 q7 v8 q8 v9 q9 v10 q10 v11 q11 v12 q12 v13 q13 v14 q14 v15 q15 v16 q16 v17 q17
    have q17 : PtAt W2 v17 ⟨mx, ny, nz, mt⟩ := q17
    obtain ⟨x, y, z, t, rfl⟩ := q17.four
    have hb1 : Below B w W2 := hb.trans (bk.mono (Nat.le_of_lt (blk_lt HA.out)))
    have HR1 := Lib.hid (blk_below bk (blk_lt HR.out) HR.out)
    have HSz := Lib.hid (sizeR x y z t); have HO := Lib.hid (zeroR_size x y z t); have H11 := Lib.hid q17.one
    have H6 := q17.rowed HR1.out ⟨_, _, _, rfl⟩ #[x, y, z, t]
    rw [← HN.out] at H6
    have H7 := Lib.hid H6
    clear HA HR hb bk q5 q6 q7 q8 q9 q10 q11 q12 q13 q14 q15 q16 q17 H6 cx cy cz ct C2 C3
    go_wp2_with (with_reducible refine wpList_store_row rfl 34 _ _ rfl (B + 1) #[x, y, z, t] rfl rfl 34 _ HR1.out HSz.out HO.out H11.out ?_)
    exact bodyPost_ret (v := .agg #[x, y, z, t]) (results_cell_row (by rfl) _ _ (B + 1) 34 _ (0, 0) _ rfl (setRow_heap _ _ _ _ _ _ HR1.out) Tryd.underlying34 rfl HSz.out) rfl ⟨⟨_, rfl, H7.out⟩, by rw [HBB.out]; exact below_setRow hb1 (by omega) _⟩
end Go.Proofs.YtcpdehfmlmmgiaaDoor
