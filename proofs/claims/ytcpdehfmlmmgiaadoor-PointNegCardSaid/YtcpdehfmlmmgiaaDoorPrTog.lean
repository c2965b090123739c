/- The reference's sum of two points. -/
import Derived.Test.YtcpdehfmlmmgiaaDoorPrBase
namespace Go.Proofs.YtcpdehfmlmmgiaaDoor
open Go.RowKit Go.Sort
set_option maxRecDepth 100000
set_option linter.unusedSimpArgs false
set_option linter.unusedVariables false

set_option maxHeartbeats 4000000 in
theorem rtog_any (vp vq vk : Value) (p q : PtN) (w : World) (hp : p.Ok) (hq : q.Ok) (h1 : PtAt w vp p) (h2 : PtAt w vq q) (h3 : DigAt w vk (digN twoF)) :
    Calls Tryd.prog 47 #[vp, vq, vk] w fun e w' => (∃ d', e = .returned d' ∧ PtAt w' d' (sumP p q)) ∧ Below w.heap.size w w' := by
  obtain ⟨hz, hi⟩ := zero_of_info infoR
  obtain ⟨px, py, pz, pt, rfl, kpx, kpy, kpz, kpt⟩ := h1
  obtain ⟨qx, qy, qz, qt, rfl, kqx, kqy, kqz, kqt⟩ := h2
  obtain ⟨lpx, lpy, lpz, lpt⟩ := hp
  obtain ⟨lqx, lqy, lqz, lqt⟩ := hq
  have hb := below_new3 w (.cells #[px, py, pz, pt] 34) (.cells #[qx, qy, qz, qt] 34) (.cells zeroR 34)
  have HA := Lib.hid (blk_old (o := .cells zeroR 34) (blk_old (o := .cells #[qx, qy, qz, qt] 34) (blk_new w (.cells #[px, py, pz, pt] 34))))
  have HB := Lib.hid (blk_old (o := .cells zeroR 34) (blk_new2 w (.cells #[px, py, pz, pt] 34) (.cells #[qx, qy, qz, qt] 34)))
  have HR := Lib.hid (blk_new3 w (.cells #[px, py, pz, pt] 34) (.cells #[qx, qy, qz, qt] 34) (.cells zeroR 34))
  have Hpx := Lib.hid (kpx.step hb)
  have Hpy := Lib.hid (kpy.step hb)
  have Hpz := Lib.hid (kpz.step hb)
  have Hpt := Lib.hid (kpt.step hb)
  have Hqx := Lib.hid (kqx.step hb)
  have Hqy := Lib.hid (kqy.step hb)
  have Hqz := Lib.hid (kqz.step hb)
  have Hqt := Lib.hid (kqt.step hb)
  have Hk := Lib.hid (h3.step hb)
  clear hi h3 kpx kpy kpz kpt kqx kqy kqz kqt
  have S1 := Lib.hid (fun d e W h1 h2 => subRef_any d e p.y p.x W lpy lpx h1 h2)
  have S2 := Lib.hid (fun d e W h1 h2 => subRef_any d e q.y q.x W lqy lqx h1 h2)
  have S3 := Lib.hid (fun d e W h1 h2 => mulRef_any d e (subF p.y p.x) (subF q.y q.x) W (subF_lt _ _) (subF_lt _ _) h1 h2)
  have A1 := Lib.hid (fun d e W h1 h2 => addRef_any d e p.y p.x W lpy lpx h1 h2)
  have A2 := Lib.hid (fun d e W h1 h2 => addRef_any d e q.y q.x W lqy lqx h1 h2)
  have A3 := Lib.hid (fun d e W h1 h2 => mulRef_any d e (addF p.y p.x) (addF q.y q.x) W (addF_lt _ _) (addF_lt _ _) h1 h2)
  have T1 := Lib.hid (fun d e W h1 h2 => mulRef_any d e p.t twoF W lpt twoF_lt h1 h2)
  have T2 := Lib.hid (fun d e W h1 h2 => mulRef_any d e (mulF p.t twoF) q.t W (mulF_lt _ _) lqt h1 h2)
  have M1 := Lib.hid (fun d e W h1 h2 => addRef_any d e p.z p.z W lpz lpz h1 h2)
  have M2 := Lib.hid (fun d e W h1 h2 => mulRef_any d e (addF p.z p.z) q.z W (addF_lt _ _) lqz h1 h2)
  rw [show mulF (subF p.y p.x) (subF q.y q.x) = sumA p q from rfl] at S3
  rw [show mulF (addF p.y p.x) (addF q.y q.x) = sumB p q from rfl] at A3
  rw [show mulF (mulF p.t twoF) q.t = sumC p q from rfl] at T2
  rw [show mulF (addF p.z p.z) q.z = sumM p q from rfl] at M2
  have la : sumA p q < pF := mulF_lt _ _
  have lb : sumB p q < pF := mulF_lt _ _
  have lc : sumC p q < pF := mulF_lt _ _
  have lm : sumM p q < pF := mulF_lt _ _
  have HS : Hid (sumP p q = ⟨mulF (subF (sumB p q) (sumA p q)) (subF (sumM p q) (sumC p q)), mulF (addF (sumM p q) (sumC p q)) (addF (sumB p q) (sumA p q)), mulF (subF (sumM p q) (sumC p q)) (addF (sumM p q) (sumC p q)), mulF (subF (sumB p q) (sumA p q)) (addF (sumB p q) (sumA p q))⟩) := Lib.hid rfl
  generalize p.x = npx at *
  generalize p.y = npy at *
  generalize p.z = npz at *
  generalize p.t = npt at *
  generalize q.x = nqx at *
  generalize q.y = nqy at *
  generalize q.z = nqz at *
  generalize q.t = nqt at *
  generalize subF npy npx = s1 at *
  generalize subF nqy nqx = s2 at *
  generalize addF npy npx = a1 at *
  generalize addF nqy nqx = a2 at *
  generalize mulF npt twoF = t1 at *
  generalize addF npz npz = m1 at *
  generalize twoF = k2 at *
  generalize sumA p q = sa at *
  generalize sumB p q = sb at *
  generalize sumC p q = sc at *
  generalize sumM p q = sm at *
  have E1 := Lib.hid (fun d e W h1 h2 => subRef_any d e sb sa W lb la h1 h2)
  have E2 := Lib.hid (fun d e W h1 h2 => subRef_any d e sm sc W lm lc h1 h2)
  have E3 := Lib.hid (fun d e W h1 h2 => addRef_any d e sm sc W lm lc h1 h2)
  have E4 := Lib.hid (fun d e W h1 h2 => addRef_any d e sb sa W lb la h1 h2)
  have le1 := subF_lt sb sa; have le2 := subF_lt sm sc; have le3 := addF_lt sm sc; have le4 := addF_lt sb sa
  generalize subF sb sa = ne at *
  generalize subF sm sc = nf at *
  generalize addF sm sc = ng at *
  generalize addF sb sa = nh at *
  have X1 := Lib.hid (fun d e W h1 h2 => mulRef_any d e ne nf W le1 le2 h1 h2)
  have X2 := Lib.hid (fun d e W h1 h2 => mulRef_any d e ng nh W le3 le4 h1 h2)
  have X3 := Lib.hid (fun d e W h1 h2 => mulRef_any d e nf ng W le2 le3 h1 h2)
  have X4 := Lib.hid (fun d e W h1 h2 => mulRef_any d e ne nh W le1 le4 h1 h2)
  generalize mulF ne nf = nx at *
  generalize mulF ng nh = ny at *
  generalize mulF nf ng = nz at *
  generalize mulF ne nh = nt at *
  clear lpx lpy lpz lpt lqx lqy lqz lqt la lb lc lm le1 le2 le3 le4
  go_enter Tryd.func47, Tryd.ntmps47
  go_upto_region 1 with fail
  clear hz
  generalize (((w.alloc _).alloc _).alloc _) = W0 at *
  generalize hBB : w.heap.size = B at *
  have HBB := Lib.hid hBB
  clear hBB
  have cpx : Hid (W0.cell? ⟨B, 0, none⟩ = some px) := Lib.hid (by rw [cell_of_row _ _ _ _ _ _ HA.out]; rfl)
  have cpy : Hid (W0.cell? ⟨B, 1, none⟩ = some py) := Lib.hid (by rw [cell_of_row _ _ _ _ _ _ HA.out]; rfl)
  have cpz : Hid (W0.cell? ⟨B, 2, none⟩ = some pz) := Lib.hid (by rw [cell_of_row _ _ _ _ _ _ HA.out]; rfl)
  have cpt : Hid (W0.cell? ⟨B, 3, none⟩ = some pt) := Lib.hid (by rw [cell_of_row _ _ _ _ _ _ HA.out]; rfl)
  have cqx : Hid (W0.cell? ⟨B + 1, 0, none⟩ = some qx) := Lib.hid (by rw [cell_of_row _ _ _ _ _ _ HB.out]; rfl)
  have cqy : Hid (W0.cell? ⟨B + 1, 1, none⟩ = some qy) := Lib.hid (by rw [cell_of_row _ _ _ _ _ _ HB.out]; rfl)
  have cqz : Hid (W0.cell? ⟨B + 1, 2, none⟩ = some qz) := Lib.hid (by rw [cell_of_row _ _ _ _ _ _ HB.out]; rfl)
  have cqt : Hid (W0.cell? ⟨B + 1, 3, none⟩ = some qt) := Lib.hid (by rw [cell_of_row _ _ _ _ _ _ HB.out]; rfl)
  refine wp_region_told 11 77 [(Told.val (.pointer (some ⟨B, 1, none⟩)), [3]),
    (Told.val py, [15]),
    (Told.val (.pointer (some ⟨B, 0, none⟩)), [3]),
    (Told.val px, [17]),
    (tDig s1, [16, 18]),
    (Told.val (.pointer (some ⟨B + 1, 1, none⟩)), [4]),
    (Told.val qy, [20]),
    (Told.val (.pointer (some ⟨B + 1, 0, none⟩)), [4]),
    (Told.val qx, [22]),
    (tDig s2, [21, 23]),
    (tDig sa, [19, 24])]
    (by kernel_rfl) (by kernel_rfl) rfl ?_ ?_
  · simp only [List.take_succ_cons, List.take_zero, toldObl, and_true]
    refine ⟨?_, ?_, ?_, ?_, ?_, ?_, ?_, ?_, ?_, ?_, ?_⟩
    · intro a w hb h
      have e0 : a.tmps.getD 3 undef = .pointer (some ⟨B, 0, none⟩) := h 3 (by simp)
      simp only [Array.getD_eq_getD_getElem?] at e0
      simp [go_sem, e0, toldQuiet, Told.val]
      exact Below.refl _ _
    · intro a w hb h
      have e0 : a.tmps.getD 15 undef = .pointer (some ⟨B, 1, none⟩) := h 15 (by simp)
      simp only [Array.getD_eq_getD_getElem?] at e0
      have cc := (hb.cell (block_lt_of_cell cpy.out)).trans cpy.out
      simp [go_sem, e0, toldQuiet, Told.val, cc]
      exact Below.refl _ _
    · intro a w hb h
      have e0 : a.tmps.getD 3 undef = .pointer (some ⟨B, 0, none⟩) := h 3 (by simp)
      simp only [Array.getD_eq_getD_getElem?] at e0
      simp [go_sem, e0, toldQuiet, Told.val]
      exact Below.refl _ _
    · intro a w hb h
      have e0 : a.tmps.getD 17 undef = .pointer (some ⟨B, 0, none⟩) := h 17 (by simp)
      simp only [Array.getD_eq_getD_getElem?] at e0
      have cc := (hb.cell (block_lt_of_cell cpx.out)).trans cpx.out
      simp [go_sem, e0, toldQuiet, Told.val, cc]
      exact Below.refl _ _
    · intro a w hb h
      have e0 : a.tmps.getD 16 undef = py := h 16 (by simp)
      have e1 : a.tmps.getD 18 undef = px := h 18 (by simp)
      simp only [Array.getD_eq_getD_getElem?] at e0 e1
      simp [go_sem, e0, e1, toldQuiet]
      exact digOf (S1.out py px w (Hpy.out.step hb) (Hpx.out.step hb))
    · intro a w hb h
      have e0 : a.tmps.getD 4 undef = .pointer (some ⟨B + 1, 0, none⟩) := h 4 (by simp)
      simp only [Array.getD_eq_getD_getElem?] at e0
      simp [go_sem, e0, toldQuiet, Told.val]
      exact Below.refl _ _
    · intro a w hb h
      have e0 : a.tmps.getD 20 undef = .pointer (some ⟨B + 1, 1, none⟩) := h 20 (by simp)
      simp only [Array.getD_eq_getD_getElem?] at e0
      have cc := (hb.cell (block_lt_of_cell cqy.out)).trans cqy.out
      simp [go_sem, e0, toldQuiet, Told.val, cc]
      exact Below.refl _ _
    · intro a w hb h
      have e0 : a.tmps.getD 4 undef = .pointer (some ⟨B + 1, 0, none⟩) := h 4 (by simp)
      simp only [Array.getD_eq_getD_getElem?] at e0
      simp [go_sem, e0, toldQuiet, Told.val]
      exact Below.refl _ _
    · intro a w hb h
      have e0 : a.tmps.getD 22 undef = .pointer (some ⟨B + 1, 0, none⟩) := h 22 (by simp)
      simp only [Array.getD_eq_getD_getElem?] at e0
      have cc := (hb.cell (block_lt_of_cell cqx.out)).trans cqx.out
      simp [go_sem, e0, toldQuiet, Told.val, cc]
      exact Below.refl _ _
    · intro a w hb h
      have e0 : a.tmps.getD 21 undef = qy := h 21 (by simp)
      have e1 : a.tmps.getD 23 undef = qx := h 23 (by simp)
      simp only [Array.getD_eq_getD_getElem?] at e0 e1
      simp [go_sem, e0, e1, toldQuiet]
      exact digOf (S2.out qy qx w (Hqy.out.step hb) (Hqx.out.step hb))
    · intro a w hb h
      have f0 : DigAt w (a.tmps.getD 19 undef) (digN s1) := h 19 (by simp)
      obtain ⟨u0, e0⟩ : ∃ u, a.tmps.getD 19 undef = u := ⟨_, rfl⟩
      rw [e0] at f0
      have f1 : DigAt w (a.tmps.getD 24 undef) (digN s2) := h 24 (by simp)
      obtain ⟨u1, e1⟩ : ∃ u, a.tmps.getD 24 undef = u := ⟨_, rfl⟩
      rw [e1] at f1
      simp only [Array.getD_eq_getD_getElem?] at e0 e1
      simp [go_sem, e0, e1, toldQuiet]
      exact digOf (S3.out u0 u1 w f0 f1)
  · simp only [List.take_succ_cons, List.take_zero, List.drop_succ_cons, List.drop_zero, toldEnd, Act.put, List.setIfInBounds_toArray, List.set_cons_succ, List.set_cons_zero]
    rintro W1 bk v15 q15 v16 q16 v17 q17 v18 q18 u19 h19 v20 q20 v21 q21 v22 q22 v23 q23 u24 h24 u25 h25
    obtain rfl := q15.symm
    obtain rfl := q16.symm
    obtain rfl := q17.symm
    obtain rfl := q18.symm
    obtain rfl := q20.symm
    obtain rfl := q21.symm
    obtain rfl := q22.symm
    obtain rfl := q23.symm
    have Hu25 : Hid (DigAt W1 u25 (digN sa)) := Lib.hid h25
    clear h19 h24 h25
    replace Hpx := Lib.hid (Hpx.out.step bk)
    replace Hpy := Lib.hid (Hpy.out.step bk)
    replace Hpz := Lib.hid (Hpz.out.step bk)
    replace Hpt := Lib.hid (Hpt.out.step bk)
    replace Hqx := Lib.hid (Hqx.out.step bk)
    replace Hqy := Lib.hid (Hqy.out.step bk)
    replace Hqz := Lib.hid (Hqz.out.step bk)
    replace Hqt := Lib.hid (Hqt.out.step bk)
    replace Hk := Lib.hid (Hk.out.step bk)
    replace hb := hb.trans (bk.mono (Nat.le_of_lt (blk_lt HA.out)))
    replace HA := Lib.hid (blk_below bk (blk_lt HA.out) HA.out)
    replace HB := Lib.hid (blk_below bk (blk_lt HB.out) HB.out)
    replace HR := Lib.hid (blk_below bk (blk_lt HR.out) HR.out)
    clear bk
    go_wp2_with fail
    have cpx : Hid (W1.cell? ⟨B, 0, none⟩ = some px) := Lib.hid (by rw [cell_of_row _ _ _ _ _ _ HA.out]; rfl)
    have cpy : Hid (W1.cell? ⟨B, 1, none⟩ = some py) := Lib.hid (by rw [cell_of_row _ _ _ _ _ _ HA.out]; rfl)
    have cpz : Hid (W1.cell? ⟨B, 2, none⟩ = some pz) := Lib.hid (by rw [cell_of_row _ _ _ _ _ _ HA.out]; rfl)
    have cpt : Hid (W1.cell? ⟨B, 3, none⟩ = some pt) := Lib.hid (by rw [cell_of_row _ _ _ _ _ _ HA.out]; rfl)
    have cqx : Hid (W1.cell? ⟨B + 1, 0, none⟩ = some qx) := Lib.hid (by rw [cell_of_row _ _ _ _ _ _ HB.out]; rfl)
    have cqy : Hid (W1.cell? ⟨B + 1, 1, none⟩ = some qy) := Lib.hid (by rw [cell_of_row _ _ _ _ _ _ HB.out]; rfl)
    have cqz : Hid (W1.cell? ⟨B + 1, 2, none⟩ = some qz) := Lib.hid (by rw [cell_of_row _ _ _ _ _ _ HB.out]; rfl)
    have cqt : Hid (W1.cell? ⟨B + 1, 3, none⟩ = some qt) := Lib.hid (by rw [cell_of_row _ _ _ _ _ _ HB.out]; rfl)
    refine wp_region_told 11 77 [(Told.val (.pointer (some ⟨B, 1, none⟩)), [3]),
    (Told.val py, [26]),
    (Told.val (.pointer (some ⟨B, 0, none⟩)), [3]),
    (Told.val px, [28]),
    (tDig a1, [27, 29]),
    (Told.val (.pointer (some ⟨B + 1, 1, none⟩)), [4]),
    (Told.val qy, [31]),
    (Told.val (.pointer (some ⟨B + 1, 0, none⟩)), [4]),
    (Told.val qx, [33]),
    (tDig a2, [32, 34]),
    (tDig sb, [30, 35])]
      (by kernel_rfl) (by kernel_rfl) rfl ?_ ?_
    · simp only [List.take_succ_cons, List.take_zero, toldObl, and_true]
      refine ⟨?_, ?_, ?_, ?_, ?_, ?_, ?_, ?_, ?_, ?_, ?_⟩
      · intro a w hb h
        have e0 : a.tmps.getD 3 undef = .pointer (some ⟨B, 0, none⟩) := h 3 (by simp)
        simp only [Array.getD_eq_getD_getElem?] at e0
        simp [go_sem, e0, toldQuiet, Told.val]
        exact Below.refl _ _
      · intro a w hb h
        have e0 : a.tmps.getD 26 undef = .pointer (some ⟨B, 1, none⟩) := h 26 (by simp)
        simp only [Array.getD_eq_getD_getElem?] at e0
        have cc := (hb.cell (block_lt_of_cell cpy.out)).trans cpy.out
        simp [go_sem, e0, toldQuiet, Told.val, cc]
        exact Below.refl _ _
      · intro a w hb h
        have e0 : a.tmps.getD 3 undef = .pointer (some ⟨B, 0, none⟩) := h 3 (by simp)
        simp only [Array.getD_eq_getD_getElem?] at e0
        simp [go_sem, e0, toldQuiet, Told.val]
        exact Below.refl _ _
      · intro a w hb h
        have e0 : a.tmps.getD 28 undef = .pointer (some ⟨B, 0, none⟩) := h 28 (by simp)
        simp only [Array.getD_eq_getD_getElem?] at e0
        have cc := (hb.cell (block_lt_of_cell cpx.out)).trans cpx.out
        simp [go_sem, e0, toldQuiet, Told.val, cc]
        exact Below.refl _ _
      · intro a w hb h
        have e0 : a.tmps.getD 27 undef = py := h 27 (by simp)
        have e1 : a.tmps.getD 29 undef = px := h 29 (by simp)
        simp only [Array.getD_eq_getD_getElem?] at e0 e1
        simp [go_sem, e0, e1, toldQuiet]
        exact digOf (A1.out py px w (Hpy.out.step hb) (Hpx.out.step hb))
      · intro a w hb h
        have e0 : a.tmps.getD 4 undef = .pointer (some ⟨B + 1, 0, none⟩) := h 4 (by simp)
        simp only [Array.getD_eq_getD_getElem?] at e0
        simp [go_sem, e0, toldQuiet, Told.val]
        exact Below.refl _ _
      · intro a w hb h
        have e0 : a.tmps.getD 31 undef = .pointer (some ⟨B + 1, 1, none⟩) := h 31 (by simp)
        simp only [Array.getD_eq_getD_getElem?] at e0
        have cc := (hb.cell (block_lt_of_cell cqy.out)).trans cqy.out
        simp [go_sem, e0, toldQuiet, Told.val, cc]
        exact Below.refl _ _
      · intro a w hb h
        have e0 : a.tmps.getD 4 undef = .pointer (some ⟨B + 1, 0, none⟩) := h 4 (by simp)
        simp only [Array.getD_eq_getD_getElem?] at e0
        simp [go_sem, e0, toldQuiet, Told.val]
        exact Below.refl _ _
      · intro a w hb h
        have e0 : a.tmps.getD 33 undef = .pointer (some ⟨B + 1, 0, none⟩) := h 33 (by simp)
        simp only [Array.getD_eq_getD_getElem?] at e0
        have cc := (hb.cell (block_lt_of_cell cqx.out)).trans cqx.out
        simp [go_sem, e0, toldQuiet, Told.val, cc]
        exact Below.refl _ _
      · intro a w hb h
        have e0 : a.tmps.getD 32 undef = qy := h 32 (by simp)
        have e1 : a.tmps.getD 34 undef = qx := h 34 (by simp)
        simp only [Array.getD_eq_getD_getElem?] at e0 e1
        simp [go_sem, e0, e1, toldQuiet]
        exact digOf (A2.out qy qx w (Hqy.out.step hb) (Hqx.out.step hb))
      · intro a w hb h
        have f0 : DigAt w (a.tmps.getD 30 undef) (digN a1) := h 30 (by simp)
        obtain ⟨u0, e0⟩ : ∃ u, a.tmps.getD 30 undef = u := ⟨_, rfl⟩
        rw [e0] at f0
        have f1 : DigAt w (a.tmps.getD 35 undef) (digN a2) := h 35 (by simp)
        obtain ⟨u1, e1⟩ : ∃ u, a.tmps.getD 35 undef = u := ⟨_, rfl⟩
        rw [e1] at f1
        simp only [Array.getD_eq_getD_getElem?] at e0 e1
        simp [go_sem, e0, e1, toldQuiet]
        exact digOf (A3.out u0 u1 w f0 f1)
    · simp only [List.take_succ_cons, List.take_zero, List.drop_succ_cons, List.drop_zero, toldEnd, Act.put, List.setIfInBounds_toArray, List.set_cons_succ, List.set_cons_zero]
      rintro W2 bk v26 q26 v27 q27 v28 q28 v29 q29 u30 h30 v31 q31 v32 q32 v33 q33 v34 q34 u35 h35 u36 h36
      obtain rfl := q26.symm
      obtain rfl := q27.symm
      obtain rfl := q28.symm
      obtain rfl := q29.symm
      obtain rfl := q31.symm
      obtain rfl := q32.symm
      obtain rfl := q33.symm
      obtain rfl := q34.symm
      have Hu36 : Hid (DigAt W2 u36 (digN sb)) := Lib.hid h36
      clear h30 h35 h36
      replace Hpx := Lib.hid (Hpx.out.step bk)
      replace Hpy := Lib.hid (Hpy.out.step bk)
      replace Hpz := Lib.hid (Hpz.out.step bk)
      replace Hpt := Lib.hid (Hpt.out.step bk)
      replace Hqx := Lib.hid (Hqx.out.step bk)
      replace Hqy := Lib.hid (Hqy.out.step bk)
      replace Hqz := Lib.hid (Hqz.out.step bk)
      replace Hqt := Lib.hid (Hqt.out.step bk)
      replace Hk := Lib.hid (Hk.out.step bk)
      replace Hu25 := Lib.hid (Hu25.out.step bk)
      replace hb := hb.trans (bk.mono (Nat.le_of_lt (blk_lt HA.out)))
      replace HA := Lib.hid (blk_below bk (blk_lt HA.out) HA.out)
      replace HB := Lib.hid (blk_below bk (blk_lt HB.out) HB.out)
      replace HR := Lib.hid (blk_below bk (blk_lt HR.out) HR.out)
      clear bk
      go_wp2_with fail
      have cpx : Hid (W2.cell? ⟨B, 0, none⟩ = some px) := Lib.hid (by rw [cell_of_row _ _ _ _ _ _ HA.out]; rfl)
      have cpy : Hid (W2.cell? ⟨B, 1, none⟩ = some py) := Lib.hid (by rw [cell_of_row _ _ _ _ _ _ HA.out]; rfl)
      have cpz : Hid (W2.cell? ⟨B, 2, none⟩ = some pz) := Lib.hid (by rw [cell_of_row _ _ _ _ _ _ HA.out]; rfl)
      have cpt : Hid (W2.cell? ⟨B, 3, none⟩ = some pt) := Lib.hid (by rw [cell_of_row _ _ _ _ _ _ HA.out]; rfl)
      have cqx : Hid (W2.cell? ⟨B + 1, 0, none⟩ = some qx) := Lib.hid (by rw [cell_of_row _ _ _ _ _ _ HB.out]; rfl)
      have cqy : Hid (W2.cell? ⟨B + 1, 1, none⟩ = some qy) := Lib.hid (by rw [cell_of_row _ _ _ _ _ _ HB.out]; rfl)
      have cqz : Hid (W2.cell? ⟨B + 1, 2, none⟩ = some qz) := Lib.hid (by rw [cell_of_row _ _ _ _ _ _ HB.out]; rfl)
      have cqt : Hid (W2.cell? ⟨B + 1, 3, none⟩ = some qt) := Lib.hid (by rw [cell_of_row _ _ _ _ _ _ HB.out]; rfl)
      refine wp_region_told 7 77 [(Told.val (.pointer (some ⟨B, 3, none⟩)), [3]),
    (Told.val pt, [37]),
    (Told.val vk, [2]),
    (tDig t1, [38, 39]),
    (Told.val (.pointer (some ⟨B + 1, 3, none⟩)), [4]),
    (Told.val qt, [41]),
    (tDig sc, [40, 42])]
        (by kernel_rfl) (by kernel_rfl) rfl ?_ ?_
      · simp only [List.take_succ_cons, List.take_zero, toldObl, and_true]
        refine ⟨?_, ?_, ?_, ?_, ?_, ?_, ?_⟩
        · intro a w hb h
          have e0 : a.tmps.getD 3 undef = .pointer (some ⟨B, 0, none⟩) := h 3 (by simp)
          simp only [Array.getD_eq_getD_getElem?] at e0
          simp [go_sem, e0, toldQuiet, Told.val]
          exact Below.refl _ _
        · intro a w hb h
          have e0 : a.tmps.getD 37 undef = .pointer (some ⟨B, 3, none⟩) := h 37 (by simp)
          simp only [Array.getD_eq_getD_getElem?] at e0
          have cc := (hb.cell (block_lt_of_cell cpt.out)).trans cpt.out
          simp [go_sem, e0, toldQuiet, Told.val, cc]
          exact Below.refl _ _
        · intro a w hb h
          have e0 : a.tmps.getD 2 undef = vk := h 2 (by simp)
          simp only [Array.getD_eq_getD_getElem?] at e0
          simp [go_sem, e0, toldQuiet, Told.val]
          exact Below.refl _ _
        · intro a w hb h
          have e0 : a.tmps.getD 38 undef = pt := h 38 (by simp)
          have e1 : a.tmps.getD 39 undef = vk := h 39 (by simp)
          simp only [Array.getD_eq_getD_getElem?] at e0 e1
          simp [go_sem, e0, e1, toldQuiet]
          exact digOf (T1.out pt vk w (Hpt.out.step hb) (Hk.out.step hb))
        · intro a w hb h
          have e0 : a.tmps.getD 4 undef = .pointer (some ⟨B + 1, 0, none⟩) := h 4 (by simp)
          simp only [Array.getD_eq_getD_getElem?] at e0
          simp [go_sem, e0, toldQuiet, Told.val]
          exact Below.refl _ _
        · intro a w hb h
          have e0 : a.tmps.getD 41 undef = .pointer (some ⟨B + 1, 3, none⟩) := h 41 (by simp)
          simp only [Array.getD_eq_getD_getElem?] at e0
          have cc := (hb.cell (block_lt_of_cell cqt.out)).trans cqt.out
          simp [go_sem, e0, toldQuiet, Told.val, cc]
          exact Below.refl _ _
        · intro a w hb h
          have f0 : DigAt w (a.tmps.getD 40 undef) (digN t1) := h 40 (by simp)
          obtain ⟨u0, e0⟩ : ∃ u, a.tmps.getD 40 undef = u := ⟨_, rfl⟩
          rw [e0] at f0
          have e1 : a.tmps.getD 42 undef = qt := h 42 (by simp)
          simp only [Array.getD_eq_getD_getElem?] at e0 e1
          simp [go_sem, e0, e1, toldQuiet]
          exact digOf (T2.out u0 qt w f0 (Hqt.out.step hb))
      · simp only [List.take_succ_cons, List.take_zero, List.drop_succ_cons, List.drop_zero, toldEnd, Act.put, List.setIfInBounds_toArray, List.set_cons_succ, List.set_cons_zero]
        rintro W3 bk v37 q37 v38 q38 v39 q39 u40 h40 v41 q41 v42 q42 u43 h43
        obtain rfl := q37.symm
        obtain rfl := q38.symm
        obtain rfl := q39.symm
        obtain rfl := q41.symm
        obtain rfl := q42.symm
        have Hu43 : Hid (DigAt W3 u43 (digN sc)) := Lib.hid h43
        clear h40 h43
        replace Hpx := Lib.hid (Hpx.out.step bk)
        replace Hpy := Lib.hid (Hpy.out.step bk)
        replace Hpz := Lib.hid (Hpz.out.step bk)
        replace Hpt := Lib.hid (Hpt.out.step bk)
        replace Hqx := Lib.hid (Hqx.out.step bk)
        replace Hqy := Lib.hid (Hqy.out.step bk)
        replace Hqz := Lib.hid (Hqz.out.step bk)
        replace Hqt := Lib.hid (Hqt.out.step bk)
        replace Hk := Lib.hid (Hk.out.step bk)
        replace Hu25 := Lib.hid (Hu25.out.step bk)
        replace Hu36 := Lib.hid (Hu36.out.step bk)
        replace hb := hb.trans (bk.mono (Nat.le_of_lt (blk_lt HA.out)))
        replace HA := Lib.hid (blk_below bk (blk_lt HA.out) HA.out)
        replace HB := Lib.hid (blk_below bk (blk_lt HB.out) HB.out)
        replace HR := Lib.hid (blk_below bk (blk_lt HR.out) HR.out)
        clear bk
        go_wp2_with fail
        have cpx : Hid (W3.cell? ⟨B, 0, none⟩ = some px) := Lib.hid (by rw [cell_of_row _ _ _ _ _ _ HA.out]; rfl)
        have cpy : Hid (W3.cell? ⟨B, 1, none⟩ = some py) := Lib.hid (by rw [cell_of_row _ _ _ _ _ _ HA.out]; rfl)
        have cpz : Hid (W3.cell? ⟨B, 2, none⟩ = some pz) := Lib.hid (by rw [cell_of_row _ _ _ _ _ _ HA.out]; rfl)
        have cpt : Hid (W3.cell? ⟨B, 3, none⟩ = some pt) := Lib.hid (by rw [cell_of_row _ _ _ _ _ _ HA.out]; rfl)
        have cqx : Hid (W3.cell? ⟨B + 1, 0, none⟩ = some qx) := Lib.hid (by rw [cell_of_row _ _ _ _ _ _ HB.out]; rfl)
        have cqy : Hid (W3.cell? ⟨B + 1, 1, none⟩ = some qy) := Lib.hid (by rw [cell_of_row _ _ _ _ _ _ HB.out]; rfl)
        have cqz : Hid (W3.cell? ⟨B + 1, 2, none⟩ = some qz) := Lib.hid (by rw [cell_of_row _ _ _ _ _ _ HB.out]; rfl)
        have cqt : Hid (W3.cell? ⟨B + 1, 3, none⟩ = some qt) := Lib.hid (by rw [cell_of_row _ _ _ _ _ _ HB.out]; rfl)
        refine wp_region_told 8 77 [(Told.val (.pointer (some ⟨B, 2, none⟩)), [3]),
    (Told.val pz, [44]),
    (Told.val (.pointer (some ⟨B, 2, none⟩)), [3]),
    (Told.val pz, [46]),
    (tDig m1, [45, 47]),
    (Told.val (.pointer (some ⟨B + 1, 2, none⟩)), [4]),
    (Told.val qz, [49]),
    (tDig sm, [48, 50])]
          (by kernel_rfl) (by kernel_rfl) rfl ?_ ?_
        · simp only [List.take_succ_cons, List.take_zero, toldObl, and_true]
          refine ⟨?_, ?_, ?_, ?_, ?_, ?_, ?_, ?_⟩
          · intro a w hb h
            have e0 : a.tmps.getD 3 undef = .pointer (some ⟨B, 0, none⟩) := h 3 (by simp)
            simp only [Array.getD_eq_getD_getElem?] at e0
            simp [go_sem, e0, toldQuiet, Told.val]
            exact Below.refl _ _
          · intro a w hb h
            have e0 : a.tmps.getD 44 undef = .pointer (some ⟨B, 2, none⟩) := h 44 (by simp)
            simp only [Array.getD_eq_getD_getElem?] at e0
            have cc := (hb.cell (block_lt_of_cell cpz.out)).trans cpz.out
            simp [go_sem, e0, toldQuiet, Told.val, cc]
            exact Below.refl _ _
          · intro a w hb h
            have e0 : a.tmps.getD 3 undef = .pointer (some ⟨B, 0, none⟩) := h 3 (by simp)
            simp only [Array.getD_eq_getD_getElem?] at e0
            simp [go_sem, e0, toldQuiet, Told.val]
            exact Below.refl _ _
          · intro a w hb h
            have e0 : a.tmps.getD 46 undef = .pointer (some ⟨B, 2, none⟩) := h 46 (by simp)
            simp only [Array.getD_eq_getD_getElem?] at e0
            have cc := (hb.cell (block_lt_of_cell cpz.out)).trans cpz.out
            simp [go_sem, e0, toldQuiet, Told.val, cc]
            exact Below.refl _ _
          · intro a w hb h
            have e0 : a.tmps.getD 45 undef = pz := h 45 (by simp)
            have e1 : a.tmps.getD 47 undef = pz := h 47 (by simp)
            simp only [Array.getD_eq_getD_getElem?] at e0 e1
            simp [go_sem, e0, e1, toldQuiet]
            exact digOf (M1.out pz pz w (Hpz.out.step hb) (Hpz.out.step hb))
          · intro a w hb h
            have e0 : a.tmps.getD 4 undef = .pointer (some ⟨B + 1, 0, none⟩) := h 4 (by simp)
            simp only [Array.getD_eq_getD_getElem?] at e0
            simp [go_sem, e0, toldQuiet, Told.val]
            exact Below.refl _ _
          · intro a w hb h
            have e0 : a.tmps.getD 49 undef = .pointer (some ⟨B + 1, 2, none⟩) := h 49 (by simp)
            simp only [Array.getD_eq_getD_getElem?] at e0
            have cc := (hb.cell (block_lt_of_cell cqz.out)).trans cqz.out
            simp [go_sem, e0, toldQuiet, Told.val, cc]
            exact Below.refl _ _
          · intro a w hb h
            have f0 : DigAt w (a.tmps.getD 48 undef) (digN m1) := h 48 (by simp)
            obtain ⟨u0, e0⟩ : ∃ u, a.tmps.getD 48 undef = u := ⟨_, rfl⟩
            rw [e0] at f0
            have e1 : a.tmps.getD 50 undef = qz := h 50 (by simp)
            simp only [Array.getD_eq_getD_getElem?] at e0 e1
            simp [go_sem, e0, e1, toldQuiet]
            exact digOf (M2.out u0 qz w f0 (Hqz.out.step hb))
        · simp only [List.take_succ_cons, List.take_zero, List.drop_succ_cons, List.drop_zero, toldEnd, Act.put, List.setIfInBounds_toArray, List.set_cons_succ, List.set_cons_zero]
          rintro W4 bk v44 q44 v45 q45 v46 q46 v47 q47 u48 h48 v49 q49 v50 q50 u51 h51
          obtain rfl := q44.symm
          obtain rfl := q45.symm
          obtain rfl := q46.symm
          obtain rfl := q47.symm
          obtain rfl := q49.symm
          obtain rfl := q50.symm
          have Hu51 : Hid (DigAt W4 u51 (digN sm)) := Lib.hid h51
          clear h48 h51
          replace Hpx := Lib.hid (Hpx.out.step bk)
          replace Hpy := Lib.hid (Hpy.out.step bk)
          replace Hpz := Lib.hid (Hpz.out.step bk)
          replace Hpt := Lib.hid (Hpt.out.step bk)
          replace Hqx := Lib.hid (Hqx.out.step bk)
          replace Hqy := Lib.hid (Hqy.out.step bk)
          replace Hqz := Lib.hid (Hqz.out.step bk)
          replace Hqt := Lib.hid (Hqt.out.step bk)
          replace Hk := Lib.hid (Hk.out.step bk)
          replace Hu25 := Lib.hid (Hu25.out.step bk)
          replace Hu36 := Lib.hid (Hu36.out.step bk)
          replace Hu43 := Lib.hid (Hu43.out.step bk)
          replace hb := hb.trans (bk.mono (Nat.le_of_lt (blk_lt HA.out)))
          replace HA := Lib.hid (blk_below bk (blk_lt HA.out) HA.out)
          replace HB := Lib.hid (blk_below bk (blk_lt HB.out) HB.out)
          replace HR := Lib.hid (blk_below bk (blk_lt HR.out) HR.out)
          clear bk
          go_wp2_with fail
          refine (E1.out u36 u25 W4 Hu36.out Hu25.out).mono ?_
          rintro e W5 ⟨⟨de, rfl, hde⟩, bk⟩
          have Hde := Lib.hid hde
          clear hde
          replace Hpx := Lib.hid (Hpx.out.step bk)
          replace Hpy := Lib.hid (Hpy.out.step bk)
          replace Hpz := Lib.hid (Hpz.out.step bk)
          replace Hpt := Lib.hid (Hpt.out.step bk)
          replace Hqx := Lib.hid (Hqx.out.step bk)
          replace Hqy := Lib.hid (Hqy.out.step bk)
          replace Hqz := Lib.hid (Hqz.out.step bk)
          replace Hqt := Lib.hid (Hqt.out.step bk)
          replace Hk := Lib.hid (Hk.out.step bk)
          replace Hu25 := Lib.hid (Hu25.out.step bk)
          replace Hu36 := Lib.hid (Hu36.out.step bk)
          replace Hu43 := Lib.hid (Hu43.out.step bk)
          replace Hu51 := Lib.hid (Hu51.out.step bk)
          replace hb := hb.trans (bk.mono (Nat.le_of_lt (blk_lt HA.out)))
          replace HA := Lib.hid (blk_below bk (blk_lt HA.out) HA.out)
          replace HB := Lib.hid (blk_below bk (blk_lt HB.out) HB.out)
          replace HR := Lib.hid (blk_below bk (blk_lt HR.out) HR.out)
          clear bk
          go_wp2_with fail
          refine (E2.out u51 u43 W5 Hu51.out Hu43.out).mono ?_
          rintro e W6 ⟨⟨df, rfl, hdf⟩, bk⟩
          have Hdf := Lib.hid hdf
          clear hdf
          replace Hpx := Lib.hid (Hpx.out.step bk)
          replace Hpy := Lib.hid (Hpy.out.step bk)
          replace Hpz := Lib.hid (Hpz.out.step bk)
          replace Hpt := Lib.hid (Hpt.out.step bk)
          replace Hqx := Lib.hid (Hqx.out.step bk)
          replace Hqy := Lib.hid (Hqy.out.step bk)
          replace Hqz := Lib.hid (Hqz.out.step bk)
          replace Hqt := Lib.hid (Hqt.out.step bk)
          replace Hk := Lib.hid (Hk.out.step bk)
          replace Hu25 := Lib.hid (Hu25.out.step bk)
          replace Hu36 := Lib.hid (Hu36.out.step bk)
          replace Hu43 := Lib.hid (Hu43.out.step bk)
          replace Hu51 := Lib.hid (Hu51.out.step bk)
          replace Hde := Lib.hid (Hde.out.step bk)
          replace hb := hb.trans (bk.mono (Nat.le_of_lt (blk_lt HA.out)))
          replace HA := Lib.hid (blk_below bk (blk_lt HA.out) HA.out)
          replace HB := Lib.hid (blk_below bk (blk_lt HB.out) HB.out)
          replace HR := Lib.hid (blk_below bk (blk_lt HR.out) HR.out)
          clear bk
          go_wp2_with fail
          refine (E3.out u51 u43 W6 Hu51.out Hu43.out).mono ?_
          rintro e W7 ⟨⟨dg, rfl, hdg⟩, bk⟩
          have Hdg := Lib.hid hdg
          clear hdg
          replace Hpx := Lib.hid (Hpx.out.step bk)
          replace Hpy := Lib.hid (Hpy.out.step bk)
          replace Hpz := Lib.hid (Hpz.out.step bk)
          replace Hpt := Lib.hid (Hpt.out.step bk)
          replace Hqx := Lib.hid (Hqx.out.step bk)
          replace Hqy := Lib.hid (Hqy.out.step bk)
          replace Hqz := Lib.hid (Hqz.out.step bk)
          replace Hqt := Lib.hid (Hqt.out.step bk)
          replace Hk := Lib.hid (Hk.out.step bk)
          replace Hu25 := Lib.hid (Hu25.out.step bk)
          replace Hu36 := Lib.hid (Hu36.out.step bk)
          replace Hu43 := Lib.hid (Hu43.out.step bk)
          replace Hu51 := Lib.hid (Hu51.out.step bk)
          replace Hde := Lib.hid (Hde.out.step bk)
          replace Hdf := Lib.hid (Hdf.out.step bk)
          replace hb := hb.trans (bk.mono (Nat.le_of_lt (blk_lt HA.out)))
          replace HA := Lib.hid (blk_below bk (blk_lt HA.out) HA.out)
          replace HB := Lib.hid (blk_below bk (blk_lt HB.out) HB.out)
          replace HR := Lib.hid (blk_below bk (blk_lt HR.out) HR.out)
          clear bk
          go_wp2_with fail
          refine (E4.out u36 u25 W7 Hu36.out Hu25.out).mono ?_
          rintro e W8 ⟨⟨dh, rfl, hdh⟩, bk⟩
          have Hdh := Lib.hid hdh
          clear hdh
          replace Hpx := Lib.hid (Hpx.out.step bk)
          replace Hpy := Lib.hid (Hpy.out.step bk)
          replace Hpz := Lib.hid (Hpz.out.step bk)
          replace Hpt := Lib.hid (Hpt.out.step bk)
          replace Hqx := Lib.hid (Hqx.out.step bk)
          replace Hqy := Lib.hid (Hqy.out.step bk)
          replace Hqz := Lib.hid (Hqz.out.step bk)
          replace Hqt := Lib.hid (Hqt.out.step bk)
          replace Hk := Lib.hid (Hk.out.step bk)
          replace Hu25 := Lib.hid (Hu25.out.step bk)
          replace Hu36 := Lib.hid (Hu36.out.step bk)
          replace Hu43 := Lib.hid (Hu43.out.step bk)
          replace Hu51 := Lib.hid (Hu51.out.step bk)
          replace Hde := Lib.hid (Hde.out.step bk)
          replace Hdf := Lib.hid (Hdf.out.step bk)
          replace Hdg := Lib.hid (Hdg.out.step bk)
          replace hb := hb.trans (bk.mono (Nat.le_of_lt (blk_lt HA.out)))
          replace HA := Lib.hid (blk_below bk (blk_lt HA.out) HA.out)
          replace HB := Lib.hid (blk_below bk (blk_lt HB.out) HB.out)
          replace HR := Lib.hid (blk_below bk (blk_lt HR.out) HR.out)
          clear bk
          go_wp2_with fail
          refine (X1.out de df W8 Hde.out Hdf.out).mono ?_
          rintro e W9 ⟨⟨dx, rfl, hdx⟩, bk⟩
          have Hdx := Lib.hid hdx
          clear hdx
          replace Hpx := Lib.hid (Hpx.out.step bk)
          replace Hpy := Lib.hid (Hpy.out.step bk)
          replace Hpz := Lib.hid (Hpz.out.step bk)
          replace Hpt := Lib.hid (Hpt.out.step bk)
          replace Hqx := Lib.hid (Hqx.out.step bk)
          replace Hqy := Lib.hid (Hqy.out.step bk)
          replace Hqz := Lib.hid (Hqz.out.step bk)
          replace Hqt := Lib.hid (Hqt.out.step bk)
          replace Hk := Lib.hid (Hk.out.step bk)
          replace Hu25 := Lib.hid (Hu25.out.step bk)
          replace Hu36 := Lib.hid (Hu36.out.step bk)
          replace Hu43 := Lib.hid (Hu43.out.step bk)
          replace Hu51 := Lib.hid (Hu51.out.step bk)
          replace Hde := Lib.hid (Hde.out.step bk)
          replace Hdf := Lib.hid (Hdf.out.step bk)
          replace Hdg := Lib.hid (Hdg.out.step bk)
          replace Hdh := Lib.hid (Hdh.out.step bk)
          replace hb := hb.trans (bk.mono (Nat.le_of_lt (blk_lt HA.out)))
          replace HA := Lib.hid (blk_below bk (blk_lt HA.out) HA.out)
          replace HB := Lib.hid (blk_below bk (blk_lt HB.out) HB.out)
          replace HR := Lib.hid (blk_below bk (blk_lt HR.out) HR.out)
          clear bk
          go_wp2_with fail
          refine (X2.out dg dh W9 Hdg.out Hdh.out).mono ?_
          rintro e W10 ⟨⟨dy, rfl, hdy⟩, bk⟩
          have Hdy := Lib.hid hdy
          clear hdy
          replace Hpx := Lib.hid (Hpx.out.step bk)
          replace Hpy := Lib.hid (Hpy.out.step bk)
          replace Hpz := Lib.hid (Hpz.out.step bk)
          replace Hpt := Lib.hid (Hpt.out.step bk)
          replace Hqx := Lib.hid (Hqx.out.step bk)
          replace Hqy := Lib.hid (Hqy.out.step bk)
          replace Hqz := Lib.hid (Hqz.out.step bk)
          replace Hqt := Lib.hid (Hqt.out.step bk)
          replace Hk := Lib.hid (Hk.out.step bk)
          replace Hu25 := Lib.hid (Hu25.out.step bk)
          replace Hu36 := Lib.hid (Hu36.out.step bk)
          replace Hu43 := Lib.hid (Hu43.out.step bk)
          replace Hu51 := Lib.hid (Hu51.out.step bk)
          replace Hde := Lib.hid (Hde.out.step bk)
          replace Hdf := Lib.hid (Hdf.out.step bk)
          replace Hdg := Lib.hid (Hdg.out.step bk)
          replace Hdh := Lib.hid (Hdh.out.step bk)
          replace Hdx := Lib.hid (Hdx.out.step bk)
          replace hb := hb.trans (bk.mono (Nat.le_of_lt (blk_lt HA.out)))
          replace HA := Lib.hid (blk_below bk (blk_lt HA.out) HA.out)
          replace HB := Lib.hid (blk_below bk (blk_lt HB.out) HB.out)
          replace HR := Lib.hid (blk_below bk (blk_lt HR.out) HR.out)
          clear bk
          go_wp2_with fail
          refine (X3.out df dg W10 Hdf.out Hdg.out).mono ?_
          rintro e W11 ⟨⟨dz, rfl, hdz⟩, bk⟩
          have Hdz := Lib.hid hdz
          clear hdz
          replace Hpx := Lib.hid (Hpx.out.step bk)
          replace Hpy := Lib.hid (Hpy.out.step bk)
          replace Hpz := Lib.hid (Hpz.out.step bk)
          replace Hpt := Lib.hid (Hpt.out.step bk)
          replace Hqx := Lib.hid (Hqx.out.step bk)
          replace Hqy := Lib.hid (Hqy.out.step bk)
          replace Hqz := Lib.hid (Hqz.out.step bk)
          replace Hqt := Lib.hid (Hqt.out.step bk)
          replace Hk := Lib.hid (Hk.out.step bk)
          replace Hu25 := Lib.hid (Hu25.out.step bk)
          replace Hu36 := Lib.hid (Hu36.out.step bk)
          replace Hu43 := Lib.hid (Hu43.out.step bk)
          replace Hu51 := Lib.hid (Hu51.out.step bk)
          replace Hde := Lib.hid (Hde.out.step bk)
          replace Hdf := Lib.hid (Hdf.out.step bk)
          replace Hdg := Lib.hid (Hdg.out.step bk)
          replace Hdh := Lib.hid (Hdh.out.step bk)
          replace Hdx := Lib.hid (Hdx.out.step bk)
          replace Hdy := Lib.hid (Hdy.out.step bk)
          replace hb := hb.trans (bk.mono (Nat.le_of_lt (blk_lt HA.out)))
          replace HA := Lib.hid (blk_below bk (blk_lt HA.out) HA.out)
          replace HB := Lib.hid (blk_below bk (blk_lt HB.out) HB.out)
          replace HR := Lib.hid (blk_below bk (blk_lt HR.out) HR.out)
          clear bk
          go_wp2_with fail
          refine (X4.out de dh W11 Hde.out Hdh.out).mono ?_
          rintro e W12 ⟨⟨dt, rfl, hdt⟩, bk⟩
          have Hdt := Lib.hid hdt
          clear hdt
          replace Hpx := Lib.hid (Hpx.out.step bk)
          replace Hpy := Lib.hid (Hpy.out.step bk)
          replace Hpz := Lib.hid (Hpz.out.step bk)
          replace Hpt := Lib.hid (Hpt.out.step bk)
          replace Hqx := Lib.hid (Hqx.out.step bk)
          replace Hqy := Lib.hid (Hqy.out.step bk)
          replace Hqz := Lib.hid (Hqz.out.step bk)
          replace Hqt := Lib.hid (Hqt.out.step bk)
          replace Hk := Lib.hid (Hk.out.step bk)
          replace Hu25 := Lib.hid (Hu25.out.step bk)
          replace Hu36 := Lib.hid (Hu36.out.step bk)
          replace Hu43 := Lib.hid (Hu43.out.step bk)
          replace Hu51 := Lib.hid (Hu51.out.step bk)
          replace Hde := Lib.hid (Hde.out.step bk)
          replace Hdf := Lib.hid (Hdf.out.step bk)
          replace Hdg := Lib.hid (Hdg.out.step bk)
          replace Hdh := Lib.hid (Hdh.out.step bk)
          replace Hdx := Lib.hid (Hdx.out.step bk)
          replace Hdy := Lib.hid (Hdy.out.step bk)
          replace Hdz := Lib.hid (Hdz.out.step bk)
          replace hb := hb.trans (bk.mono (Nat.le_of_lt (blk_lt HA.out)))
          replace HA := Lib.hid (blk_below bk (blk_lt HA.out) HA.out)
          replace HB := Lib.hid (blk_below bk (blk_lt HB.out) HB.out)
          replace HR := Lib.hid (blk_below bk (blk_lt HR.out) HR.out)
          clear bk
          have hbd := build_pt Hdx.out Hdy.out Hdz.out Hdt.out
          have HSz := Lib.hid (sizeR dx dy dz dt); have HO := Lib.hid (zeroR_size dx dy dz dt); have H11 := Lib.hid (sliceR_one Hdx.out Hdy.out Hdz.out Hdt.out)
          go_wp2_with (first
            | (with_reducible refine wpList_build_pt rfl _ _ _ _ rfl dx dy dz dt rfl rfl rfl rfl hbd ?_)
            | (with_reducible refine wpList_store_row rfl 34 _ _ rfl (B + 1 + 1) #[dx, dy, dz, dt] rfl rfl 34 _ HR.out HSz.out HO.out H11.out ?_))
          have H5 : PtAt W12 (.agg #[dx, dy, dz, dt]) ⟨nx, ny, nz, nt⟩ := ⟨dx, dy, dz, dt, rfl, Hdx.out, Hdy.out, Hdz.out, Hdt.out⟩
          have H6 := H5.rowed HR.out ⟨_, _, _, rfl⟩ #[dx, dy, dz, dt]
          rw [← HS.out] at H6
          exact bodyPost_ret (v := .agg #[dx, dy, dz, dt]) (results_cell_row (by rfl) _ _ (B + 1 + 1) 34 _ (0, 0) _ rfl (setRow_heap _ _ _ _ _ _ HR.out) Tryd.underlying34 rfl HSz.out) rfl ⟨⟨_, rfl, H6⟩, by rw [HBB.out]; exact below_setRow hb (by omega) _⟩
end Go.Proofs.YtcpdehfmlmmgiaaDoor
