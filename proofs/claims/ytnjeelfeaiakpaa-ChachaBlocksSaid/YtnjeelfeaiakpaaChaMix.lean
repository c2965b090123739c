/- The program's mixed: ten rounds on sixteen numbers that are passed by value. -/
import Derived.Test.YtnjeelfeaiakpaaChaFns
import Derived.Laws.Tables
namespace Go.Proofs.Ytnjeelfeaiakpaa
open Go.RowKit Go.Sort
set_option maxRecDepth 100000
set_option linter.unusedSimpArgs false
set_option linter.unusedVariables false

/-- The cells of a state. -/
def stc (l : List Int) : Array Value := (u32s l).toArray
def zeros16 : Array Value := stc (List.replicate 16 0)
theorem infoSt : (Try.prog.info? 36).map (fun i => (i.zero, i.size)) = some (some (.agg zeros16), 16) := by kernel_rfl
theorem stc_size (l : List Int) : (stc l).size = l.length := by simp [stc, u32s]
theorem stc_get (l : List Int) (j : Nat) (h : j < l.length) : (stc l)[j]? = some (.int .u32 (l.getD j 0)) := by simp [stc, u32s, h]
theorem stc_set (l : List Int) (j : Nat) (x : Int) : (stc l).setIfInBounds j (.int .u32 x) = stc (l.set j x) := by simp [stc, u32s, List.map_set]
theorem stc_one (l : List Int) : (stc l).all (·.oneCell') = true := by
  rw [Array.all_eq_true]
  intro i hi
  simp [stc, u32s, Value.oneCell']
theorem sixteen (l : List Int) (h : l.length = 16) : ∃ x0 x1 x2 x3 x4 x5 x6 x7 x8 x9 x10 x11 x12 x13 x14 x15, l = [x0, x1, x2, x3, x4, x5, x6, x7, x8, x9, x10, x11, x12, x13, x14, x15] := by
  match l, h with
  | [x0, x1, x2, x3, x4, x5, x6, x7, x8, x9, x10, x11, x12, x13, x14, x15], _ => exact ⟨_, _, _, _, _, _, _, _, _, _, _, _, _, _, _, _, rfl⟩
theorem one_set {w W : World} {B : Nat} {l : List Int} {T : TypeId} {o : Obj} (a : Nat) (x : Int) (hg : W.heap[B]? = some (.cells (stc l) T)) (hr : W.heap[B + 1]? = some o) (hb : Below B w W) :
    (W.setCell ⟨B, a, none⟩ (.int .u32 x)).heap[B]? = some (.cells (stc (l.set a x)) T) ∧ (W.setCell ⟨B, a, none⟩ (.int .u32 x)).heap[B + 1]? = some o ∧ Below B w (W.setCell ⟨B, a, none⟩ (.int .u32 x)) := by
  refine ⟨?_, ?_, hb.setCell (by simp) _⟩
  · rw [← stc_set]; exact Go.heap_setCell_same _ _ _ _ _ _ hg
  · rw [heap_setCell_other _ _ _ _ (by simp)]; exact hr
theorem four_set {w W : World} {B : Nat} {l : List Int} {T : TypeId} {o : Obj} (a b c d : Nat) (x y z u : Int) (hg : W.heap[B]? = some (.cells (stc l) T)) (hr : W.heap[B + 1]? = some o) (hb : Below B w W) :
    ((((W.setCell ⟨B, a, none⟩ (.int .u32 x)).setCell ⟨B, b, none⟩ (.int .u32 y)).setCell ⟨B, c, none⟩ (.int .u32 z)).setCell ⟨B, d, none⟩ (.int .u32 u)).heap[B]? = some (.cells (stc ((((l.set a x).set b y).set c z).set d u)) T) ∧
    ((((W.setCell ⟨B, a, none⟩ (.int .u32 x)).setCell ⟨B, b, none⟩ (.int .u32 y)).setCell ⟨B, c, none⟩ (.int .u32 z)).setCell ⟨B, d, none⟩ (.int .u32 u)).heap[B + 1]? = some o ∧
    Below B w ((((W.setCell ⟨B, a, none⟩ (.int .u32 x)).setCell ⟨B, b, none⟩ (.int .u32 y)).setCell ⟨B, c, none⟩ (.int .u32 z)).setCell ⟨B, d, none⟩ (.int .u32 u)) := by
  obtain ⟨h1, h2, h3⟩ := one_set a x hg hr hb
  obtain ⟨h1, h2, h3⟩ := one_set b y h1 h2 h3
  obtain ⟨h1, h2, h3⟩ := one_set c z h1 h2 h3
  exact one_set d u h1 h2 h3

set_option maxHeartbeats 4000000 in
theorem mixed_any (v : List Int) (w : World) (hl : v.length = 16) :
    Calls Try.prog 20 #[.agg (stc v)] w fun e w' => e = .returned (.agg (stc (roundsL v 10))) ∧ Below w.heap.size w w' := by
  obtain ⟨hz, hi⟩ := zero_of_info infoSt
  have HI := Lib.hid (show (Try.prog.info? 36).map (·.size) = some (stc v).size from by rw [stc_size, hl]; exact hi)
  have H1 := Lib.hid (stc_one v)
  have HL := Lib.hid hl
  have HG0 := Lib.hid (blk_old (o := .cells zeros16 36) (blk_new w (.cells (stc v) 36)))
  have HR0 := Lib.hid (blk_new2 w (.cells (stc v) 36) (.cells zeros16 36))
  have hb0 := below_new2 w (.cells (stc v) 36) (.cells zeros16 36)
  have HI2 := Lib.hid hi
  clear hi hl
  go_enter Try.func20, Try.ntmps20
  go_wp2_with fail
  clear hz
  generalize ((w.alloc _).alloc _) = W0 at *
  generalize hBB : w.heap.size = B at *
  have HBB := Lib.hid hBB
  clear hBB
  go_loopw [3] (fun i wr => ∃ k : Nat, k ≤ 10 ∧ i = .int .i64 (k : Int) ∧ wr.heap[B]? = some (.cells (stc (roundsL v k)) 36) ∧ wr.heap[B + 1]? = some (.cells zeros16 36) ∧ Below B w wr) (fun i _ => 10 - (intOf i).toNat)
  case atStart => exact ⟨0, by omega, rfl, HG0.out, HR0.out, hb0⟩
  case round =>
    clear HG0 HR0 hb0
    obtain ⟨k, hk, rfl, hg, hr, hb⟩ := hrel
    by_cases hlt : k < 10
    · have hd : decide ((k : Int) < 10) = true := by simp; omega
      have HRD : Hid (roundsL v (k + 1) = roundL (roundsL v k)) := Lib.hid rfl
      obtain ⟨x0, x1, x2, x3, x4, x5, x6, x7, x8, x9, x10, x11, x12, x13, x14, x15, hx⟩ := sixteen (roundsL v k) (by rw [roundsL_length]; exact HL.out)
      rw [hx] at hg
      have HX := Lib.hid hx
      clear hx
      have HG := Lib.hid hg; have HR := Lib.hid hr
      clear hg hr
      obtain ⟨W, hW⟩ : ∃ W, W = wr := ⟨_, rfl⟩
      subst hW
      have c0 : W.cell? ⟨B, 0, none⟩ = some (.int .u32 x0) := by rw [cell_of_row W _ _ _ _ _ HG.out]; exact stc_get _ 0 (by simp)
      have c4 : W.cell? ⟨B, 4, none⟩ = some (.int .u32 x4) := by rw [cell_of_row W _ _ _ _ _ HG.out]; exact stc_get _ 4 (by simp)
      have c8 : W.cell? ⟨B, 8, none⟩ = some (.int .u32 x8) := by rw [cell_of_row W _ _ _ _ _ HG.out]; exact stc_get _ 8 (by simp)
      have c12 : W.cell? ⟨B, 12, none⟩ = some (.int .u32 x12) := by rw [cell_of_row W _ _ _ _ _ HG.out]; exact stc_get _ 12 (by simp)
      go_wp2_with fail
      clear c0 c4 c8 c12
      refine (quarter4_any x0 x4 x8 x12 _).mono ?_
      rintro e W1 ⟨rfl, rfl⟩
      obtain ⟨⟨y0_0, y0_4, y0_8, y0_12⟩, hq⟩ : ∃ t, t = q4 x0 x4 x8 x12 := ⟨_, rfl⟩
      rw [← hq]
      have HE0 : Hid (qrL [x0, x1, x2, x3, x4, x5, x6, x7, x8, x9, x10, x11, x12, x13, x14, x15] 0 4 8 12 = [y0_0, x1, x2, x3, y0_4, x5, x6, x7, y0_8, x9, x10, x11, y0_12, x13, x14, x15]) := Lib.hid (by simp only [q4, Prod.mk.injEq] at hq; obtain ⟨rfl, rfl, rfl, rfl⟩ := hq; rfl)
      clear hq
      try dsimp only
      have c0 : W.cell? ⟨B, 0, none⟩ = some (.int .u32 x0) := by rw [cell_of_row W _ _ _ _ _ HG.out]; exact stc_get _ 0 (by simp)
      have f0 : W.frozen? ⟨B, 0, none⟩ = false := frozen_of_row W _ _ _ _ HG.out
      have c1 : W.cell? ⟨B, 1, none⟩ = some (.int .u32 x1) := by rw [cell_of_row W _ _ _ _ _ HG.out]; exact stc_get _ 1 (by simp)
      have c4 : W.cell? ⟨B, 4, none⟩ = some (.int .u32 x4) := by rw [cell_of_row W _ _ _ _ _ HG.out]; exact stc_get _ 4 (by simp)
      have f4 : W.frozen? ⟨B, 4, none⟩ = false := frozen_of_row W _ _ _ _ HG.out
      have c5 : W.cell? ⟨B, 5, none⟩ = some (.int .u32 x5) := by rw [cell_of_row W _ _ _ _ _ HG.out]; exact stc_get _ 5 (by simp)
      have c8 : W.cell? ⟨B, 8, none⟩ = some (.int .u32 x8) := by rw [cell_of_row W _ _ _ _ _ HG.out]; exact stc_get _ 8 (by simp)
      have f8 : W.frozen? ⟨B, 8, none⟩ = false := frozen_of_row W _ _ _ _ HG.out
      have c9 : W.cell? ⟨B, 9, none⟩ = some (.int .u32 x9) := by rw [cell_of_row W _ _ _ _ _ HG.out]; exact stc_get _ 9 (by simp)
      have c12 : W.cell? ⟨B, 12, none⟩ = some (.int .u32 x12) := by rw [cell_of_row W _ _ _ _ _ HG.out]; exact stc_get _ 12 (by simp)
      have f12 : W.frozen? ⟨B, 12, none⟩ = false := frozen_of_row W _ _ _ _ HG.out
      have c13 : W.cell? ⟨B, 13, none⟩ = some (.int .u32 x13) := by rw [cell_of_row W _ _ _ _ _ HG.out]; exact stc_get _ 13 (by simp)
      have HF := Lib.hid (four_set 0 4 8 12 y0_0 y0_4 y0_8 y0_12 HG.out HR.out hb)
      go_wp2_with fail
      clear c0 c1 c4 c5 c8 c9 c12 c13 f0 f4 f8 f12 HG HR hb
      generalize (World.setCell _ _ _) = V1 at *
      obtain ⟨hg, hr, hb⟩ := HF.out
      have HG : Hid (V1.heap[B]? = some (.cells (stc [y0_0, x1, x2, x3, y0_4, x5, x6, x7, y0_8, x9, x10, x11, y0_12, x13, x14, x15]) 36)) := Lib.hid hg
      have HR := Lib.hid hr
      clear hg hr HF
      refine (quarter4_any x1 x5 x9 x13 _).mono ?_
      rintro e W2 ⟨rfl, rfl⟩
      obtain ⟨⟨y1_1, y1_5, y1_9, y1_13⟩, hq⟩ : ∃ t, t = q4 x1 x5 x9 x13 := ⟨_, rfl⟩
      rw [← hq]
      have HE1 : Hid (qrL [y0_0, x1, x2, x3, y0_4, x5, x6, x7, y0_8, x9, x10, x11, y0_12, x13, x14, x15] 1 5 9 13 = [y0_0, y1_1, x2, x3, y0_4, y1_5, x6, x7, y0_8, y1_9, x10, x11, y0_12, y1_13, x14, x15]) := Lib.hid (by simp only [q4, Prod.mk.injEq] at hq; obtain ⟨rfl, rfl, rfl, rfl⟩ := hq; rfl)
      clear hq
      try dsimp only
      have c1 : V1.cell? ⟨B, 1, none⟩ = some (.int .u32 x1) := by rw [cell_of_row V1 _ _ _ _ _ HG.out]; exact stc_get _ 1 (by simp)
      have f1 : V1.frozen? ⟨B, 1, none⟩ = false := frozen_of_row V1 _ _ _ _ HG.out
      have c2 : V1.cell? ⟨B, 2, none⟩ = some (.int .u32 x2) := by rw [cell_of_row V1 _ _ _ _ _ HG.out]; exact stc_get _ 2 (by simp)
      have c5 : V1.cell? ⟨B, 5, none⟩ = some (.int .u32 x5) := by rw [cell_of_row V1 _ _ _ _ _ HG.out]; exact stc_get _ 5 (by simp)
      have f5 : V1.frozen? ⟨B, 5, none⟩ = false := frozen_of_row V1 _ _ _ _ HG.out
      have c6 : V1.cell? ⟨B, 6, none⟩ = some (.int .u32 x6) := by rw [cell_of_row V1 _ _ _ _ _ HG.out]; exact stc_get _ 6 (by simp)
      have c9 : V1.cell? ⟨B, 9, none⟩ = some (.int .u32 x9) := by rw [cell_of_row V1 _ _ _ _ _ HG.out]; exact stc_get _ 9 (by simp)
      have f9 : V1.frozen? ⟨B, 9, none⟩ = false := frozen_of_row V1 _ _ _ _ HG.out
      have c10 : V1.cell? ⟨B, 10, none⟩ = some (.int .u32 x10) := by rw [cell_of_row V1 _ _ _ _ _ HG.out]; exact stc_get _ 10 (by simp)
      have c13 : V1.cell? ⟨B, 13, none⟩ = some (.int .u32 x13) := by rw [cell_of_row V1 _ _ _ _ _ HG.out]; exact stc_get _ 13 (by simp)
      have f13 : V1.frozen? ⟨B, 13, none⟩ = false := frozen_of_row V1 _ _ _ _ HG.out
      have c14 : V1.cell? ⟨B, 14, none⟩ = some (.int .u32 x14) := by rw [cell_of_row V1 _ _ _ _ _ HG.out]; exact stc_get _ 14 (by simp)
      have HF := Lib.hid (four_set 1 5 9 13 y1_1 y1_5 y1_9 y1_13 HG.out HR.out hb)
      go_wp2_with fail
      clear c1 c2 c5 c6 c9 c10 c13 c14 f1 f5 f9 f13 HG HR hb
      generalize (World.setCell _ _ _) = V2 at *
      obtain ⟨hg, hr, hb⟩ := HF.out
      have HG : Hid (V2.heap[B]? = some (.cells (stc [y0_0, y1_1, x2, x3, y0_4, y1_5, x6, x7, y0_8, y1_9, x10, x11, y0_12, y1_13, x14, x15]) 36)) := Lib.hid hg
      have HR := Lib.hid hr
      clear hg hr HF
      refine (quarter4_any x2 x6 x10 x14 _).mono ?_
      rintro e W3 ⟨rfl, rfl⟩
      obtain ⟨⟨y2_2, y2_6, y2_10, y2_14⟩, hq⟩ : ∃ t, t = q4 x2 x6 x10 x14 := ⟨_, rfl⟩
      rw [← hq]
      have HE2 : Hid (qrL [y0_0, y1_1, x2, x3, y0_4, y1_5, x6, x7, y0_8, y1_9, x10, x11, y0_12, y1_13, x14, x15] 2 6 10 14 = [y0_0, y1_1, y2_2, x3, y0_4, y1_5, y2_6, x7, y0_8, y1_9, y2_10, x11, y0_12, y1_13, y2_14, x15]) := Lib.hid (by simp only [q4, Prod.mk.injEq] at hq; obtain ⟨rfl, rfl, rfl, rfl⟩ := hq; rfl)
      clear hq
      try dsimp only
      have c2 : V2.cell? ⟨B, 2, none⟩ = some (.int .u32 x2) := by rw [cell_of_row V2 _ _ _ _ _ HG.out]; exact stc_get _ 2 (by simp)
      have f2 : V2.frozen? ⟨B, 2, none⟩ = false := frozen_of_row V2 _ _ _ _ HG.out
      have c3 : V2.cell? ⟨B, 3, none⟩ = some (.int .u32 x3) := by rw [cell_of_row V2 _ _ _ _ _ HG.out]; exact stc_get _ 3 (by simp)
      have c6 : V2.cell? ⟨B, 6, none⟩ = some (.int .u32 x6) := by rw [cell_of_row V2 _ _ _ _ _ HG.out]; exact stc_get _ 6 (by simp)
      have f6 : V2.frozen? ⟨B, 6, none⟩ = false := frozen_of_row V2 _ _ _ _ HG.out
      have c7 : V2.cell? ⟨B, 7, none⟩ = some (.int .u32 x7) := by rw [cell_of_row V2 _ _ _ _ _ HG.out]; exact stc_get _ 7 (by simp)
      have c10 : V2.cell? ⟨B, 10, none⟩ = some (.int .u32 x10) := by rw [cell_of_row V2 _ _ _ _ _ HG.out]; exact stc_get _ 10 (by simp)
      have f10 : V2.frozen? ⟨B, 10, none⟩ = false := frozen_of_row V2 _ _ _ _ HG.out
      have c11 : V2.cell? ⟨B, 11, none⟩ = some (.int .u32 x11) := by rw [cell_of_row V2 _ _ _ _ _ HG.out]; exact stc_get _ 11 (by simp)
      have c14 : V2.cell? ⟨B, 14, none⟩ = some (.int .u32 x14) := by rw [cell_of_row V2 _ _ _ _ _ HG.out]; exact stc_get _ 14 (by simp)
      have f14 : V2.frozen? ⟨B, 14, none⟩ = false := frozen_of_row V2 _ _ _ _ HG.out
      have c15 : V2.cell? ⟨B, 15, none⟩ = some (.int .u32 x15) := by rw [cell_of_row V2 _ _ _ _ _ HG.out]; exact stc_get _ 15 (by simp)
      have HF := Lib.hid (four_set 2 6 10 14 y2_2 y2_6 y2_10 y2_14 HG.out HR.out hb)
      go_wp2_with fail
      clear c2 c3 c6 c7 c10 c11 c14 c15 f2 f6 f10 f14 HG HR hb
      generalize (World.setCell _ _ _) = V3 at *
      obtain ⟨hg, hr, hb⟩ := HF.out
      have HG : Hid (V3.heap[B]? = some (.cells (stc [y0_0, y1_1, y2_2, x3, y0_4, y1_5, y2_6, x7, y0_8, y1_9, y2_10, x11, y0_12, y1_13, y2_14, x15]) 36)) := Lib.hid hg
      have HR := Lib.hid hr
      clear hg hr HF
      refine (quarter4_any x3 x7 x11 x15 _).mono ?_
      rintro e W4 ⟨rfl, rfl⟩
      obtain ⟨⟨y3_3, y3_7, y3_11, y3_15⟩, hq⟩ : ∃ t, t = q4 x3 x7 x11 x15 := ⟨_, rfl⟩
      rw [← hq]
      have HE3 : Hid (qrL [y0_0, y1_1, y2_2, x3, y0_4, y1_5, y2_6, x7, y0_8, y1_9, y2_10, x11, y0_12, y1_13, y2_14, x15] 3 7 11 15 = [y0_0, y1_1, y2_2, y3_3, y0_4, y1_5, y2_6, y3_7, y0_8, y1_9, y2_10, y3_11, y0_12, y1_13, y2_14, y3_15]) := Lib.hid (by simp only [q4, Prod.mk.injEq] at hq; obtain ⟨rfl, rfl, rfl, rfl⟩ := hq; rfl)
      clear hq
      try dsimp only
      have c0 : V3.cell? ⟨B, 0, none⟩ = some (.int .u32 y0_0) := by rw [cell_of_row V3 _ _ _ _ _ HG.out]; exact stc_get _ 0 (by simp)
      have c3 : V3.cell? ⟨B, 3, none⟩ = some (.int .u32 x3) := by rw [cell_of_row V3 _ _ _ _ _ HG.out]; exact stc_get _ 3 (by simp)
      have f3 : V3.frozen? ⟨B, 3, none⟩ = false := frozen_of_row V3 _ _ _ _ HG.out
      have c5 : V3.cell? ⟨B, 5, none⟩ = some (.int .u32 y1_5) := by rw [cell_of_row V3 _ _ _ _ _ HG.out]; exact stc_get _ 5 (by simp)
      have c7 : V3.cell? ⟨B, 7, none⟩ = some (.int .u32 x7) := by rw [cell_of_row V3 _ _ _ _ _ HG.out]; exact stc_get _ 7 (by simp)
      have f7 : V3.frozen? ⟨B, 7, none⟩ = false := frozen_of_row V3 _ _ _ _ HG.out
      have c10 : V3.cell? ⟨B, 10, none⟩ = some (.int .u32 y2_10) := by rw [cell_of_row V3 _ _ _ _ _ HG.out]; exact stc_get _ 10 (by simp)
      have c11 : V3.cell? ⟨B, 11, none⟩ = some (.int .u32 x11) := by rw [cell_of_row V3 _ _ _ _ _ HG.out]; exact stc_get _ 11 (by simp)
      have f11 : V3.frozen? ⟨B, 11, none⟩ = false := frozen_of_row V3 _ _ _ _ HG.out
      have c15 : V3.cell? ⟨B, 15, none⟩ = some (.int .u32 x15) := by rw [cell_of_row V3 _ _ _ _ _ HG.out]; exact stc_get _ 15 (by simp)
      have f15 : V3.frozen? ⟨B, 15, none⟩ = false := frozen_of_row V3 _ _ _ _ HG.out
      have HF := Lib.hid (four_set 3 7 11 15 y3_3 y3_7 y3_11 y3_15 HG.out HR.out hb)
      go_wp2_with fail
      clear c0 c3 c5 c7 c10 c11 c15 f3 f7 f11 f15 HG HR hb
      generalize (World.setCell _ _ _) = V4 at *
      obtain ⟨hg, hr, hb⟩ := HF.out
      have HG : Hid (V4.heap[B]? = some (.cells (stc [y0_0, y1_1, y2_2, y3_3, y0_4, y1_5, y2_6, y3_7, y0_8, y1_9, y2_10, y3_11, y0_12, y1_13, y2_14, y3_15]) 36)) := Lib.hid hg
      have HR := Lib.hid hr
      clear hg hr HF
      refine (quarter4_any y0_0 y1_5 y2_10 y3_15 _).mono ?_
      rintro e W5 ⟨rfl, rfl⟩
      obtain ⟨⟨y4_0, y4_5, y4_10, y4_15⟩, hq⟩ : ∃ t, t = q4 y0_0 y1_5 y2_10 y3_15 := ⟨_, rfl⟩
      rw [← hq]
      have HE4 : Hid (qrL [y0_0, y1_1, y2_2, y3_3, y0_4, y1_5, y2_6, y3_7, y0_8, y1_9, y2_10, y3_11, y0_12, y1_13, y2_14, y3_15] 0 5 10 15 = [y4_0, y1_1, y2_2, y3_3, y0_4, y4_5, y2_6, y3_7, y0_8, y1_9, y4_10, y3_11, y0_12, y1_13, y2_14, y4_15]) := Lib.hid (by simp only [q4, Prod.mk.injEq] at hq; obtain ⟨rfl, rfl, rfl, rfl⟩ := hq; rfl)
      clear hq
      try dsimp only
      have c0 : V4.cell? ⟨B, 0, none⟩ = some (.int .u32 y0_0) := by rw [cell_of_row V4 _ _ _ _ _ HG.out]; exact stc_get _ 0 (by simp)
      have f0 : V4.frozen? ⟨B, 0, none⟩ = false := frozen_of_row V4 _ _ _ _ HG.out
      have c1 : V4.cell? ⟨B, 1, none⟩ = some (.int .u32 y1_1) := by rw [cell_of_row V4 _ _ _ _ _ HG.out]; exact stc_get _ 1 (by simp)
      have c5 : V4.cell? ⟨B, 5, none⟩ = some (.int .u32 y1_5) := by rw [cell_of_row V4 _ _ _ _ _ HG.out]; exact stc_get _ 5 (by simp)
      have f5 : V4.frozen? ⟨B, 5, none⟩ = false := frozen_of_row V4 _ _ _ _ HG.out
      have c6 : V4.cell? ⟨B, 6, none⟩ = some (.int .u32 y2_6) := by rw [cell_of_row V4 _ _ _ _ _ HG.out]; exact stc_get _ 6 (by simp)
      have c10 : V4.cell? ⟨B, 10, none⟩ = some (.int .u32 y2_10) := by rw [cell_of_row V4 _ _ _ _ _ HG.out]; exact stc_get _ 10 (by simp)
      have f10 : V4.frozen? ⟨B, 10, none⟩ = false := frozen_of_row V4 _ _ _ _ HG.out
      have c11 : V4.cell? ⟨B, 11, none⟩ = some (.int .u32 y3_11) := by rw [cell_of_row V4 _ _ _ _ _ HG.out]; exact stc_get _ 11 (by simp)
      have c12 : V4.cell? ⟨B, 12, none⟩ = some (.int .u32 y0_12) := by rw [cell_of_row V4 _ _ _ _ _ HG.out]; exact stc_get _ 12 (by simp)
      have c15 : V4.cell? ⟨B, 15, none⟩ = some (.int .u32 y3_15) := by rw [cell_of_row V4 _ _ _ _ _ HG.out]; exact stc_get _ 15 (by simp)
      have f15 : V4.frozen? ⟨B, 15, none⟩ = false := frozen_of_row V4 _ _ _ _ HG.out
      have HF := Lib.hid (four_set 0 5 10 15 y4_0 y4_5 y4_10 y4_15 HG.out HR.out hb)
      go_wp2_with fail
      clear c0 c1 c5 c6 c10 c11 c12 c15 f0 f5 f10 f15 HG HR hb
      generalize (World.setCell _ _ _) = V5 at *
      obtain ⟨hg, hr, hb⟩ := HF.out
      have HG : Hid (V5.heap[B]? = some (.cells (stc [y4_0, y1_1, y2_2, y3_3, y0_4, y4_5, y2_6, y3_7, y0_8, y1_9, y4_10, y3_11, y0_12, y1_13, y2_14, y4_15]) 36)) := Lib.hid hg
      have HR := Lib.hid hr
      clear hg hr HF
      refine (quarter4_any y1_1 y2_6 y3_11 y0_12 _).mono ?_
      rintro e W6 ⟨rfl, rfl⟩
      obtain ⟨⟨y5_1, y5_6, y5_11, y5_12⟩, hq⟩ : ∃ t, t = q4 y1_1 y2_6 y3_11 y0_12 := ⟨_, rfl⟩
      rw [← hq]
      have HE5 : Hid (qrL [y4_0, y1_1, y2_2, y3_3, y0_4, y4_5, y2_6, y3_7, y0_8, y1_9, y4_10, y3_11, y0_12, y1_13, y2_14, y4_15] 1 6 11 12 = [y4_0, y5_1, y2_2, y3_3, y0_4, y4_5, y5_6, y3_7, y0_8, y1_9, y4_10, y5_11, y5_12, y1_13, y2_14, y4_15]) := Lib.hid (by simp only [q4, Prod.mk.injEq] at hq; obtain ⟨rfl, rfl, rfl, rfl⟩ := hq; rfl)
      clear hq
      try dsimp only
      have c1 : V5.cell? ⟨B, 1, none⟩ = some (.int .u32 y1_1) := by rw [cell_of_row V5 _ _ _ _ _ HG.out]; exact stc_get _ 1 (by simp)
      have f1 : V5.frozen? ⟨B, 1, none⟩ = false := frozen_of_row V5 _ _ _ _ HG.out
      have c2 : V5.cell? ⟨B, 2, none⟩ = some (.int .u32 y2_2) := by rw [cell_of_row V5 _ _ _ _ _ HG.out]; exact stc_get _ 2 (by simp)
      have c6 : V5.cell? ⟨B, 6, none⟩ = some (.int .u32 y2_6) := by rw [cell_of_row V5 _ _ _ _ _ HG.out]; exact stc_get _ 6 (by simp)
      have f6 : V5.frozen? ⟨B, 6, none⟩ = false := frozen_of_row V5 _ _ _ _ HG.out
      have c7 : V5.cell? ⟨B, 7, none⟩ = some (.int .u32 y3_7) := by rw [cell_of_row V5 _ _ _ _ _ HG.out]; exact stc_get _ 7 (by simp)
      have c8 : V5.cell? ⟨B, 8, none⟩ = some (.int .u32 y0_8) := by rw [cell_of_row V5 _ _ _ _ _ HG.out]; exact stc_get _ 8 (by simp)
      have c11 : V5.cell? ⟨B, 11, none⟩ = some (.int .u32 y3_11) := by rw [cell_of_row V5 _ _ _ _ _ HG.out]; exact stc_get _ 11 (by simp)
      have f11 : V5.frozen? ⟨B, 11, none⟩ = false := frozen_of_row V5 _ _ _ _ HG.out
      have c12 : V5.cell? ⟨B, 12, none⟩ = some (.int .u32 y0_12) := by rw [cell_of_row V5 _ _ _ _ _ HG.out]; exact stc_get _ 12 (by simp)
      have f12 : V5.frozen? ⟨B, 12, none⟩ = false := frozen_of_row V5 _ _ _ _ HG.out
      have c13 : V5.cell? ⟨B, 13, none⟩ = some (.int .u32 y1_13) := by rw [cell_of_row V5 _ _ _ _ _ HG.out]; exact stc_get _ 13 (by simp)
      have HF := Lib.hid (four_set 1 6 11 12 y5_1 y5_6 y5_11 y5_12 HG.out HR.out hb)
      go_wp2_with fail
      clear c1 c2 c6 c7 c8 c11 c12 c13 f1 f6 f11 f12 HG HR hb
      generalize (World.setCell _ _ _) = V6 at *
      obtain ⟨hg, hr, hb⟩ := HF.out
      have HG : Hid (V6.heap[B]? = some (.cells (stc [y4_0, y5_1, y2_2, y3_3, y0_4, y4_5, y5_6, y3_7, y0_8, y1_9, y4_10, y5_11, y5_12, y1_13, y2_14, y4_15]) 36)) := Lib.hid hg
      have HR := Lib.hid hr
      clear hg hr HF
      refine (quarter4_any y2_2 y3_7 y0_8 y1_13 _).mono ?_
      rintro e W7 ⟨rfl, rfl⟩
      obtain ⟨⟨y6_2, y6_7, y6_8, y6_13⟩, hq⟩ : ∃ t, t = q4 y2_2 y3_7 y0_8 y1_13 := ⟨_, rfl⟩
      rw [← hq]
      have HE6 : Hid (qrL [y4_0, y5_1, y2_2, y3_3, y0_4, y4_5, y5_6, y3_7, y0_8, y1_9, y4_10, y5_11, y5_12, y1_13, y2_14, y4_15] 2 7 8 13 = [y4_0, y5_1, y6_2, y3_3, y0_4, y4_5, y5_6, y6_7, y6_8, y1_9, y4_10, y5_11, y5_12, y6_13, y2_14, y4_15]) := Lib.hid (by simp only [q4, Prod.mk.injEq] at hq; obtain ⟨rfl, rfl, rfl, rfl⟩ := hq; rfl)
      clear hq
      try dsimp only
      have c2 : V6.cell? ⟨B, 2, none⟩ = some (.int .u32 y2_2) := by rw [cell_of_row V6 _ _ _ _ _ HG.out]; exact stc_get _ 2 (by simp)
      have f2 : V6.frozen? ⟨B, 2, none⟩ = false := frozen_of_row V6 _ _ _ _ HG.out
      have c3 : V6.cell? ⟨B, 3, none⟩ = some (.int .u32 y3_3) := by rw [cell_of_row V6 _ _ _ _ _ HG.out]; exact stc_get _ 3 (by simp)
      have c4 : V6.cell? ⟨B, 4, none⟩ = some (.int .u32 y0_4) := by rw [cell_of_row V6 _ _ _ _ _ HG.out]; exact stc_get _ 4 (by simp)
      have c7 : V6.cell? ⟨B, 7, none⟩ = some (.int .u32 y3_7) := by rw [cell_of_row V6 _ _ _ _ _ HG.out]; exact stc_get _ 7 (by simp)
      have f7 : V6.frozen? ⟨B, 7, none⟩ = false := frozen_of_row V6 _ _ _ _ HG.out
      have c8 : V6.cell? ⟨B, 8, none⟩ = some (.int .u32 y0_8) := by rw [cell_of_row V6 _ _ _ _ _ HG.out]; exact stc_get _ 8 (by simp)
      have f8 : V6.frozen? ⟨B, 8, none⟩ = false := frozen_of_row V6 _ _ _ _ HG.out
      have c9 : V6.cell? ⟨B, 9, none⟩ = some (.int .u32 y1_9) := by rw [cell_of_row V6 _ _ _ _ _ HG.out]; exact stc_get _ 9 (by simp)
      have c13 : V6.cell? ⟨B, 13, none⟩ = some (.int .u32 y1_13) := by rw [cell_of_row V6 _ _ _ _ _ HG.out]; exact stc_get _ 13 (by simp)
      have f13 : V6.frozen? ⟨B, 13, none⟩ = false := frozen_of_row V6 _ _ _ _ HG.out
      have c14 : V6.cell? ⟨B, 14, none⟩ = some (.int .u32 y2_14) := by rw [cell_of_row V6 _ _ _ _ _ HG.out]; exact stc_get _ 14 (by simp)
      have HF := Lib.hid (four_set 2 7 8 13 y6_2 y6_7 y6_8 y6_13 HG.out HR.out hb)
      go_wp2_with fail
      clear c2 c3 c4 c7 c8 c9 c13 c14 f2 f7 f8 f13 HG HR hb
      generalize (World.setCell _ _ _) = V7 at *
      obtain ⟨hg, hr, hb⟩ := HF.out
      have HG : Hid (V7.heap[B]? = some (.cells (stc [y4_0, y5_1, y6_2, y3_3, y0_4, y4_5, y5_6, y6_7, y6_8, y1_9, y4_10, y5_11, y5_12, y6_13, y2_14, y4_15]) 36)) := Lib.hid hg
      have HR := Lib.hid hr
      clear hg hr HF
      refine (quarter4_any y3_3 y0_4 y1_9 y2_14 _).mono ?_
      rintro e W8 ⟨rfl, rfl⟩
      obtain ⟨⟨y7_3, y7_4, y7_9, y7_14⟩, hq⟩ : ∃ t, t = q4 y3_3 y0_4 y1_9 y2_14 := ⟨_, rfl⟩
      rw [← hq]
      have HE7 : Hid (qrL [y4_0, y5_1, y6_2, y3_3, y0_4, y4_5, y5_6, y6_7, y6_8, y1_9, y4_10, y5_11, y5_12, y6_13, y2_14, y4_15] 3 4 9 14 = [y4_0, y5_1, y6_2, y7_3, y7_4, y4_5, y5_6, y6_7, y6_8, y7_9, y4_10, y5_11, y5_12, y6_13, y7_14, y4_15]) := Lib.hid (by simp only [q4, Prod.mk.injEq] at hq; obtain ⟨rfl, rfl, rfl, rfl⟩ := hq; rfl)
      clear hq
      try dsimp only
      have c3 : V7.cell? ⟨B, 3, none⟩ = some (.int .u32 y3_3) := by rw [cell_of_row V7 _ _ _ _ _ HG.out]; exact stc_get _ 3 (by simp)
      have f3 : V7.frozen? ⟨B, 3, none⟩ = false := frozen_of_row V7 _ _ _ _ HG.out
      have c4 : V7.cell? ⟨B, 4, none⟩ = some (.int .u32 y0_4) := by rw [cell_of_row V7 _ _ _ _ _ HG.out]; exact stc_get _ 4 (by simp)
      have f4 : V7.frozen? ⟨B, 4, none⟩ = false := frozen_of_row V7 _ _ _ _ HG.out
      have c9 : V7.cell? ⟨B, 9, none⟩ = some (.int .u32 y1_9) := by rw [cell_of_row V7 _ _ _ _ _ HG.out]; exact stc_get _ 9 (by simp)
      have f9 : V7.frozen? ⟨B, 9, none⟩ = false := frozen_of_row V7 _ _ _ _ HG.out
      have c14 : V7.cell? ⟨B, 14, none⟩ = some (.int .u32 y2_14) := by rw [cell_of_row V7 _ _ _ _ _ HG.out]; exact stc_get _ 14 (by simp)
      have f14 : V7.frozen? ⟨B, 14, none⟩ = false := frozen_of_row V7 _ _ _ _ HG.out
      have HF := Lib.hid (four_set 3 4 9 14 y7_3 y7_4 y7_9 y7_14 HG.out HR.out hb)
      go_wp2_with fail
      go_roundw
      case rel =>
        refine ⟨k + 1, by omega, by go_num, ?_, HF.out.2.1, HF.out.2.2⟩
        rw [HRD.out, HX.out, roundL, HE0.out, HE1.out, HE2.out, HE3.out, HE4.out, HE5.out, HE6.out, HE7.out]
        exact HF.out.1
      case measure => simp [intOf]; omega
    · have hd : decide ((k : Int) < 10) = false := by simp; omega
      obtain rfl : k = 10 := by omega
      rw [show ((10 : Nat) : Int) = (10 : Int) from rfl] at *
      have HG := Lib.hid hg; have HR := Lib.hid hr
      have HLr := Lib.hid (show (roundsL v 10).length = 16 from by rw [roundsL_length]; exact HL.out)
      clear hg hr
      generalize hrow : roundsL v 10 = row at *
      have HROW := Lib.hid hrow
      clear hrow
      have HIr := Lib.hid (show (Try.prog.info? 36).map (·.size) = some (stc row).size from by rw [stc_size, HLr.out]; exact HI2.out)
      have HO := Lib.hid (show zeros16.size = (stc row).size from by rw [stc_size, HLr.out]; exact stc_size _)
      have H1r := Lib.hid (stc_one row)
      go_wp2_with (first
        | (with_reducible refine wpList_load_row rfl 36 _ rfl B rfl 36 _ (0, 0) _ HG.out Try.underlying36 rfl HIr.out ?_)
        | (with_reducible refine wpList_store_row rfl 36 _ _ rfl (B + 1) (stc row) rfl rfl 36 _ HR.out HIr.out HO.out H1r.out ?_))
      exact bodyPost_ret (v := .agg (stc row)) (results_cell_row (by rfl) _ _ (B + 1) 36 _ (0, 0) _ rfl (setRow_heap _ _ _ _ _ _ HR.out) Try.underlying36 rfl HIr.out) rfl ⟨by first | (with_reducible rfl) | rw [HROW.out], by rw [HBB.out]; exact below_setRow hb (by omega) _⟩
end Go.Proofs.Ytnjeelfeaiakpaa
