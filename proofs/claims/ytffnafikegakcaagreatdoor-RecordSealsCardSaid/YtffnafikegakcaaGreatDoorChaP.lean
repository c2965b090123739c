/- The small functions of package chacha: a roll, a quarter round, four bytes as a number, a number as four bytes; The program's mixed: ten rounds on sixteen numbers that are passed by value; The program's store and block: sixteen numbers as bytes; The program's block: a state's block of the stream; The program's check, blocksFor and initial; The program's Block; The program's masked and Xor; The program's Xor; the chapter's example; The program's Block and Xor answer as the reference's. -/
import Derived.Test.YtffnafikegakcaaGreatDoorChaR
import Derived.Laws.Tables
import Derived.Lib.SlBytesRow
namespace Go.Proofs.YtffnafikegakcaaGreatDoor
section
open Go.RowKit Go.Sort
set_option maxRecDepth 100000
set_option linter.unusedSimpArgs false
set_option linter.unusedVariables false

theorem results_tmp4 {fn : Func} {t u v x : Tmp} (h : fn.results = #[.tmp t, .tmp u, .tmp v, .tmp x]) (tmps : Array Value) (P : Program) (w : World) :
    (results fn tmps).run P w = .ok (.tuple #[tmps.getD t undef, tmps.getD u undef, tmps.getD v undef, tmps.getD x undef]) w := by
  simp [results, h]
theorem roll_any (v n : Int) (w : World) (h : n = 16 ∨ n = 12 ∨ n = 8 ∨ n = 7) :
    Calls Tryz.prog 164 #[.int .u32 v, .int .i64 n] w fun e w' => e = .returned (.int .u32 (rotl32 v n)) ∧ w = w' := by
  have k1 : bits .and .u64 16 31 = 16 := by decide +kernel
  have k2 : bits .and .u64 12 31 = 12 := by decide +kernel
  have k3 : bits .and .u64 8 31 = 8 := by decide +kernel
  have k4 : bits .and .u64 7 31 = 7 := by decide +kernel
  rcases h with rfl | rfl | rfl | rfl <;>
  · go_enter Tryz.func164, Tryz.ntmps164
    go_wp2
    go_ret
    exact ⟨by simp [rotl32], rfl⟩

/-- Four numbers behind a quarter round. -/
def q4 (a b c d : Int) : Int × Int × Int × Int :=
  let a1 := (a + b) % 4294967296
  let d1 := rotl32 (bits .xor .u32 d a1) 16
  let c1 := (c + d1) % 4294967296
  let b1 := rotl32 (bits .xor .u32 b c1) 12
  let a2 := (a1 + b1) % 4294967296
  let d2 := rotl32 (bits .xor .u32 d1 a2) 8
  let c2 := (c1 + d2) % 4294967296
  let b2 := rotl32 (bits .xor .u32 b1 c2) 7
  (a2, b2, c2, d2)

theorem quarter4_any (a b c d : Int) (w : World) :
    Calls Tryz.prog 155 #[.int .u32 a, .int .u32 b, .int .u32 c, .int .u32 d] w fun e w' => e = .returned (.tuple #[.int .u32 (q4 a b c d).1, .int .u32 (q4 a b c d).2.1, .int .u32 (q4 a b c d).2.2.1, .int .u32 (q4 a b c d).2.2.2]) ∧ w = w' := by
  obtain ⟨q, hq⟩ : ∃ q, q = q4 a b c d := ⟨_, rfl⟩
  have HQ := Lib.hid hq
  rw [← hq]
  clear hq
  go_enter Tryz.func155, Tryz.ntmps155
  go_wp2_with fail
  obtain ⟨a1, ha1⟩ : ∃ x, x = (a + b) % 4294967296 := ⟨_, rfl⟩
  rw [← ha1]
  have Ha1 := Lib.hid ha1
  clear ha1
  refine (roll_any _ 16 _ (by omega)).mono ?_
  rintro e W1 ⟨rfl, rfl⟩
  obtain ⟨d1, hd1⟩ : ∃ x, x = rotl32 (bits .xor .u32 d a1) 16 := ⟨_, rfl⟩
  rw [← hd1]
  have Hd1 := Lib.hid hd1
  clear hd1
  go_wp2_with fail
  obtain ⟨c1, hc1⟩ : ∃ x, x = (c + d1) % 4294967296 := ⟨_, rfl⟩
  rw [← hc1]
  have Hc1 := Lib.hid hc1
  clear hc1
  refine (roll_any _ 12 _ (by omega)).mono ?_
  rintro e W1 ⟨rfl, rfl⟩
  obtain ⟨b1, hb1⟩ : ∃ x, x = rotl32 (bits .xor .u32 b c1) 12 := ⟨_, rfl⟩
  rw [← hb1]
  have Hb1 := Lib.hid hb1
  clear hb1
  go_wp2_with fail
  obtain ⟨a2, ha2⟩ : ∃ x, x = (a1 + b1) % 4294967296 := ⟨_, rfl⟩
  rw [← ha2]
  have Ha2 := Lib.hid ha2
  clear ha2
  refine (roll_any _ 8 _ (by omega)).mono ?_
  rintro e W1 ⟨rfl, rfl⟩
  obtain ⟨d2, hd2⟩ : ∃ x, x = rotl32 (bits .xor .u32 d1 a2) 8 := ⟨_, rfl⟩
  rw [← hd2]
  have Hd2 := Lib.hid hd2
  clear hd2
  go_wp2_with fail
  obtain ⟨c2, hc2⟩ : ∃ x, x = (c1 + d2) % 4294967296 := ⟨_, rfl⟩
  rw [← hc2]
  have Hc2 := Lib.hid hc2
  clear hc2
  refine (roll_any _ 7 _ (by omega)).mono ?_
  rintro e W1 ⟨rfl, rfl⟩
  obtain ⟨b2, hb2⟩ : ∃ x, x = rotl32 (bits .xor .u32 b1 c2) 7 := ⟨_, rfl⟩
  rw [← hb2]
  have Hb2 := Lib.hid hb2
  clear hb2
  go_wp2_with fail
  try simp only [Exit.inBlock, Exit.then]
  have hq : q = (a2, b2, c2, d2) := by
    rw [HQ.out, Hb2.out, Hc2.out, Hd2.out, Ha2.out, Hb1.out, Hc1.out, Hd1.out, Ha1.out]; rfl
  subst hq
  exact bodyPost_ret (results_tmp4 rfl _ _ _) rfl ⟨rfl, rfl⟩

theorem chaLoad_any (s : ByteArray) (w : World) (h : s.size = 4) :
    Calls Tryz.prog 137 #[.string s] w fun e w' => e = .returned (.int .u32 (lw s[0] s[1] s[2] s[3])) ∧ Below w.heap.size w w' := by
  go_enter Tryz.func137, Tryz.ntmps137
  have i0 := index_byte s 0 0 (by omega) (by omega)
  have i1 := index_byte s 1 1 (by omega) (by omega)
  have i2 := index_byte s 2 2 (by omega) (by omega)
  have i3 := index_byte s 3 3 (by omega) (by omega)
  have HE := Lib.hid (or_le32 s[0] s[1] s[2] s[3])
  generalize lw s[0] s[1] s[2] s[3] = x at *
  generalize s[0] = s0 at *
  generalize s[1] = s1 at *
  generalize s[2] = s2 at *
  generalize s[3] = s3 at *
  have h4 : s.size ≤ 4 := by omega
  clear h
  go_wp2_with fail
  go_quiet (fail)
  go_wp2
  go_ret
  refine ⟨?_, below_drewN (Below.refl _ _) _⟩
  rw [HE.out]
  rfl
end

section
open Go.RowKit Go.Sort
set_option maxRecDepth 100000
set_option linter.unusedSimpArgs false
set_option linter.unusedVariables false

/-- The cells of a state. -/
def stc (l : List Int) : Array Value := (u32s l).toArray
def zeros16 : Array Value := stc (List.replicate 16 0)
theorem infoSt : (Tryz.prog.info? 150).map (fun i => (i.zero, i.size)) = some (some (.agg zeros16), 16) := by kernel_rfl
theorem stc_size (l : List Int) : (stc l).size = l.length := by simp [stc, u32s]
theorem stc_get (l : List Int) (j : Nat) (h : j < l.length) : (stc l)[j]? = some (.int .u32 (l.getD j 0)) := by simp [stc, u32s, h]
theorem stc_set (l : List Int) (j : Nat) (x : Int) : (stc l).setIfInBounds j (.int .u32 x) = stc (l.set j x) := by simp [stc, u32s, List.map_set]
theorem stc_one (l : List Int) : (stc l).all (·.oneCell') = true := by
  rw [Array.all_eq_true]
  intro i hi
  simp [stc, u32s, Value.oneCell']
theorem sixteen (l : List Int) (h : l.length = 16) : ∃ x0 x1 x2 x3 x4 x5 x6 x7 x8 x9 x10 x11 x12 x13 x14 x15, l = [x0, x1, x2, x3, x4, x5, x6, x7, x8, x9, x10, x11, x12, x13, x14, x15] := by
  match l, h with
  | [x0, x1, x2, x3, x4, x5, x6, x7, x8, x9, x10, x11, x12, x13, x14, x15], _ => exact ⟨_, _, _, _, _, _, _, _, _, _, _, _, _, _, _, _, rfl⟩
theorem one_set {w W : World} {B : Nat} {l : List Int} {T : TypeId} {o : Obj} (a : Nat) (x : Int) (hg : W.heap[B]? = some (.cells (stc l) T)) (hr : W.heap[B + 1]? = some o) (hb : Below B w W) :
    (W.setCell ⟨B, a, none⟩ (.int .u32 x)).heap[B]? = some (.cells (stc (l.set a x)) T) ∧ (W.setCell ⟨B, a, none⟩ (.int .u32 x)).heap[B + 1]? = some o ∧ Below B w (W.setCell ⟨B, a, none⟩ (.int .u32 x)) := by
  refine ⟨?_, ?_, hb.setCell (by simp) _⟩
  · rw [← stc_set]; exact Go.heap_setCell_same _ _ _ _ _ _ hg
  · rw [heap_setCell_other _ _ _ _ (by simp)]; exact hr
theorem four_set {w W : World} {B : Nat} {l : List Int} {T : TypeId} {o : Obj} (a b c d : Nat) (x y z u : Int) (hg : W.heap[B]? = some (.cells (stc l) T)) (hr : W.heap[B + 1]? = some o) (hb : Below B w W) :
    ((((W.setCell ⟨B, a, none⟩ (.int .u32 x)).setCell ⟨B, b, none⟩ (.int .u32 y)).setCell ⟨B, c, none⟩ (.int .u32 z)).setCell ⟨B, d, none⟩ (.int .u32 u)).heap[B]? = some (.cells (stc ((((l.set a x).set b y).set c z).set d u)) T) ∧
    ((((W.setCell ⟨B, a, none⟩ (.int .u32 x)).setCell ⟨B, b, none⟩ (.int .u32 y)).setCell ⟨B, c, none⟩ (.int .u32 z)).setCell ⟨B, d, none⟩ (.int .u32 u)).heap[B + 1]? = some o ∧
    Below B w ((((W.setCell ⟨B, a, none⟩ (.int .u32 x)).setCell ⟨B, b, none⟩ (.int .u32 y)).setCell ⟨B, c, none⟩ (.int .u32 z)).setCell ⟨B, d, none⟩ (.int .u32 u)) := by
  obtain ⟨h1, h2, h3⟩ := one_set a x hg hr hb
  obtain ⟨h1, h2, h3⟩ := one_set b y h1 h2 h3
  obtain ⟨h1, h2, h3⟩ := one_set c z h1 h2 h3
  exact one_set d u h1 h2 h3

set_option maxHeartbeats 4000000 in
theorem mixed_any (v : List Int) (w : World) (hl : v.length = 16) :
    Calls Tryz.prog 138 #[.agg (stc v)] w fun e w' => e = .returned (.agg (stc (roundsL v 10))) ∧ Below w.heap.size w w' := by
  obtain ⟨hz, hi⟩ := zero_of_info infoSt
  have HI := Lib.hid (show (Tryz.prog.info? 150).map (·.size) = some (stc v).size from by rw [stc_size, hl]; exact hi)
  have H1 := Lib.hid (stc_one v)
  have HL := Lib.hid hl
  have HG0 := Lib.hid (blk_old (o := .cells zeros16 150) (blk_new w (.cells (stc v) 150)))
  have HR0 := Lib.hid (blk_new2 w (.cells (stc v) 150) (.cells zeros16 150))
  have hb0 := below_new2 w (.cells (stc v) 150) (.cells zeros16 150)
  have HI2 := Lib.hid hi
  clear hi hl
  go_enter Tryz.func138, Tryz.ntmps138
  go_wp2_with fail
  clear hz
  generalize ((w.alloc _).alloc _) = W0 at *
  generalize hBB : w.heap.size = B at *
  have HBB := Lib.hid hBB
  clear hBB
  go_loopw [3] (fun i wr => ∃ k : Nat, k ≤ 10 ∧ i = .int .i64 (k : Int) ∧ wr.heap[B]? = some (.cells (stc (roundsL v k)) 150) ∧ wr.heap[B + 1]? = some (.cells zeros16 150) ∧ Below B w wr) (fun i _ => 10 - (intOf i).toNat)
  case atStart => exact ⟨0, by omega, rfl, HG0.out, HR0.out, hb0⟩
  case round =>
    clear HG0 HR0 hb0
    obtain ⟨k, hk, rfl, hg, hr, hb⟩ := hrel
    by_cases hlt : k < 10
    · have hd : decide ((k : Int) < 10) = true := by simp; omega
      have HRD : Hid (roundsL v (k + 1) = roundL (roundsL v k)) := Lib.hid rfl
      obtain ⟨x0, x1, x2, x3, x4, x5, x6, x7, x8, x9, x10, x11, x12, x13, x14, x15, hx⟩ := sixteen (roundsL v k) (by rw [roundsL_length]; exact HL.out)
      rw [hx] at hg
      have HX := Lib.hid hx
      clear hx
      have HG := Lib.hid hg; have HR := Lib.hid hr
      clear hg hr
      obtain ⟨W, hW⟩ : ∃ W, W = wr := ⟨_, rfl⟩
      subst hW
      have c0 : W.cell? ⟨B, 0, none⟩ = some (.int .u32 x0) := by rw [cell_of_row W _ _ _ _ _ HG.out]; exact stc_get _ 0 (by simp)
      have c4 : W.cell? ⟨B, 4, none⟩ = some (.int .u32 x4) := by rw [cell_of_row W _ _ _ _ _ HG.out]; exact stc_get _ 4 (by simp)
      have c8 : W.cell? ⟨B, 8, none⟩ = some (.int .u32 x8) := by rw [cell_of_row W _ _ _ _ _ HG.out]; exact stc_get _ 8 (by simp)
      have c12 : W.cell? ⟨B, 12, none⟩ = some (.int .u32 x12) := by rw [cell_of_row W _ _ _ _ _ HG.out]; exact stc_get _ 12 (by simp)
      go_wp2_with fail
      clear c0 c4 c8 c12
      refine (quarter4_any x0 x4 x8 x12 _).mono ?_
      rintro e W1 ⟨rfl, rfl⟩
      obtain ⟨⟨y0_0, y0_4, y0_8, y0_12⟩, hq⟩ : ∃ t, t = q4 x0 x4 x8 x12 := ⟨_, rfl⟩
      rw [← hq]
      have HE0 : Hid (qrL [x0, x1, x2, x3, x4, x5, x6, x7, x8, x9, x10, x11, x12, x13, x14, x15] 0 4 8 12 = [y0_0, x1, x2, x3, y0_4, x5, x6, x7, y0_8, x9, x10, x11, y0_12, x13, x14, x15]) := Lib.hid (by simp only [q4, Prod.mk.injEq] at hq; obtain ⟨rfl, rfl, rfl, rfl⟩ := hq; rfl)
      clear hq
      try dsimp only
      have c0 : W.cell? ⟨B, 0, none⟩ = some (.int .u32 x0) := by rw [cell_of_row W _ _ _ _ _ HG.out]; exact stc_get _ 0 (by simp)
      have f0 : W.frozen? ⟨B, 0, none⟩ = false := frozen_of_row W _ _ _ _ HG.out
      have c1 : W.cell? ⟨B, 1, none⟩ = some (.int .u32 x1) := by rw [cell_of_row W _ _ _ _ _ HG.out]; exact stc_get _ 1 (by simp)
      have c4 : W.cell? ⟨B, 4, none⟩ = some (.int .u32 x4) := by rw [cell_of_row W _ _ _ _ _ HG.out]; exact stc_get _ 4 (by simp)
      have f4 : W.frozen? ⟨B, 4, none⟩ = false := frozen_of_row W _ _ _ _ HG.out
      have c5 : W.cell? ⟨B, 5, none⟩ = some (.int .u32 x5) := by rw [cell_of_row W _ _ _ _ _ HG.out]; exact stc_get _ 5 (by simp)
      have c8 : W.cell? ⟨B, 8, none⟩ = some (.int .u32 x8) := by rw [cell_of_row W _ _ _ _ _ HG.out]; exact stc_get _ 8 (by simp)
      have f8 : W.frozen? ⟨B, 8, none⟩ = false := frozen_of_row W _ _ _ _ HG.out
      have c9 : W.cell? ⟨B, 9, none⟩ = some (.int .u32 x9) := by rw [cell_of_row W _ _ _ _ _ HG.out]; exact stc_get _ 9 (by simp)
      have c12 : W.cell? ⟨B, 12, none⟩ = some (.int .u32 x12) := by rw [cell_of_row W _ _ _ _ _ HG.out]; exact stc_get _ 12 (by simp)
      have f12 : W.frozen? ⟨B, 12, none⟩ = false := frozen_of_row W _ _ _ _ HG.out
      have c13 : W.cell? ⟨B, 13, none⟩ = some (.int .u32 x13) := by rw [cell_of_row W _ _ _ _ _ HG.out]; exact stc_get _ 13 (by simp)
      have HF := Lib.hid (four_set 0 4 8 12 y0_0 y0_4 y0_8 y0_12 HG.out HR.out hb)
      go_wp2_with fail
      clear c0 c1 c4 c5 c8 c9 c12 c13 f0 f4 f8 f12 HG HR hb
      generalize (World.setCell _ _ _) = V1 at *
      obtain ⟨hg, hr, hb⟩ := HF.out
      have HG : Hid (V1.heap[B]? = some (.cells (stc [y0_0, x1, x2, x3, y0_4, x5, x6, x7, y0_8, x9, x10, x11, y0_12, x13, x14, x15]) 150)) := Lib.hid hg
      have HR := Lib.hid hr
      clear hg hr HF
      refine (quarter4_any x1 x5 x9 x13 _).mono ?_
      rintro e W2 ⟨rfl, rfl⟩
      obtain ⟨⟨y1_1, y1_5, y1_9, y1_13⟩, hq⟩ : ∃ t, t = q4 x1 x5 x9 x13 := ⟨_, rfl⟩
      rw [← hq]
      have HE1 : Hid (qrL [y0_0, x1, x2, x3, y0_4, x5, x6, x7, y0_8, x9, x10, x11, y0_12, x13, x14, x15] 1 5 9 13 = [y0_0, y1_1, x2, x3, y0_4, y1_5, x6, x7, y0_8, y1_9, x10, x11, y0_12, y1_13, x14, x15]) := Lib.hid (by simp only [q4, Prod.mk.injEq] at hq; obtain ⟨rfl, rfl, rfl, rfl⟩ := hq; rfl)
      clear hq
      try dsimp only
      have c1 : V1.cell? ⟨B, 1, none⟩ = some (.int .u32 x1) := by rw [cell_of_row V1 _ _ _ _ _ HG.out]; exact stc_get _ 1 (by simp)
      have f1 : V1.frozen? ⟨B, 1, none⟩ = false := frozen_of_row V1 _ _ _ _ HG.out
      have c2 : V1.cell? ⟨B, 2, none⟩ = some (.int .u32 x2) := by rw [cell_of_row V1 _ _ _ _ _ HG.out]; exact stc_get _ 2 (by simp)
      have c5 : V1.cell? ⟨B, 5, none⟩ = some (.int .u32 x5) := by rw [cell_of_row V1 _ _ _ _ _ HG.out]; exact stc_get _ 5 (by simp)
      have f5 : V1.frozen? ⟨B, 5, none⟩ = false := frozen_of_row V1 _ _ _ _ HG.out
      have c6 : V1.cell? ⟨B, 6, none⟩ = some (.int .u32 x6) := by rw [cell_of_row V1 _ _ _ _ _ HG.out]; exact stc_get _ 6 (by simp)
      have c9 : V1.cell? ⟨B, 9, none⟩ = some (.int .u32 x9) := by rw [cell_of_row V1 _ _ _ _ _ HG.out]; exact stc_get _ 9 (by simp)
      have f9 : V1.frozen? ⟨B, 9, none⟩ = false := frozen_of_row V1 _ _ _ _ HG.out
      have c10 : V1.cell? ⟨B, 10, none⟩ = some (.int .u32 x10) := by rw [cell_of_row V1 _ _ _ _ _ HG.out]; exact stc_get _ 10 (by simp)
      have c13 : V1.cell? ⟨B, 13, none⟩ = some (.int .u32 x13) := by rw [cell_of_row V1 _ _ _ _ _ HG.out]; exact stc_get _ 13 (by simp)
      have f13 : V1.frozen? ⟨B, 13, none⟩ = false := frozen_of_row V1 _ _ _ _ HG.out
      have c14 : V1.cell? ⟨B, 14, none⟩ = some (.int .u32 x14) := by rw [cell_of_row V1 _ _ _ _ _ HG.out]; exact stc_get _ 14 (by simp)
      have HF := Lib.hid (four_set 1 5 9 13 y1_1 y1_5 y1_9 y1_13 HG.out HR.out hb)
      go_wp2_with fail
      clear c1 c2 c5 c6 c9 c10 c13 c14 f1 f5 f9 f13 HG HR hb
      generalize (World.setCell _ _ _) = V2 at *
      obtain ⟨hg, hr, hb⟩ := HF.out
      have HG : Hid (V2.heap[B]? = some (.cells (stc [y0_0, y1_1, x2, x3, y0_4, y1_5, x6, x7, y0_8, y1_9, x10, x11, y0_12, y1_13, x14, x15]) 150)) := Lib.hid hg
      have HR := Lib.hid hr
      clear hg hr HF
      refine (quarter4_any x2 x6 x10 x14 _).mono ?_
      rintro e W3 ⟨rfl, rfl⟩
      obtain ⟨⟨y2_2, y2_6, y2_10, y2_14⟩, hq⟩ : ∃ t, t = q4 x2 x6 x10 x14 := ⟨_, rfl⟩
      rw [← hq]
      have HE2 : Hid (qrL [y0_0, y1_1, x2, x3, y0_4, y1_5, x6, x7, y0_8, y1_9, x10, x11, y0_12, y1_13, x14, x15] 2 6 10 14 = [y0_0, y1_1, y2_2, x3, y0_4, y1_5, y2_6, x7, y0_8, y1_9, y2_10, x11, y0_12, y1_13, y2_14, x15]) := Lib.hid (by simp only [q4, Prod.mk.injEq] at hq; obtain ⟨rfl, rfl, rfl, rfl⟩ := hq; rfl)
      clear hq
      try dsimp only
      have c2 : V2.cell? ⟨B, 2, none⟩ = some (.int .u32 x2) := by rw [cell_of_row V2 _ _ _ _ _ HG.out]; exact stc_get _ 2 (by simp)
      have f2 : V2.frozen? ⟨B, 2, none⟩ = false := frozen_of_row V2 _ _ _ _ HG.out
      have c3 : V2.cell? ⟨B, 3, none⟩ = some (.int .u32 x3) := by rw [cell_of_row V2 _ _ _ _ _ HG.out]; exact stc_get _ 3 (by simp)
      have c6 : V2.cell? ⟨B, 6, none⟩ = some (.int .u32 x6) := by rw [cell_of_row V2 _ _ _ _ _ HG.out]; exact stc_get _ 6 (by simp)
      have f6 : V2.frozen? ⟨B, 6, none⟩ = false := frozen_of_row V2 _ _ _ _ HG.out
      have c7 : V2.cell? ⟨B, 7, none⟩ = some (.int .u32 x7) := by rw [cell_of_row V2 _ _ _ _ _ HG.out]; exact stc_get _ 7 (by simp)
      have c10 : V2.cell? ⟨B, 10, none⟩ = some (.int .u32 x10) := by rw [cell_of_row V2 _ _ _ _ _ HG.out]; exact stc_get _ 10 (by simp)
      have f10 : V2.frozen? ⟨B, 10, none⟩ = false := frozen_of_row V2 _ _ _ _ HG.out
      have c11 : V2.cell? ⟨B, 11, none⟩ = some (.int .u32 x11) := by rw [cell_of_row V2 _ _ _ _ _ HG.out]; exact stc_get _ 11 (by simp)
      have c14 : V2.cell? ⟨B, 14, none⟩ = some (.int .u32 x14) := by rw [cell_of_row V2 _ _ _ _ _ HG.out]; exact stc_get _ 14 (by simp)
      have f14 : V2.frozen? ⟨B, 14, none⟩ = false := frozen_of_row V2 _ _ _ _ HG.out
      have c15 : V2.cell? ⟨B, 15, none⟩ = some (.int .u32 x15) := by rw [cell_of_row V2 _ _ _ _ _ HG.out]; exact stc_get _ 15 (by simp)
      have HF := Lib.hid (four_set 2 6 10 14 y2_2 y2_6 y2_10 y2_14 HG.out HR.out hb)
      go_wp2_with fail
      clear c2 c3 c6 c7 c10 c11 c14 c15 f2 f6 f10 f14 HG HR hb
      generalize (World.setCell _ _ _) = V3 at *
      obtain ⟨hg, hr, hb⟩ := HF.out
      have HG : Hid (V3.heap[B]? = some (.cells (stc [y0_0, y1_1, y2_2, x3, y0_4, y1_5, y2_6, x7, y0_8, y1_9, y2_10, x11, y0_12, y1_13, y2_14, x15]) 150)) := Lib.hid hg
      have HR := Lib.hid hr
      clear hg hr HF
      refine (quarter4_any x3 x7 x11 x15 _).mono ?_
      rintro e W4 ⟨rfl, rfl⟩
      obtain ⟨⟨y3_3, y3_7, y3_11, y3_15⟩, hq⟩ : ∃ t, t = q4 x3 x7 x11 x15 := ⟨_, rfl⟩
      rw [← hq]
      have HE3 : Hid (qrL [y0_0, y1_1, y2_2, x3, y0_4, y1_5, y2_6, x7, y0_8, y1_9, y2_10, x11, y0_12, y1_13, y2_14, x15] 3 7 11 15 = [y0_0, y1_1, y2_2, y3_3, y0_4, y1_5, y2_6, y3_7, y0_8, y1_9, y2_10, y3_11, y0_12, y1_13, y2_14, y3_15]) := Lib.hid (by simp only [q4, Prod.mk.injEq] at hq; obtain ⟨rfl, rfl, rfl, rfl⟩ := hq; rfl)
      clear hq
      try dsimp only
      have c0 : V3.cell? ⟨B, 0, none⟩ = some (.int .u32 y0_0) := by rw [cell_of_row V3 _ _ _ _ _ HG.out]; exact stc_get _ 0 (by simp)
      have c3 : V3.cell? ⟨B, 3, none⟩ = some (.int .u32 x3) := by rw [cell_of_row V3 _ _ _ _ _ HG.out]; exact stc_get _ 3 (by simp)
      have f3 : V3.frozen? ⟨B, 3, none⟩ = false := frozen_of_row V3 _ _ _ _ HG.out
      have c5 : V3.cell? ⟨B, 5, none⟩ = some (.int .u32 y1_5) := by rw [cell_of_row V3 _ _ _ _ _ HG.out]; exact stc_get _ 5 (by simp)
      have c7 : V3.cell? ⟨B, 7, none⟩ = some (.int .u32 x7) := by rw [cell_of_row V3 _ _ _ _ _ HG.out]; exact stc_get _ 7 (by simp)
      have f7 : V3.frozen? ⟨B, 7, none⟩ = false := frozen_of_row V3 _ _ _ _ HG.out
      have c10 : V3.cell? ⟨B, 10, none⟩ = some (.int .u32 y2_10) := by rw [cell_of_row V3 _ _ _ _ _ HG.out]; exact stc_get _ 10 (by simp)
      have c11 : V3.cell? ⟨B, 11, none⟩ = some (.int .u32 x11) := by rw [cell_of_row V3 _ _ _ _ _ HG.out]; exact stc_get _ 11 (by simp)
      have f11 : V3.frozen? ⟨B, 11, none⟩ = false := frozen_of_row V3 _ _ _ _ HG.out
      have c15 : V3.cell? ⟨B, 15, none⟩ = some (.int .u32 x15) := by rw [cell_of_row V3 _ _ _ _ _ HG.out]; exact stc_get _ 15 (by simp)
      have f15 : V3.frozen? ⟨B, 15, none⟩ = false := frozen_of_row V3 _ _ _ _ HG.out
      have HF := Lib.hid (four_set 3 7 11 15 y3_3 y3_7 y3_11 y3_15 HG.out HR.out hb)
      go_wp2_with fail
      clear c0 c3 c5 c7 c10 c11 c15 f3 f7 f11 f15 HG HR hb
      generalize (World.setCell _ _ _) = V4 at *
      obtain ⟨hg, hr, hb⟩ := HF.out
      have HG : Hid (V4.heap[B]? = some (.cells (stc [y0_0, y1_1, y2_2, y3_3, y0_4, y1_5, y2_6, y3_7, y0_8, y1_9, y2_10, y3_11, y0_12, y1_13, y2_14, y3_15]) 150)) := Lib.hid hg
      have HR := Lib.hid hr
      clear hg hr HF
      refine (quarter4_any y0_0 y1_5 y2_10 y3_15 _).mono ?_
      rintro e W5 ⟨rfl, rfl⟩
      obtain ⟨⟨y4_0, y4_5, y4_10, y4_15⟩, hq⟩ : ∃ t, t = q4 y0_0 y1_5 y2_10 y3_15 := ⟨_, rfl⟩
      rw [← hq]
      have HE4 : Hid (qrL [y0_0, y1_1, y2_2, y3_3, y0_4, y1_5, y2_6, y3_7, y0_8, y1_9, y2_10, y3_11, y0_12, y1_13, y2_14, y3_15] 0 5 10 15 = [y4_0, y1_1, y2_2, y3_3, y0_4, y4_5, y2_6, y3_7, y0_8, y1_9, y4_10, y3_11, y0_12, y1_13, y2_14, y4_15]) := Lib.hid (by simp only [q4, Prod.mk.injEq] at hq; obtain ⟨rfl, rfl, rfl, rfl⟩ := hq; rfl)
      clear hq
      try dsimp only
      have c0 : V4.cell? ⟨B, 0, none⟩ = some (.int .u32 y0_0) := by rw [cell_of_row V4 _ _ _ _ _ HG.out]; exact stc_get _ 0 (by simp)
      have f0 : V4.frozen? ⟨B, 0, none⟩ = false := frozen_of_row V4 _ _ _ _ HG.out
      have c1 : V4.cell? ⟨B, 1, none⟩ = some (.int .u32 y1_1) := by rw [cell_of_row V4 _ _ _ _ _ HG.out]; exact stc_get _ 1 (by simp)
      have c5 : V4.cell? ⟨B, 5, none⟩ = some (.int .u32 y1_5) := by rw [cell_of_row V4 _ _ _ _ _ HG.out]; exact stc_get _ 5 (by simp)
      have f5 : V4.frozen? ⟨B, 5, none⟩ = false := frozen_of_row V4 _ _ _ _ HG.out
      have c6 : V4.cell? ⟨B, 6, none⟩ = some (.int .u32 y2_6) := by rw [cell_of_row V4 _ _ _ _ _ HG.out]; exact stc_get _ 6 (by simp)
      have c10 : V4.cell? ⟨B, 10, none⟩ = some (.int .u32 y2_10) := by rw [cell_of_row V4 _ _ _ _ _ HG.out]; exact stc_get _ 10 (by simp)
      have f10 : V4.frozen? ⟨B, 10, none⟩ = false := frozen_of_row V4 _ _ _ _ HG.out
      have c11 : V4.cell? ⟨B, 11, none⟩ = some (.int .u32 y3_11) := by rw [cell_of_row V4 _ _ _ _ _ HG.out]; exact stc_get _ 11 (by simp)
      have c12 : V4.cell? ⟨B, 12, none⟩ = some (.int .u32 y0_12) := by rw [cell_of_row V4 _ _ _ _ _ HG.out]; exact stc_get _ 12 (by simp)
      have c15 : V4.cell? ⟨B, 15, none⟩ = some (.int .u32 y3_15) := by rw [cell_of_row V4 _ _ _ _ _ HG.out]; exact stc_get _ 15 (by simp)
      have f15 : V4.frozen? ⟨B, 15, none⟩ = false := frozen_of_row V4 _ _ _ _ HG.out
      have HF := Lib.hid (four_set 0 5 10 15 y4_0 y4_5 y4_10 y4_15 HG.out HR.out hb)
      go_wp2_with fail
      clear c0 c1 c5 c6 c10 c11 c12 c15 f0 f5 f10 f15 HG HR hb
      generalize (World.setCell _ _ _) = V5 at *
      obtain ⟨hg, hr, hb⟩ := HF.out
      have HG : Hid (V5.heap[B]? = some (.cells (stc [y4_0, y1_1, y2_2, y3_3, y0_4, y4_5, y2_6, y3_7, y0_8, y1_9, y4_10, y3_11, y0_12, y1_13, y2_14, y4_15]) 150)) := Lib.hid hg
      have HR := Lib.hid hr
      clear hg hr HF
      refine (quarter4_any y1_1 y2_6 y3_11 y0_12 _).mono ?_
      rintro e W6 ⟨rfl, rfl⟩
      obtain ⟨⟨y5_1, y5_6, y5_11, y5_12⟩, hq⟩ : ∃ t, t = q4 y1_1 y2_6 y3_11 y0_12 := ⟨_, rfl⟩
      rw [← hq]
      have HE5 : Hid (qrL [y4_0, y1_1, y2_2, y3_3, y0_4, y4_5, y2_6, y3_7, y0_8, y1_9, y4_10, y3_11, y0_12, y1_13, y2_14, y4_15] 1 6 11 12 = [y4_0, y5_1, y2_2, y3_3, y0_4, y4_5, y5_6, y3_7, y0_8, y1_9, y4_10, y5_11, y5_12, y1_13, y2_14, y4_15]) := Lib.hid (by simp only [q4, Prod.mk.injEq] at hq; obtain ⟨rfl, rfl, rfl, rfl⟩ := hq; rfl)
      clear hq
      try dsimp only
      have c1 : V5.cell? ⟨B, 1, none⟩ = some (.int .u32 y1_1) := by rw [cell_of_row V5 _ _ _ _ _ HG.out]; exact stc_get _ 1 (by simp)
      have f1 : V5.frozen? ⟨B, 1, none⟩ = false := frozen_of_row V5 _ _ _ _ HG.out
      have c2 : V5.cell? ⟨B, 2, none⟩ = some (.int .u32 y2_2) := by rw [cell_of_row V5 _ _ _ _ _ HG.out]; exact stc_get _ 2 (by simp)
      have c6 : V5.cell? ⟨B, 6, none⟩ = some (.int .u32 y2_6) := by rw [cell_of_row V5 _ _ _ _ _ HG.out]; exact stc_get _ 6 (by simp)
      have f6 : V5.frozen? ⟨B, 6, none⟩ = false := frozen_of_row V5 _ _ _ _ HG.out
      have c7 : V5.cell? ⟨B, 7, none⟩ = some (.int .u32 y3_7) := by rw [cell_of_row V5 _ _ _ _ _ HG.out]; exact stc_get _ 7 (by simp)
      have c8 : V5.cell? ⟨B, 8, none⟩ = some (.int .u32 y0_8) := by rw [cell_of_row V5 _ _ _ _ _ HG.out]; exact stc_get _ 8 (by simp)
      have c11 : V5.cell? ⟨B, 11, none⟩ = some (.int .u32 y3_11) := by rw [cell_of_row V5 _ _ _ _ _ HG.out]; exact stc_get _ 11 (by simp)
      have f11 : V5.frozen? ⟨B, 11, none⟩ = false := frozen_of_row V5 _ _ _ _ HG.out
      have c12 : V5.cell? ⟨B, 12, none⟩ = some (.int .u32 y0_12) := by rw [cell_of_row V5 _ _ _ _ _ HG.out]; exact stc_get _ 12 (by simp)
      have f12 : V5.frozen? ⟨B, 12, none⟩ = false := frozen_of_row V5 _ _ _ _ HG.out
      have c13 : V5.cell? ⟨B, 13, none⟩ = some (.int .u32 y1_13) := by rw [cell_of_row V5 _ _ _ _ _ HG.out]; exact stc_get _ 13 (by simp)
      have HF := Lib.hid (four_set 1 6 11 12 y5_1 y5_6 y5_11 y5_12 HG.out HR.out hb)
      go_wp2_with fail
      clear c1 c2 c6 c7 c8 c11 c12 c13 f1 f6 f11 f12 HG HR hb
      generalize (World.setCell _ _ _) = V6 at *
      obtain ⟨hg, hr, hb⟩ := HF.out
      have HG : Hid (V6.heap[B]? = some (.cells (stc [y4_0, y5_1, y2_2, y3_3, y0_4, y4_5, y5_6, y3_7, y0_8, y1_9, y4_10, y5_11, y5_12, y1_13, y2_14, y4_15]) 150)) := Lib.hid hg
      have HR := Lib.hid hr
      clear hg hr HF
      refine (quarter4_any y2_2 y3_7 y0_8 y1_13 _).mono ?_
      rintro e W7 ⟨rfl, rfl⟩
      obtain ⟨⟨y6_2, y6_7, y6_8, y6_13⟩, hq⟩ : ∃ t, t = q4 y2_2 y3_7 y0_8 y1_13 := ⟨_, rfl⟩
      rw [← hq]
      have HE6 : Hid (qrL [y4_0, y5_1, y2_2, y3_3, y0_4, y4_5, y5_6, y3_7, y0_8, y1_9, y4_10, y5_11, y5_12, y1_13, y2_14, y4_15] 2 7 8 13 = [y4_0, y5_1, y6_2, y3_3, y0_4, y4_5, y5_6, y6_7, y6_8, y1_9, y4_10, y5_11, y5_12, y6_13, y2_14, y4_15]) := Lib.hid (by simp only [q4, Prod.mk.injEq] at hq; obtain ⟨rfl, rfl, rfl, rfl⟩ := hq; rfl)
      clear hq
      try dsimp only
      have c2 : V6.cell? ⟨B, 2, none⟩ = some (.int .u32 y2_2) := by rw [cell_of_row V6 _ _ _ _ _ HG.out]; exact stc_get _ 2 (by simp)
      have f2 : V6.frozen? ⟨B, 2, none⟩ = false := frozen_of_row V6 _ _ _ _ HG.out
      have c3 : V6.cell? ⟨B, 3, none⟩ = some (.int .u32 y3_3) := by rw [cell_of_row V6 _ _ _ _ _ HG.out]; exact stc_get _ 3 (by simp)
      have c4 : V6.cell? ⟨B, 4, none⟩ = some (.int .u32 y0_4) := by rw [cell_of_row V6 _ _ _ _ _ HG.out]; exact stc_get _ 4 (by simp)
      have c7 : V6.cell? ⟨B, 7, none⟩ = some (.int .u32 y3_7) := by rw [cell_of_row V6 _ _ _ _ _ HG.out]; exact stc_get _ 7 (by simp)
      have f7 : V6.frozen? ⟨B, 7, none⟩ = false := frozen_of_row V6 _ _ _ _ HG.out
      have c8 : V6.cell? ⟨B, 8, none⟩ = some (.int .u32 y0_8) := by rw [cell_of_row V6 _ _ _ _ _ HG.out]; exact stc_get _ 8 (by simp)
      have f8 : V6.frozen? ⟨B, 8, none⟩ = false := frozen_of_row V6 _ _ _ _ HG.out
      have c9 : V6.cell? ⟨B, 9, none⟩ = some (.int .u32 y1_9) := by rw [cell_of_row V6 _ _ _ _ _ HG.out]; exact stc_get _ 9 (by simp)
      have c13 : V6.cell? ⟨B, 13, none⟩ = some (.int .u32 y1_13) := by rw [cell_of_row V6 _ _ _ _ _ HG.out]; exact stc_get _ 13 (by simp)
      have f13 : V6.frozen? ⟨B, 13, none⟩ = false := frozen_of_row V6 _ _ _ _ HG.out
      have c14 : V6.cell? ⟨B, 14, none⟩ = some (.int .u32 y2_14) := by rw [cell_of_row V6 _ _ _ _ _ HG.out]; exact stc_get _ 14 (by simp)
      have HF := Lib.hid (four_set 2 7 8 13 y6_2 y6_7 y6_8 y6_13 HG.out HR.out hb)
      go_wp2_with fail
      clear c2 c3 c4 c7 c8 c9 c13 c14 f2 f7 f8 f13 HG HR hb
      generalize (World.setCell _ _ _) = V7 at *
      obtain ⟨hg, hr, hb⟩ := HF.out
      have HG : Hid (V7.heap[B]? = some (.cells (stc [y4_0, y5_1, y6_2, y3_3, y0_4, y4_5, y5_6, y6_7, y6_8, y1_9, y4_10, y5_11, y5_12, y6_13, y2_14, y4_15]) 150)) := Lib.hid hg
      have HR := Lib.hid hr
      clear hg hr HF
      refine (quarter4_any y3_3 y0_4 y1_9 y2_14 _).mono ?_
      rintro e W8 ⟨rfl, rfl⟩
      obtain ⟨⟨y7_3, y7_4, y7_9, y7_14⟩, hq⟩ : ∃ t, t = q4 y3_3 y0_4 y1_9 y2_14 := ⟨_, rfl⟩
      rw [← hq]
      have HE7 : Hid (qrL [y4_0, y5_1, y6_2, y3_3, y0_4, y4_5, y5_6, y6_7, y6_8, y1_9, y4_10, y5_11, y5_12, y6_13, y2_14, y4_15] 3 4 9 14 = [y4_0, y5_1, y6_2, y7_3, y7_4, y4_5, y5_6, y6_7, y6_8, y7_9, y4_10, y5_11, y5_12, y6_13, y7_14, y4_15]) := Lib.hid (by simp only [q4, Prod.mk.injEq] at hq; obtain ⟨rfl, rfl, rfl, rfl⟩ := hq; rfl)
      clear hq
      try dsimp only
      have c3 : V7.cell? ⟨B, 3, none⟩ = some (.int .u32 y3_3) := by rw [cell_of_row V7 _ _ _ _ _ HG.out]; exact stc_get _ 3 (by simp)
      have f3 : V7.frozen? ⟨B, 3, none⟩ = false := frozen_of_row V7 _ _ _ _ HG.out
      have c4 : V7.cell? ⟨B, 4, none⟩ = some (.int .u32 y0_4) := by rw [cell_of_row V7 _ _ _ _ _ HG.out]; exact stc_get _ 4 (by simp)
      have f4 : V7.frozen? ⟨B, 4, none⟩ = false := frozen_of_row V7 _ _ _ _ HG.out
      have c9 : V7.cell? ⟨B, 9, none⟩ = some (.int .u32 y1_9) := by rw [cell_of_row V7 _ _ _ _ _ HG.out]; exact stc_get _ 9 (by simp)
      have f9 : V7.frozen? ⟨B, 9, none⟩ = false := frozen_of_row V7 _ _ _ _ HG.out
      have c14 : V7.cell? ⟨B, 14, none⟩ = some (.int .u32 y2_14) := by rw [cell_of_row V7 _ _ _ _ _ HG.out]; exact stc_get _ 14 (by simp)
      have f14 : V7.frozen? ⟨B, 14, none⟩ = false := frozen_of_row V7 _ _ _ _ HG.out
      have HF := Lib.hid (four_set 3 4 9 14 y7_3 y7_4 y7_9 y7_14 HG.out HR.out hb)
      go_wp2_with fail
      go_roundw
      case rel =>
        refine ⟨k + 1, by omega, by go_num, ?_, HF.out.2.1, HF.out.2.2⟩
        rw [HRD.out, HX.out, roundL, HE0.out, HE1.out, HE2.out, HE3.out, HE4.out, HE5.out, HE6.out, HE7.out]
        exact HF.out.1
      case measure => simp [intOf]; omega
    · have hd : decide ((k : Int) < 10) = false := by simp; omega
      obtain rfl : k = 10 := by omega
      rw [show ((10 : Nat) : Int) = (10 : Int) from rfl] at *
      have HG := Lib.hid hg; have HR := Lib.hid hr
      have HLr := Lib.hid (show (roundsL v 10).length = 16 from by rw [roundsL_length]; exact HL.out)
      clear hg hr
      generalize hrow : roundsL v 10 = row at *
      have HROW := Lib.hid hrow
      clear hrow
      have HIr := Lib.hid (show (Tryz.prog.info? 150).map (·.size) = some (stc row).size from by rw [stc_size, HLr.out]; exact HI2.out)
      have HO := Lib.hid (show zeros16.size = (stc row).size from by rw [stc_size, HLr.out]; exact stc_size _)
      have H1r := Lib.hid (stc_one row)
      go_wp2_with (first
        | (with_reducible refine wpList_load_row rfl 150 _ rfl B rfl 150 _ (0, 0) _ HG.out Tryz.underlying150 rfl HIr.out ?_)
        | (with_reducible refine wpList_store_row rfl 150 _ _ rfl (B + 1) (stc row) rfl rfl 150 _ HR.out HIr.out HO.out H1r.out ?_))
      exact bodyPost_ret (v := .agg (stc row)) (results_cell_row (by rfl) _ _ (B + 1) 150 _ (0, 0) _ rfl (setRow_heap _ _ _ _ _ _ HR.out) Tryz.underlying150 rfl HIr.out) rfl ⟨by first | (with_reducible rfl) | rw [HROW.out], by rw [HBB.out]; exact below_setRow hb (by omega) _⟩
end

section
open Go.RowKit Go.Sort
set_option maxRecDepth 100000
set_option linter.unusedSimpArgs false
set_option linter.unusedVariables false

/-- Bytes with so many of a number's four at a place. -/
def chPutB (l : List UInt8) (off : Nat) (v : Int) : Nat → List UInt8
  | 0 => l
  | k + 1 => (chPutB l off v k).set (off + k) (wbyte v (8 * k))
theorem chPutB_length (l : List UInt8) (off : Nat) (v : Int) (k : Nat) : (chPutB l off v k).length = l.length := by
  induction k with
  | zero => rfl
  | succ k ih => rw [chPutB, List.length_set, ih]
theorem chPutB_mid (p r : List UInt8) (x0 x1 x2 x3 : UInt8) (v : Int) : chPutB (p ++ x0 :: x1 :: x2 :: x3 :: r) p.length v 4 = p ++ leB v ++ r := by
  simp only [chPutB, leB, List.set_append, Nat.add_zero, Nat.mul_zero]
  simp
set_option maxHeartbeats 1000000 in
theorem store_any (l : List UInt8) (b off cap : Nat) (T : TypeId) (v : Int) (w : World) (hg : w.heap[b]? = some (.cells (bcells l) T)) (ho : off + 4 ≤ l.length) :
    Calls Tryz.prog 139 #[.slice (some ⟨b, off, none⟩) 4 cap, .int .u32 v] w fun e w' => e = .returned (.tuple #[]) ∧ w'.heap[b]? = some (.cells (bcells (chPutB l off v 4)) T) ∧ But b w w' := by
  have HG := Lib.hid hg
  clear hg
  go_enter Tryz.func139, Tryz.ntmps139
  go_wp2_with fail
  go_loopw [7] (fun i wr => ∃ k : Nat, k ≤ 4 ∧ i = .int .i64 (k : Int) ∧ wr.heap[b]? = some (.cells (bcells (chPutB l off v k)) T) ∧ But b w wr) (fun i _ => 4 - (intOf i).toNat)
  case atStart => exact ⟨0, by omega, rfl, HG.out, But.refl _ _⟩
  case round =>
    clear HG
    obtain ⟨k, hk, rfl, hg, hb⟩ := hrel
    have HG := Lib.hid hg
    clear hg
    by_cases hlt : k < 4
    · have hd : decide ((k : Int) < 4) = true := by simp; omega
      have hj : off + k < (chPutB l off v k).length := by rw [chPutB_length]; omega
      have hx : wr.cell? ⟨b, off + k, none⟩ = some (.int .u8 ((chPutB l off v k)[off + k].toNat : Int)) := by rw [cell_of_row wr _ _ _ _ _ HG.out]; exact bcells_get _ _ _ (List.getElem?_eq_getElem hj)
      have hf : wr.frozen? ⟨b, off + k, none⟩ = false := frozen_of_row wr _ _ _ _ HG.out
      generalize ((chPutB l off v k)[off + k].toNat : Int) = x at hx
      have HS := Lib.hid (show ∀ x : Int, x = v / 2 ^ (8 * k) % 256 → (wr.setCell ⟨b, off + k, none⟩ (.int .u8 x)).heap[b]? = some (.cells (bcells (chPutB l off v (k + 1))) T) from by
        rintro x rfl
        rw [← wbyte_toNat v (8 * k), chPutB, ← bcells_set]
        exact Go.heap_setCell_same _ _ _ _ _ _ HG.out)
      have e8 : (8 * (k : Int)).toNat = 8 * k := by omega
      have n8 : (0 : Int) ≤ 8 * (k : Int) := by omega
      go_wp2_with fail
      go_roundw
      case rel => exact ⟨k + 1, by omega, by go_num, HS.out _ (by simp), hb.trans (But.setCell _ _ _ _ rfl)⟩
      case measure => simp [intOf]; omega
    · have hd : decide ((k : Int) < 4) = false := by simp; omega
      obtain rfl : k = 4 := by omega
      go_wp2_with fail
      go_end0
      exact ⟨rfl, HG.out, hb⟩
end

section
open Go.RowKit Go.Sort
set_option maxRecDepth 100000
set_option linter.unusedSimpArgs false
set_option linter.unusedVariables false

def zeros64 : Array Value := bcells (List.replicate 64 0)
theorem info64 : (Tryz.prog.info? 152).map (fun i => (i.zero, i.size)) = some (some (.agg zeros64), 64) := by kernel_rfl
theorem bcells_one (l : List UInt8) : (bcells l).all (·.oneCell') = true := by
  rw [Array.all_eq_true]
  intro i hi
  simp [bcells, Lib.byteCells, Value.oneCell']
/-- The block's bytes while they are laid. -/
def outP (v f : List Int) (m : Nat) : List UInt8 := outB v f m ++ List.replicate (64 - 4 * m) 0
theorem outP_zero (v f : List Int) : outP v f 0 = List.replicate 64 0 := by simp [outP, outB]
theorem outP_full (v f : List Int) : outP v f 16 = outB v f 16 := by simp [outP]
theorem outP_length (v f : List Int) (m : Nat) (h : m ≤ 16) : (outP v f m).length = 64 := by simp [outP, outB_length]; omega
theorem outP_succ (v f : List Int) (m : Nat) (h : m < 16) : chPutB (outP v f m) (4 * m) ((v.getD m 0 + f.getD m 0) % 4294967296) 4 = outP v f (m + 1) := by
  have e : outP v f m = outB v f m ++ 0 :: 0 :: 0 :: 0 :: List.replicate (64 - 4 * (m + 1)) 0 := by
    rw [outP, show 64 - 4 * m = (64 - 4 * (m + 1)) + 1 + 1 + 1 + 1 by omega]
    simp only [List.replicate_succ]
  have := chPutB_mid (outB v f m) (List.replicate (64 - 4 * (m + 1)) 0) 0 0 0 0 ((v.getD m 0 + f.getD m 0) % 4294967296)
  rw [outB_length] at this
  rw [e, this]; rfl
theorem index_agg {P : Program} (t e : TypeId) (n k : Nat) (cs : Array Value) (x : Value) (hu : P.underlying t = some (.array n e)) (hs : (P.info? e).map (·.size) = some 1) (ha : ∀ w, (isAgg e).run P w = .ok false w) (hk : k < n) (hx : cs[k]? = some x) (w : World) :
    (Instr.index t (.agg cs) (.int .i64 (k : Int))).run P w = .ok x w := by
  have hn : (0 : Int) ≤ (k : Int) ∧ (k : Int) < (n : Int) := by omega
  have hsz : ∀ w, (sizeOf e).run P w = .ok 1 w := fun w => by
    cases hq : P.info? e with
    | none => simp [hq] at hs
    | some i => simp [hq] at hs; simp [sizeOf, typeInfo, hq, hs]
  simp [Instr.index, run_underlying hu, asIntOf, hn, go_sem, part, hsz, ha, hx]
  intro h; omega
theorem index_state (k : Nat) (l : List Int) (hl : l.length = 16) (hk : k < 16) (w : World) :
    (Instr.index 150 (.agg (stc l)) (.int .i64 (k : Int))).run Tryz.prog w = .ok (.int .u32 (l.getD k 0)) w :=
  index_agg _ 105 16 k (stc l) _ Tryz.underlying150 (by kernel_rfl) (fun w => by simp [isAgg, run_underlying Tryz.underlying105, go_sem]) hk (stc_get l k (by omega)) w
theorem sliced_at (t : TypeId) (n a i j : Nat) (ht : Tryz.prog.underlying t = some (.array (Tryz.prog.arrayLen t) (Tryz.prog.elem t))) (hn : Tryz.prog.arrayLen t = n) (hs : (Tryz.prog.info? (Tryz.prog.elem t)).map (·.size) = some 1) (hij : i ≤ j) (hj : j ≤ n) (hi : i < n) (x y : Int) (hx : x = (i : Int)) (hy : y = (j : Int)) (w : World) :
    (Instr.sliceAt t (.pointer (some ⟨a, 0, none⟩)) (some (.int .i64 x)) (some (.int .i64 y)) none).run Tryz.prog w = .ok (.slice (some ⟨a, i, none⟩) (j - i) (n - i)) w := by
  subst hx hy
  rw [run_sliceAt_array_lh w t ⟨a, 0, none⟩ ht .i64 .i64 (i : Int) (j : Int) (by omega) (by omega) (by rw [hn]; omega)]
  have hsz : ∀ w, (sizeOf (Tryz.prog.elem t)).run Tryz.prog w = .ok 1 w := fun w => by
    cases hq : Tryz.prog.info? (Tryz.prog.elem t) with
    | none => simp [hq] at hs
    | some i => simp [hq] at hs; simp [sizeOf, typeInfo, hq, hs]
  rw [hsz, hn]
  simp only [Result.andThen_ok, slicedAt, Int.toNat_natCast, Nat.mul_one]
  by_cases he : n = i
  · omega
  · rw [if_neg he, Addr.add_lit, Nat.zero_add]
set_option maxHeartbeats 1000000 in
theorem block_any (v : List Int) (w : World) (hl : v.length = 16) :
    Calls Tryz.prog 118 #[.agg (stc v)] w fun e w' => e = .returned (.agg (bcells (outB (roundsL v 10) v 16))) ∧ Below w.heap.size w w' := by
  obtain ⟨hz, hi⟩ := zero_of_info infoSt
  obtain ⟨hz6, hi6⟩ := zero_of_info info64
  have HI := Lib.hid (show (Tryz.prog.info? 150).map (·.size) = some (stc v).size from by rw [stc_size, hl]; exact hi)
  have HI6 := Lib.hid (show (Tryz.prog.info? 152).map (·.size) = some (bcells (outB (roundsL v 10) v 16)).size from by rw [bcells_size, outB_length]; exact hi6)
  have H1 := Lib.hid (stc_one v)
  have HL := Lib.hid hl
  have HG0 := Lib.hid (blk_old (o := .cells zeros64 152) (blk_old (o := .cells zeros64 152) (blk_new w (.cells (stc v) 150))))
  have HR0 := Lib.hid (blk_old (o := .cells zeros64 152) (blk_new2 w (.cells (stc v) 150) (.cells zeros64 152)))
  have HO0 := Lib.hid (blk_new3 w (.cells (stc v) 150) (.cells zeros64 152) (.cells zeros64 152))
  have hb0 := below_new3 w (.cells (stc v) 150) (.cells zeros64 152) (.cells zeros64 152)
  clear hi hl hi6 hz
  go_enter Tryz.func118, Tryz.ntmps118
  go_wp2_with (with_reducible refine wpList_load_row rfl 150 _ rfl w.heap.size rfl 150 _ (0, 0) _ HG0.out Tryz.underlying150 rfl HI.out ?_)
  clear hz6
  generalize (((w.alloc _).alloc _).alloc _) = W0 at *
  generalize hBB : w.heap.size = B at *
  have HBB := Lib.hid hBB
  clear hBB
  refine (mixed_any v W0 HL.out).mono ?_
  rintro e W1 ⟨rfl, hb1⟩
  have hlt0 : B + 1 + 1 < W0.heap.size := blk_lt HO0.out
  have HG := Lib.hid (blk_below hb1 (by omega) HG0.out)
  have HR := Lib.hid (blk_below hb1 (by omega) HR0.out)
  have HO := Lib.hid (blk_below hb1 hlt0 HO0.out)
  have hb : Below B w W1 := hb0.trans (hb1.mono (by omega))
  have hlt1 : B + 1 + 1 < W1.heap.size := blk_lt HO.out
  have HLr := Lib.hid (show (roundsL v 10).length = 16 from by rw [roundsL_length]; exact HL.out)
  clear HG0 HR0 HO0 hb0 hb1 hlt0
  generalize hrow : roundsL v 10 = vl at *
  have HROW := Lib.hid hrow
  clear hrow
  go_wp2_with fail
  go_loopw [8] (fun i wr => ∃ k : Nat, k ≤ 16 ∧ i = .int .i64 (k : Int) ∧ wr.heap[B]? = some (.cells (stc v) 150) ∧ wr.heap[B + 1]? = some (.cells zeros64 152) ∧ wr.heap[B + 1 + 1]? = some (.cells (bcells (outP vl v k)) 152) ∧ Below B w wr) (fun i _ => 16 - (intOf i).toNat)
  case atStart => exact ⟨0, by omega, rfl, HG.out, HR.out, by rw [outP_zero]; exact HO.out, hb⟩
  case round =>
    clear HG HR HO hb hlt1
    obtain ⟨k, hk, rfl, hg, hr, ho, hb⟩ := hrel
    have HG := Lib.hid hg; have HR := Lib.hid hr; have HO := Lib.hid ho
    clear hg hr ho
    by_cases hlt : k < 16
    · have hd : decide ((k : Int) < 16) = true := by simp; omega
      have hx := index_state k vl HLr.out hlt
      have hc : wr.cell? ⟨B, k, none⟩ = some (.int .u32 (v.getD k 0)) := by rw [cell_of_row wr _ _ _ _ _ HG.out]; exact stc_get v k (by rw [HL.out]; exact hlt)
      have HS := Lib.hid (outP_succ vl v k hlt)
      generalize vl.getD k 0 = x at *
      generalize v.getD k 0 = y at *
      go_wp2_with fail
      have q1 := cell_regrown hc
      have e1 : IntKind.i64.wrap (4 * (k : Int)) = 4 * (k : Int) := IntWalk.i64_in _ (by omega)
      have e2 : IntKind.i64.wrap (4 * (k : Int) + 4) = 4 * (k : Int) + 4 := IntWalk.i64_in _ (by omega)
      have sl := sliced_at 152 64 (B + 1 + 1) (4 * k) (4 * k + 4) (by kernel_rfl) (by kernel_rfl) (by kernel_rfl) (by omega) (by omega) (by omega) (4 * (k : Int)) (4 * (k : Int) + 4) (by omega) (by omega)
      rw [show 4 * k + 4 - 4 * k = 4 by omega] at sl
      refine wp_region_reads_tail 11 (by kernel_rfl) (by kernel_rfl) ?_
      simp only [List.take_succ_cons, List.take_zero, List.drop_succ_cons, List.drop_zero]
      repeat (first | go_big_quiet_step (fail) | quiet_step (fail))
      refine wpQuiet_nil ?_
      intro Y hY
      have hltw : B + 1 + 1 < wr.heap.size := blk_lt HO.out
      have HG2 := Lib.hid (blk_below hY (by omega) HG.out)
      have HR2 := Lib.hid (blk_below hY (by omega) HR.out)
      have HO2 := Lib.hid (blk_below hY hltw HO.out)
      have hb2 : Below B w Y := hb.trans (hY.mono (by omega))
      have hl2 := blk_lt HO2.out
      clear hY q1 hc hx HG HR HO hb sl e1 e2 hltw
      go_wp2_with fail
      refine (store_any (outP vl v k) (B + 1 + 1) (4 * k) (64 - 4 * k) _ _ Y HO2.out (by rw [outP_length _ _ _ (by omega)]; omega)).mono ?_
      rintro e Z ⟨rfl, ho3, hbut⟩
      rw [HS.out] at ho3
      have HO3 := Lib.hid ho3
      clear ho3 HO2
      have HG3 := Lib.hid ((hbut.block B (by omega) (by omega)).trans HG2.out)
      have HR3 := Lib.hid ((hbut.block (B + 1) (by omega) (by omega)).trans HR2.out)
      have hb3 : Below B w Z := hb2.trans (hbut.below (by omega) (by omega))
      clear HG2 HR2 hb2 hbut hl2
      go_wp2_with fail
      go_roundw
      case rel => exact ⟨k + 1, by omega, by go_num, HG3.out, HR3.out, HO3.out, hb3⟩
      case measure => simp [intOf]; omega
    · have hd : decide ((k : Int) < 16) = false := by simp; omega
      obtain rfl : k = 16 := by omega
      have HO2 := Lib.hid (show wr.heap[B + 1 + 1]? = some (.cells (bcells (outB vl v 16)) 152) from by rw [← outP_full]; exact HO.out)
      have HSz := Lib.hid (show zeros64.size = (bcells (outB vl v 16)).size from by rw [bcells_size, outB_length]; exact bcells_size _)
      have HOne := Lib.hid (bcells_one (outB vl v 16))
      clear HO
      go_wp2_with (first
        | (with_reducible refine wpList_load_row rfl 152 _ rfl (B + 1 + 1) rfl 152 _ (0, 0) _ HO2.out Tryz.underlying152 rfl HI6.out ?_)
        | (with_reducible refine wpList_store_row rfl 152 _ _ rfl (B + 1) (bcells (outB vl v 16)) rfl rfl 152 _ HR.out HI6.out HSz.out HOne.out ?_))
      exact bodyPost_ret (v := .agg (bcells (outB vl v 16))) (results_cell_row (by rfl) _ _ (B + 1) 152 _ (0, 0) _ rfl (setRow_heap _ _ _ _ _ _ HR.out) Tryz.underlying152 rfl HI6.out) rfl ⟨by first | (with_reducible rfl) | rw [HROW.out], by rw [HBB.out]; exact below_setRow hb (by omega) _⟩
end

section
open Go.RowKit Go.Sort
set_option maxRecDepth 100000
set_option linter.unusedSimpArgs false
set_option linter.unusedVariables false

theorem checkKey_any (key nonce : ByteArray) (n : Int) (w : World) (h : key.size ≠ 32 ∨ nonce.size ≠ 12) :
    Calls Tryz.prog 114 #[.string key, .string nonce, .int .i64 n] w fun e w' => e = .returned (.int .i64 21) ∧ w = w' := by
  by_cases h1 : key.size = 32
  · have hd1 : ((key.size : Int) != 32) = false := by simp [h1]
    have hd2 : ((nonce.size : Int) != 12) = true := by simp; omega
    have H := Lib.hid h1
    clear h1 h
    go_enter Tryz.func114, Tryz.ntmps114
    go_wp2_with fail
    go_ret
    exact ⟨rfl, rfl⟩
  · have hd1 : ((key.size : Int) != 32) = true := by simp; omega
    go_enter Tryz.func114, Tryz.ntmps114
    go_wp2_with fail
    go_ret
    exact ⟨rfl, rfl⟩
theorem checkArg_any (key nonce : ByteArray) (n : Int) (w : World) (hk : key.size = 32) (hn : nonce.size = 12) (h : n < 0 ∨ 4294967295 < n) :
    Calls Tryz.prog 114 #[.string key, .string nonce, .int .i64 n] w fun e w' => e = .returned (.int .i64 1) ∧ w = w' := by
  have hd1 : ((key.size : Int) != 32) = false := by simp [hk]
  have hd2 : ((nonce.size : Int) != 12) = false := by simp [hn]
  clear hk hn
  by_cases h1 : n < 0
  · have hd3 : decide (n < 0) = true := by simpa using h1
    go_enter Tryz.func114, Tryz.ntmps114
    go_wp2_with fail
    go_ret
    exact ⟨rfl, rfl⟩
  · have hd3 : decide (n < 0) = false := by simpa using h1
    have hd4 : decide (4294967295 < n) = true := by simp; omega
    go_enter Tryz.func114, Tryz.ntmps114
    go_wp2_with fail
    go_ret
    exact ⟨rfl, rfl⟩
theorem checkOk_any (key nonce : ByteArray) (n : Nat) (w : World) (hk : key.size = 32) (hn : nonce.size = 12) (h : n ≤ 4294967295) :
    Calls Tryz.prog 114 #[.string key, .string nonce, .int .i64 (n : Int)] w fun e w' => e = .returned (.int .i64 0) ∧ w = w' := by
  have hd1 : ((key.size : Int) != 32) = false := by simp [hk]
  have hd2 : ((nonce.size : Int) != 12) = false := by simp [hn]
  have hd3 : decide ((n : Int) < 0) = false := by simp
  have hd4 : decide (4294967295 < (n : Int)) = false := by simp; omega
  clear hk hn
  go_enter Tryz.func114, Tryz.ntmps114
  go_wp2_with fail
  go_ret
  exact ⟨rfl, rfl⟩
theorem blocksFor_any (data : ByteArray) (w : World) (h : data.size ≤ 1099511627776) :
    Calls Tryz.prog 115 #[.string data] w fun e w' => e = .returned (.int .i64 (((data.size + 63) / 64 : Nat) : Int)) ∧ w = w' := by
  go_enter Tryz.func115, Tryz.ntmps115
  go_wp2_with fail
  go_ret
  refine ⟨?_, rfl⟩
  show Ending.returned (.int .i64 (((data.size : Int) + 64 - 1) / 64)) = _
  rw [show ((data.size : Int) + 64 - 1) / 64 = (((data.size + 63) / 64 : Nat) : Int) by omega]
/-- The state while it is laid. -/
def iniA (key : List UInt8) (k : Nat) : List Int := [1634760805, 857760878, 2036477234, 1797285236] ++ lws key k ++ List.replicate (12 - k) 0
def iniB (key nonce : List UInt8) (n : Int) (k : Nat) : List Int := [1634760805, 857760878, 2036477234, 1797285236] ++ lws key 8 ++ [n] ++ lws nonce k ++ List.replicate (3 - k) 0
theorem iniA_length (key : List UInt8) (k : Nat) (h : k ≤ 12) : (iniA key k).length = 16 := by simp [iniA, lws_length]; omega
theorem iniB_length (key nonce : List UInt8) (n : Int) (k : Nat) (h : k ≤ 3) : (iniB key nonce n k).length = 16 := by simp [iniB, lws_length]; omega
theorem iniA_set (key : List UInt8) (k : Nat) (h : k < 8) : (iniA key k).set (4 + k) (lw (key.getD (4 * k) 0) (key.getD (4 * k + 1) 0) (key.getD (4 * k + 2) 0) (key.getD (4 * k + 3) 0)) = iniA key (k + 1) := by
  have e : List.replicate (12 - k) (0 : Int) = 0 :: List.replicate (12 - (k + 1)) 0 := by
    rw [show 12 - k = (12 - (k + 1)) + 1 by omega, List.replicate_succ]
  rw [iniA, e, List.set_append, if_neg (by simp [lws_length]; omega), show ([1634760805, 857760878, 2036477234, 1797285236] ++ lws key k : List Int).length = 4 + k by simp [lws_length]; omega, Nat.sub_self, List.set_cons_zero, iniA, lws_succ key k]
  simp
theorem iniB_set (key nonce : List UInt8) (n : Int) (k : Nat) (h : k < 3) : (iniB key nonce n k).set (13 + k) (lw (nonce.getD (4 * k) 0) (nonce.getD (4 * k + 1) 0) (nonce.getD (4 * k + 2) 0) (nonce.getD (4 * k + 3) 0)) = iniB key nonce n (k + 1) := by
  have e : List.replicate (3 - k) (0 : Int) = 0 :: List.replicate (3 - (k + 1)) 0 := by
    rw [show 3 - k = (3 - (k + 1)) + 1 by omega, List.replicate_succ]
  rw [iniB, e, List.set_append, if_neg (by simp [lws_length]; omega), show ([1634760805, 857760878, 2036477234, 1797285236] ++ lws key 8 ++ [n] ++ lws nonce k : List Int).length = 13 + k by simp [lws_length]; omega, Nat.sub_self, List.set_cons_zero, iniB, lws_succ nonce k]
  simp
theorem iniAB (key nonce : List UInt8) (n : Int) : (iniA key 8).set 12 n = iniB key nonce n 0 := by
  rw [iniA, List.set_append, if_neg (by simp [lws_length]), show ([1634760805, 857760878, 2036477234, 1797285236] ++ lws key 8 : List Int).length = 12 by simp [lws_length], iniB]
  simp [List.replicate, lws]
theorem iniB_full (key nonce : List UInt8) (n : Nat) : iniB key nonce (n : Int) 3 = firstL key nonce n := by simp [iniB, firstL]
def ini0 : Array Value := (((zeros16.setIfInBounds 0 (Value.int .u32 1634760805)).setIfInBounds 1 (Value.int .u32 857760878)).setIfInBounds 2 (Value.int .u32 2036477234)).setIfInBounds 3 (Value.int .u32 1797285236)
theorem ini0_eq (key : List UInt8) : ini0 = stc (iniA key 0) := by
  simp [ini0, zeros16, stc_set, iniA, lws, List.replicate]
/-- Four bytes of a string as a number. -/
theorem loadAt (s : ByteArray) (m k : Nat) (hs : s.size = 4 * m) (hk : k < m) (w : World) :
    Calls Tryz.prog 137 #[.string (s.extract (4 * k) (4 * k + 4))] w fun e w' => e = .returned (.int .u32 (lw (s.data.toList.getD (4 * k) 0) (s.data.toList.getD (4 * k + 1) 0) (s.data.toList.getD (4 * k + 2) 0) (s.data.toList.getD (4 * k + 3) 0))) ∧ Below w.heap.size w w' := by
  have h4 : (s.extract (4 * k) (4 * k + 4)).size = 4 := by simp; omega
  refine (chaLoad_any _ w h4).mono ?_
  rintro e w' ⟨rfl, hb⟩
  refine ⟨?_, hb⟩
  have g : ∀ j (h : j < (s.extract (4 * k) (4 * k + 4)).size), j < 4 → (s.extract (4 * k) (4 * k + 4))[j] = s.data.toList.getD (4 * k + j) 0 := fun j h hj => by
    rw [getD_byte s (4 * k + j) (by omega)]
    simp [ByteArray.getElem_extract]
  rw [g 0 _ (by omega), g 1 _ (by omega), g 2 _ (by omega), g 3 _ (by omega)]
  rfl
set_option maxHeartbeats 1000000 in
theorem initial_any (key nonce : ByteArray) (n : Nat) (w : World) (hk : key.size = 32) (hn : nonce.size = 12) (h : n ≤ 4294967295) :
    Calls Tryz.prog 117 #[.string key, .string nonce, .int .u32 (n : Int)] w fun e w' => e = .returned (.agg (stc (firstL key.data.toList nonce.data.toList n))) ∧ Below w.heap.size w w' := by
  obtain ⟨hz, hi⟩ := zero_of_info infoSt
  have hz16 : zeros16.size = 16 := by simp [zeros16, stc_size]
  have HI := Lib.hid hi
  have HIn := Lib.hid (show (Tryz.prog.info? 150).map (·.size) = some ini0.size from by rw [ini0_eq key.data.toList, stc_size, iniA_length _ _ (by omega)]; exact hi)
  have HSz := Lib.hid (show zeros16.size = ini0.size from by rw [ini0_eq key.data.toList, stc_size, iniA_length _ _ (by omega)]; exact hz16)
  have HOne := Lib.hid (show ini0.all (·.oneCell') = true from by rw [ini0_eq key.data.toList]; exact stc_one _)
  have HG0 := Lib.hid (blk_old (o := .cells zeros16 150) (blk_new w (.cells zeros16 150)))
  have HR0 := Lib.hid (blk_new2 w (.cells zeros16 150) (.cells zeros16 150))
  have hb0 := below_new2 w (.cells zeros16 150) (.cells zeros16 150)
  have HK := Lib.hid hk; have HN := Lib.hid hn
  clear hi hk hn
  go_enter Tryz.func117, Tryz.ntmps117
  go_wp2_with (refine wpList_store_row rfl 150 _ _ rfl (w.heap.size + 1) ini0 rfl rfl 150 _ HR0.out HIn.out HSz.out HOne.out ?_)
  have hGs := (setRow_other _ (w.heap.size + 1) w.heap.size ini0 (by omega)).trans HG0.out
  have hRs := setRow_heap _ (w.heap.size + 1) _ ini0 _ _ HR0.out
  have hbs := below_setRow hb0 (show w.heap.size ≤ w.heap.size + 1 by omega) ini0
  clear HG0 HR0 hb0 hz hz16
  generalize (World.setRow _ _ _) = W0 at *
  generalize hBB : w.heap.size = B at *
  have HBB := Lib.hid hBB
  clear hBB
  rw [ini0_eq key.data.toList] at hRs
  have HG := Lib.hid hGs; have HR := Lib.hid hRs
  clear hGs hRs
  go_loopw [11] (fun i wr => ∃ k : Nat, k ≤ 8 ∧ i = .int .i64 (k : Int) ∧ wr.heap[B]? = some (.cells zeros16 150) ∧ wr.heap[B + 1]? = some (.cells (stc (iniA key.data.toList k)) 150) ∧ Below B w wr) (fun i _ => 8 - (intOf i).toNat)
  case atStart => exact ⟨0, by omega, rfl, HG.out, HR.out, hbs⟩
  case round =>
    clear HG HR hbs
    obtain ⟨k, hk, rfl, hg, hr, hb⟩ := hrel
    have HG := Lib.hid hg; have HR := Lib.hid hr
    clear hg hr
    by_cases hlt : k < 8
    · have hd : decide ((k : Int) < 8) = true := by simp; omega
      have s1 : (4 * (k : Int)).toNat = 4 * k := by omega
      have s2 : (4 * (k : Int) + 4).toNat = 4 * k + 4 := by omega
      have hsz : (4 * (k : Int) + 4) ≤ (key.size : Int) := by rw [HK.out]; omega
      have HS := Lib.hid (iniA_set key.data.toList k hlt)
      have HC := Lib.hid (loadAt key 8 k HK.out hlt wr)
      generalize lw (key.data.toList.getD (4 * k) 0) _ _ _ = x at *
      go_wp2_with fail
      refine HC.out.mono ?_
      rintro e W1 ⟨rfl, hb1⟩
      have hlt0 := blk_lt HR.out
      have HG1 := Lib.hid (blk_below hb1 (by omega) HG.out)
      have HR1 := Lib.hid (blk_below hb1 hlt0 HR.out)
      have hbb : Below B w W1 := hb.trans (hb1.mono (by omega))
      have hll : (iniA key.data.toList k).length = 16 := iniA_length _ _ (by omega)
      have hc : W1.cell? ⟨B + 1, 4 + k, none⟩ = some (.int .u32 ((iniA key.data.toList k).getD (4 + k) 0)) := by rw [cell_of_row W1 _ _ _ _ _ HR1.out]; exact stc_get _ (4 + k) (by omega)
      have hf : W1.frozen? ⟨B + 1, 4 + k, none⟩ = false := frozen_of_row W1 _ _ _ _ HR1.out
      generalize (iniA key.data.toList k).getD (4 + k) 0 = old at *
      have hn4 : (4 + (k : Int)).toNat = 4 + k := by omega
      clear hb1 hlt0 HG HR hll HC hb s1 s2 hsz
      go_wp2_with fail
      go_roundw
      case rel =>
        refine ⟨k + 1, by omega, by go_num, ?_, ?_, hbb.setCell (by simp) _⟩
        · rw [heap_setCell_other _ _ _ _ (by simp)]; exact HG1.out
        · rw [← HS.out, ← stc_set]; exact Go.heap_setCell_same _ _ _ _ _ _ HR1.out
      case measure => simp [intOf]; omega
    · have hd : decide ((k : Int) < 8) = false := by simp; omega
      obtain rfl : k = 8 := by omega
      rw [show ((8 : Nat) : Int) = (8 : Int) from rfl] at *
      have hll : (iniA key.data.toList 8).length = 16 := iniA_length _ _ (by omega)
      have hc : wr.cell? ⟨B + 1, 12, none⟩ = some (.int .u32 ((iniA key.data.toList 8).getD 12 0)) := by rw [cell_of_row wr _ _ _ _ _ HR.out]; exact stc_get _ 12 (by omega)
      have hf : wr.frozen? ⟨B + 1, 12, none⟩ = false := frozen_of_row wr _ _ _ _ HR.out
      have HS := Lib.hid (iniAB key.data.toList nonce.data.toList (n : Int))
      have HR2 := Lib.hid (show (wr.setCell ⟨B + 1, 12, none⟩ (.int .u32 (n : Int))).heap[B + 1]? = some (.cells (stc (iniB key.data.toList nonce.data.toList (n : Int) 0)) 150) from by rw [← HS.out, ← stc_set]; exact Go.heap_setCell_same _ _ _ _ _ _ HR.out)
      have HG2 := Lib.hid (show (wr.setCell ⟨B + 1, 12, none⟩ (.int .u32 (n : Int))).heap[B]? = some (.cells zeros16 150) from by rw [heap_setCell_other _ _ _ _ (by simp)]; exact HG.out)
      have hb2 : Below B w (wr.setCell ⟨B + 1, 12, none⟩ (.int .u32 (n : Int))) := hb.setCell (by simp) _
      generalize (iniA key.data.toList 8).getD 12 0 = old at *
      clear HR HG hb hll
      go_wp2_with fail
      clear hc hf
      generalize (World.setCell _ _ _) = W1 at *
      go_loopw [28] (fun i wr => ∃ k : Nat, k ≤ 3 ∧ i = .int .i64 (k : Int) ∧ wr.heap[B]? = some (.cells zeros16 150) ∧ wr.heap[B + 1]? = some (.cells (stc (iniB key.data.toList nonce.data.toList (n : Int) k)) 150) ∧ Below B w wr) (fun i _ => 3 - (intOf i).toNat)
      case atStart => exact ⟨0, by omega, rfl, HG2.out, HR2.out, hb2⟩
      case round =>
        clear HG2 HR2 hb2 hd
        obtain ⟨k, hk, rfl, hg, hr, hb⟩ := hrel
        have HG := Lib.hid hg; have HR := Lib.hid hr
        clear hg hr
        by_cases hlt : k < 3
        · have hd : decide ((k : Int) < 3) = true := by simp; omega
          have s1 : (4 * (k : Int)).toNat = 4 * k := by omega
          have s2 : (4 * (k : Int) + 4).toNat = 4 * k + 4 := by omega
          have hsz : (4 * (k : Int) + 4) ≤ (nonce.size : Int) := by rw [HN.out]; omega
          have HS := Lib.hid (iniB_set key.data.toList nonce.data.toList (n : Int) k hlt)
          have HC := Lib.hid (loadAt nonce 3 k HN.out hlt wr)
          generalize lw (nonce.data.toList.getD (4 * k) 0) _ _ _ = x at *
          go_wp2_with fail
          refine HC.out.mono ?_
          rintro e W1 ⟨rfl, hb1⟩
          have hlt0 := blk_lt HR.out
          have HG1 := Lib.hid (blk_below hb1 (by omega) HG.out)
          have HR1 := Lib.hid (blk_below hb1 hlt0 HR.out)
          have hbb : Below B w W1 := hb.trans (hb1.mono (by omega))
          have hll : (iniB key.data.toList nonce.data.toList (n : Int) k).length = 16 := iniB_length _ _ _ _ (by omega)
          have hc : W1.cell? ⟨B + 1, 13 + k, none⟩ = some (.int .u32 ((iniB key.data.toList nonce.data.toList (n : Int) k).getD (13 + k) 0)) := by rw [cell_of_row W1 _ _ _ _ _ HR1.out]; exact stc_get _ (13 + k) (by omega)
          have hf : W1.frozen? ⟨B + 1, 13 + k, none⟩ = false := frozen_of_row W1 _ _ _ _ HR1.out
          generalize (iniB key.data.toList nonce.data.toList (n : Int) k).getD (13 + k) 0 = old at *
          have hn4 : (13 + (k : Int)).toNat = 13 + k := by omega
          clear hb1 hlt0 HG HR hll HC hb s1 s2 hsz
          go_wp2_with fail
          go_roundw
          case rel =>
            refine ⟨k + 1, by omega, by go_num, ?_, ?_, hbb.setCell (by simp) _⟩
            · rw [heap_setCell_other _ _ _ _ (by simp)]; exact HG1.out
            · rw [← HS.out, ← stc_set]; exact Go.heap_setCell_same _ _ _ _ _ _ HR1.out
          case measure => simp [intOf]; omega
        · have hd : decide ((k : Int) < 3) = false := by simp; omega
          obtain rfl : k = 3 := by omega
          rw [show ((3 : Nat) : Int) = (3 : Int) from rfl] at *
          have HR2 := Lib.hid (show wr.heap[B + 1]? = some (.cells (stc (firstL key.data.toList nonce.data.toList n)) 150) from by rw [← iniB_full]; exact HR.out)
          have HL := Lib.hid (firstL_length key.data.toList nonce.data.toList n)
          clear HR
          generalize hrow : firstL key.data.toList nonce.data.toList n = row at *
          have HROW := Lib.hid hrow
          clear hrow
          have HIr := Lib.hid (show (Tryz.prog.info? 150).map (·.size) = some (stc row).size from by rw [stc_size, HL.out]; exact HI.out)
          have HO := Lib.hid (show zeros16.size = (stc row).size from by rw [stc_size, HL.out]; exact stc_size _)
          have H1r := Lib.hid (stc_one row)
          go_wp2_with (first
            | (with_reducible refine wpList_load_row rfl 150 _ rfl (B + 1) rfl 150 _ (0, 0) _ HR2.out Tryz.underlying150 rfl HIr.out ?_)
            | (with_reducible refine wpList_store_row rfl 150 _ _ rfl B (stc row) rfl rfl 150 _ HG.out HIr.out HO.out H1r.out ?_))
          exact bodyPost_ret (v := .agg (stc row)) (results_cell_row (by rfl) _ _ B 150 _ (0, 0) _ rfl (setRow_heap _ _ _ _ _ _ HG.out) Tryz.underlying150 rfl HIr.out) rfl ⟨by first | (with_reducible rfl) | rw [HROW.out], by rw [HBB.out]; exact below_setRow hb (by omega) _⟩
end

section
open Go.RowKit Go.Sort
set_option maxRecDepth 100000
set_option linter.unusedSimpArgs false
set_option linter.unusedVariables false

theorem ownBlockErr_any (key nonce : ByteArray) (n q : Int) (w : World) (hq : q ≠ 0) (h : ∀ W, Calls Tryz.prog 114 #[.string key, .string nonce, .int .i64 n] W fun e w' => e = .returned (.int .i64 q) ∧ W = w') :
    Calls Tryz.prog 95 #[.string key, .string nonce, .int .i64 n] w fun e w' => e = .returned (.tuple #[.string ⟨#[]⟩, .int .i64 q]) ∧ Below w.heap.size w w' := by
  have HC := Lib.hid h
  clear h
  have hd : (q != 0) = true := by simpa using hq
  go_enter Tryz.func95, Tryz.ntmps95
  go_wp2_with fail
  refine (HC.out _).mono ?_
  rintro e W1 ⟨rfl, rfl⟩
  go_wp2_with fail
  go_ret2
  exact ⟨rfl, Below.refl _ _⟩
theorem sliced_all (t : TypeId) (n a : Nat) (ht : Tryz.prog.underlying t = some (.array (Tryz.prog.arrayLen t) (Tryz.prog.elem t))) (hn : Tryz.prog.arrayLen t = n) (hs : (Tryz.prog.info? (Tryz.prog.elem t)).map (·.size) = some 1) (hp : 0 < n) (w : World) :
    (Instr.sliceAt t (.pointer (some ⟨a, 0, none⟩)) none none none).run Tryz.prog w = .ok (.slice (some ⟨a, 0, none⟩) n n) w := by
  rw [run_sliceAt_array_all w t ⟨a, 0, none⟩ ht]
  have hsz : ∀ w, (sizeOf (Tryz.prog.elem t)).run Tryz.prog w = .ok 1 w := fun w => by
    cases hq : Tryz.prog.info? (Tryz.prog.elem t) with
    | none => simp [hq] at hs
    | some i => simp [hq] at hs; simp [sizeOf, typeInfo, hq, hs]
  rw [hsz, hn]
  simp only [Result.andThen_ok, slicedAt, Nat.sub_zero]
  rw [if_neg (by omega), Addr.add_lit]
set_option maxHeartbeats 1000000 in
theorem ownBlock_any (key nonce : ByteArray) (n : Nat) (w : World) (hk : key.size = 32) (hn : nonce.size = 12) (hnn : n ≤ 4294967295) :
    Calls Tryz.prog 95 #[.string key, .string nonce, .int .i64 (n : Int)] w fun e w' => e = .returned (.tuple #[.string ⟨(chaB key.data.toList nonce.data.toList n).toArray⟩, .int .i64 0]) ∧ Below w.heap.size w w' := by
  obtain ⟨hz6, hi6⟩ := zero_of_info info64
  have hnm : (n : Int) % 4294967296 = (n : Int) := by omega
  have HC := Lib.hid (checkOk_any key nonce n w hk hn hnn)
  have HI0 := Lib.hid (initial_any key nonce n w hk hn hnn)
  have HL := Lib.hid (firstL_length key.data.toList nonce.data.toList n)
  have HCB : Hid (chaB key.data.toList nonce.data.toList n = outB (roundsL (firstL key.data.toList nonce.data.toList n) 10) (firstL key.data.toList nonce.data.toList n) 16) := Lib.hid rfl
  have HLB := Lib.hid (chaB_length key.data.toList nonce.data.toList n)
  have HS6 := Lib.hid hi6
  clear hk hn hi6
  go_enter Tryz.func95, Tryz.ntmps95
  go_wp2_with fail
  refine HC.out.mono ?_
  rintro e W1 ⟨rfl, rfl⟩
  go_wp2_with fail
  refine HI0.out.mono ?_
  rintro e W1 ⟨rfl, hb1⟩
  generalize firstL key.data.toList nonce.data.toList n = fl at *
  clear HI0
  go_wp2_with fail
  refine (block_any fl W1 HL.out).mono ?_
  rintro e W2 ⟨rfl, hb2⟩
  have hb : Below w.heap.size w W2 := hb1.trans (hb2.mono hb1.size)
  have hsz : w.heap.size ≤ W2.heap.size := Nat.le_trans hb1.size hb2.size
  rw [← HCB.out]
  generalize hrow : chaB key.data.toList nonce.data.toList n = row at *
  have HROW := Lib.hid hrow
  clear hrow
  have HI := Lib.hid (show (Tryz.prog.info? 152).map (·.size) = some (bcells row).size from by rw [bcells_size, HLB.out]; exact HS6.out)
  have HZ := Lib.hid (show zeros64.size = (bcells row).size from by rw [bcells_size, HLB.out]; exact bcells_size _)
  have HOne := Lib.hid (bcells_one row)
  have HG := Lib.hid (blk_new W2 (.cells zeros64 152))
  have HR := Lib.hid (setRow_heap (W2.alloc (.cells zeros64 152)) W2.heap.size _ (bcells row) _ _ HG.out)
  have hb3 : Below w.heap.size w ((W2.alloc (.cells zeros64 152)).setRow W2.heap.size (bcells row)) := below_setRow (hb.alloc hsz _) hsz _
  have sl := sliced_all 152 64 W2.heap.size (by kernel_rfl) (by kernel_rfl) (by kernel_rfl) (by omega)
  have hcv := run_string_row ((W2.alloc (.cells zeros64 152)).setRow W2.heap.size (bcells row)) W2.heap.size 64 row (cells_of_bcells HR.out)
  rw [HLB.out] at hcv
  clear hb1 hb2
  go_wp2_with (with_reducible refine wpList_store_row rfl 152 _ _ rfl W2.heap.size (bcells row) rfl rfl 152 _ HG.out HI.out HZ.out HOne.out ?_)
  go_ret2
  exact ⟨by rw [HROW.out]; rfl, hb3⟩
end

section
open Go.RowKit Go.Sort
set_option maxRecDepth 100000
set_option linter.unusedSimpArgs false
set_option linter.unusedVariables false

theorem OwnS.set {W : World} {base g cap : Nat} {xs : List Value} (h : OwnS W base g cap xs) (j : Nat) (hj : j < xs.length) (v : Value) : OwnS (W.setCell ⟨g, j, none⟩ v) base g cap (xs.set j v) := by
  refine ⟨h.base, by rw [List.length_set]; exact h.le, fun i u hu => ?_, fun i hi => ?_⟩
  · by_cases hij : i = j
    · subst hij
      rw [List.getElem?_set_self hj] at hu
      cases hu
      exact World.cell?_setCell_same _ _ _ (h.cells i _ (List.getElem?_eq_getElem hj))
    · rw [List.getElem?_set_ne (fun e => hij e.symm)] at hu
      rw [World.cell?_setCell_other _ _ _ _ (by simp [hij])]
      exact h.cells i u hu
  · obtain ⟨h1, h2⟩ := h.room i hi
    refine ⟨?_, by rw [World.frozen?_setCell]; exact h2⟩
    by_cases hij : i = j
    · subst hij
      obtain ⟨u, hu⟩ := Option.isSome_iff_exists.1 h1
      rw [World.cell?_setCell_same _ _ _ hu]; rfl
    · rw [World.cell?_setCell_other _ _ _ _ (by simp [hij])]; exact h1
/-- Data of which the first i bytes are with the stream. -/
def mixX (key nonce : List UInt8) (n : Nat) (data : List UInt8) (i : Nat) : List UInt8 := chaX key nonce n data i ++ data.drop i
theorem mixX_zero (key nonce : List UInt8) (n : Nat) (data : List UInt8) : mixX key nonce n data 0 = data := by simp [mixX, chaX]
theorem mixX_full (key nonce : List UInt8) (n : Nat) (data : List UInt8) : mixX key nonce n data data.length = chaX key nonce n data data.length := by simp [mixX]
theorem mixX_length (key nonce : List UInt8) (n : Nat) (data : List UInt8) (i : Nat) (h : i ≤ data.length) : (mixX key nonce n data i).length = data.length := by simp [mixX, chaX_length]; omega
theorem mixX_get (key nonce : List UInt8) (n : Nat) (data : List UInt8) (i : Nat) (h : i < data.length) : (mixX key nonce n data i)[i]? = some data[i] := by
  rw [mixX, List.getElem?_append_right (by rw [chaX_length]; omega), chaX_length, Nat.sub_self, List.getElem?_drop]
  simp [h]
theorem mixX_set (key nonce : List UInt8) (n : Nat) (data : List UInt8) (i : Nat) (h : i < data.length) :
    (mixX key nonce n data i).set i (xorB ((((chaB key nonce (n + i / 64)).getD (i % 64) 0).toNat : Nat) : Int) data[i]) = mixX key nonce n data (i + 1) := by
  rw [mixX, List.set_append, if_neg (by rw [chaX_length]; omega), chaX_length, Nat.sub_self, List.drop_eq_getElem_cons h, List.set_cons_zero, mixX, chaX]
  have e : data.getD i 0 = data[i] := by rw [List.getD_eq_getElem?_getD, List.getElem?_eq_getElem h]; rfl
  rw [e]
  simp
theorem firstL_next (key nonce : List UInt8) (n : Nat) : (firstL key nonce n).set 12 ((n : Int) + 1) = firstL key nonce (n + 1) := by
  rw [firstL, List.set_append, if_pos (by simp [lws_length]), List.set_append, if_neg (by simp [lws_length])]
  simp [lws_length, firstL]
theorem firstL_at (key nonce : List UInt8) (n : Nat) : (firstL key nonce n).getD 12 0 = (n : Int) := by
  have e : ([1634760805, 857760878, 2036477234, 1797285236] ++ lws key 8 : List Int).length = 12 := by simp [lws_length]
  rw [List.getD_eq_getElem?_getD, firstL, List.getElem?_append_left (by rw [List.length_append, e]; simp), List.getElem?_append_right (by rw [e]; decide), e]
  rfl
set_option maxHeartbeats 4000000 in
theorem masked_any (key nonce : List UInt8) (n : Nat) (data : ByteArray) (w : World) (hs : data.size ≤ 1073741824) (h : n + (data.size + 63) / 64 ≤ 4294967296) :
    Calls Tryz.prog 116 #[.agg (stc (firstL key nonce n)), .string data] w fun e w' => e = .returned (.string ⟨(chaX key nonce n data.data.toList data.size).toArray⟩) ∧ Below w.heap.size w w' := by
  obtain ⟨hz6, hi6⟩ := zero_of_info info64
  have HS6 := Lib.hid hi6
  clear hi6
  have HL0 := Lib.hid (firstL_length key nonce n)
  have HG0 := Lib.hid (blk_new w (.cells (stc (firstL key nonce n)) 150))
  have hb0 := below_new w (.cells (stc (firstL key nonce n)) 150)
  obtain ⟨ao, cap, hcv, hown, hbl⟩ := run_convert_string_bytes_own data (w.alloc (.cells (stc (firstL key nonce n)) 150))
  go_enter Tryz.func116, Tryz.ntmps116
  go_wp2_with fail
  have HG1 := Lib.hid (blk_below hbl (by simp) HG0.out)
  have hb1 := hb0.trans (hbl.mono (by simp))
  have hGw : w.heap.size < (w.alloc (.cells (stc (firstL key nonce n)) 150)).heap.size := by simp
  clear hcv HG0 hb0 hbl
  generalize (Lib.bytesWorld _ _ _) = W0 at *
  generalize (w.alloc _).heap.size = B1 at *
  generalize hBB : w.heap.size = B at *
  have HBB := Lib.hid hBB
  have HO := Lib.hid hown
  clear hBB hown
  have HD := Lib.hid (Lib.size_eq data)
  go_loopw [6] (fun i wr => ∃ (m i0 : Nat) (l : List Int), Hid (i0 = 64 * m) ∧ i0 ≤ data.size + 63 ∧ i = .int .i64 (i0 : Int) ∧ Hid (l.length = 16) ∧ wr.heap[B]? = some (.cells (stc l) 150) ∧ Hid (i0 < data.size → l = firstL key nonce (n + m)) ∧ Own wr B1 (.slice ao data.size cap) (Lib.byteCells (mixX key nonce n data.data.toList (min i0 data.size))) ∧ Below B w wr) (fun i _ => data.size + 63 - (intOf i).toNat)
  case atStart => exact ⟨0, 0, _, Lib.hid rfl, by omega, rfl, HL0, HG1.out, Lib.hid (fun _ => rfl), by rw [Nat.zero_min, mixX_zero]; exact HO.out, hb1⟩
  case round =>
    clear HG1 hb1 HO HL0
    obtain ⟨m, i0, l, HM, hi0, rfl, HL, hg, HF, hown, hb⟩ := hrel
    have HG := Lib.hid hg; have HO := Lib.hid hown
    clear hg hown
    by_cases hlt : i0 < data.size
    · have hd : decide ((i0 : Int) < (data.size : Int)) = true := by simp; omega
      obtain ⟨e, hmin, he1, he2, he3, he4⟩ : ∃ e : Nat, min ((i0 : Int) + 64) (data.size : Int) = (e : Int) ∧ i0 < e ∧ e ≤ i0 + 64 ∧ e ≤ data.size ∧ (e < i0 + 64 → e = data.size) := ⟨min (i0 + 64) data.size, by omega, by omega, by omega, by omega, by omega⟩
      have HE := Lib.hid he4
      clear he4
      have hl0 : (Lib.byteCells (mixX key nonce n data.data.toList (min i0 data.size))).length = data.size := by rw [Lib.byteCells_length, mixX_length _ _ _ _ _ (by rw [← HD.out]; omega), ← HD.out]
      obtain ⟨g, cq, hv, hos, hgw⟩ := HO.out.some (by rw [hl0]; omega)
      rw [hl0] at hv
      simp only [Value.slice.injEq, true_and] at hv
      obtain ⟨rfl, rfl⟩ := hv
      have hcap := hos.le
      rw [hl0] at hcap
      have hgB := hos.base
      have sw := fun W => Lib.run_slice_window (P := Tryz.prog) W 46 5 Tryz.underlying46 (fun w => by simp [go_sem]) g 0 data.size cap i0 e he1 (by omega)
      simp only [Nat.zero_add] at sw
      obtain ⟨L, hL⟩ : ∃ L, i0 + L = e := ⟨e - i0, by omega⟩
      rw [show e - i0 = L by omega] at sw
      have HLe := Lib.hid hL
      have hL64 : L ≤ 64 := by omega
      have hIL : i0 + L ≤ data.size := by omega
      have hLp : 0 < L := by omega
      rw [show min i0 data.size = i0 by omega] at hos
      have HOS := Lib.hid hos
      have HI := Lib.hid (show (Tryz.prog.info? 150).map (·.size) = some (stc l).size from by rw [stc_size, HL.out]; exact (zero_of_info infoSt).2)
      have hlF := HF.out hlt
      subst hlF
      clear hL hos hl0 HO HF
      go_wp2_with (with_reducible refine wpList_load_row rfl 150 _ rfl B rfl 150 _ (0, 0) _ HG.out Tryz.underlying150 rfl HI.out ?_)
      refine (block_any _ wr HL.out).mono ?_
      rintro e W1 ⟨rfl, hb1⟩
      have HCB : Hid (chaB key nonce (n + m) = outB (roundsL (firstL key nonce (n + m)) 10) (firstL key nonce (n + m)) 16) := Lib.hid rfl
      rw [← HCB.out]
      have HLB := Lib.hid (chaB_length key nonce (n + m))
      have hlt1 := blk_lt HG.out
      have HG1 := Lib.hid (blk_below hb1 hlt1 HG.out)
      have HO1 : Hid (OwnS W1 B1 g cap (Lib.byteCells (mixX key nonce n data.data.toList i0))) := Lib.hid (HOS.out.keep (hb1.block g hgw))
      have hb2 : Below B w W1 := hb.trans (hb1.mono (by omega))
      have hgw1 : g < W1.heap.size := Nat.lt_of_lt_of_le hgw hb1.size
      have hBw1 : B < W1.heap.size := Nat.lt_of_lt_of_le hlt1 hb1.size
      have HIr := Lib.hid (show (Tryz.prog.info? 152).map (·.size) = some (bcells (chaB key nonce (n + m))).size from by rw [bcells_size, HLB.out]; exact HS6.out)
      have HZ := Lib.hid (show zeros64.size = (bcells (chaB key nonce (n + m))).size from by rw [bcells_size, HLB.out]; exact bcells_size _)
      have HOne := Lib.hid (bcells_one (chaB key nonce (n + m)))
      have HX := Lib.hid (blk_new W1 (.cells zeros64 152))
      clear hb1 HG HOS hb HCB sw
      go_wp2_with (with_reducible refine wpList_store_row rfl 152 _ _ rfl W1.heap.size (bcells (chaB key nonce (n + m))) rfl rfl 152 _ HX.out HIr.out HZ.out HOne.out ?_)
      have HX2 := Lib.hid (setRow_heap (W1.alloc (.cells zeros64 152)) W1.heap.size _ (bcells (chaB key nonce (n + m))) _ _ HX.out)
      have HG2 := Lib.hid (show ((W1.alloc (.cells zeros64 152)).setRow W1.heap.size (bcells (chaB key nonce (n + m)))).heap[B]? = some (.cells (stc (firstL key nonce (n + m))) 150) from (setRow_other _ _ _ _ (by omega)).trans (blk_old HG1.out))
      have HO2 : Hid (OwnS ((W1.alloc (.cells zeros64 152)).setRow W1.heap.size (bcells (chaB key nonce (n + m)))) B1 g cap (Lib.byteCells (mixX key nonce n data.data.toList i0))) := Lib.hid (HO1.out.keep ((setRow_other _ _ _ _ (by omega)).trans ((below_new W1 _).block g hgw1)))
      have hb3 : Below B w ((W1.alloc (.cells zeros64 152)).setRow W1.heap.size (bcells (chaB key nonce (n + m)))) := below_setRow (hb2.alloc (by omega) _) (by omega) _
      clear HX HG1 HO1 hb2 HIr HZ HOne
      generalize (World.setRow _ _ _) = W2 at *
      generalize W1.heap.size = X at *
      go_loopw [30] (fun iv wr => ∃ k : Nat, k ≤ L ∧ iv = .int .i64 (k : Int) ∧ wr.heap[X]? = some (.cells (bcells (chaB key nonce (n + m))) 152) ∧ wr.heap[B]? = some (.cells (stc (firstL key nonce (n + m))) 150) ∧ OwnS wr B1 g cap (Lib.byteCells (mixX key nonce n data.data.toList (i0 + k))) ∧ Below B w wr) (fun iv _ => L - (intOf iv).toNat)
      case atStart => exact ⟨0, by omega, rfl, HX2.out, HG2.out, HO2.out, hb3⟩
      case round =>
        clear HX2 HG2 HO2 hb3 hd
        obtain ⟨k, hk, rfl, hx, hg, hos, hb⟩ := hrel
        have HX := Lib.hid hx; have HG := Lib.hid hg; have HOS := Lib.hid hos
        clear hx hg hos
        by_cases hkL : k < L
        · have hd : decide ((k : Int) < (L : Int)) = true := by simp; omega
          have hi : i0 + k < data.data.toList.length := by rw [← HD.out]; omega
          have hdiv : (i0 + k) / 64 = m := by have := HM.out; omega
          have hmod : (i0 + k) % 64 = k := by have := HM.out; omega
          have hcl : (Lib.byteCells (mixX key nonce n data.data.toList (i0 + k))).length = data.size := by rw [Lib.byteCells_length, mixX_length _ _ _ _ _ (by omega), ← HD.out]
          have hset := mixX_set key nonce n data.data.toList (i0 + k) hi
          rw [hdiv, hmod] at hset
          have hpart : wr.cell? ⟨g, i0 + k, none⟩ = some (.int .u8 ((data.data.toList[i0 + k].toNat : Nat) : Int)) := HOS.out.cells (i0 + k) _ (by simp only [Lib.byteCells, List.getElem?_map, mixX_get _ _ _ _ _ hi]; rfl)
          have hblk : wr.cell? ⟨X, k, none⟩ = some (.int .u8 ((((chaB key nonce (n + m)).getD k 0).toNat : Nat) : Int)) := cells_of_bcells HX.out k _ (by rw [List.getD_eq_getElem?_getD, List.getElem?_eq_getElem (by rw [HLB.out]; omega)]; rfl)
          have hfz := (HOS.out.room (i0 + k) (by omega)).2
          have HSET := Lib.hid hset
          have HV := Lib.hid (xorB_toNat ((((chaB key nonce (n + m)).getD k 0).toNat : Nat) : Int) data.data.toList[i0 + k])
          have HCL := Lib.hid hcl
          clear hset hdiv hmod hcl
          generalize ((((chaB key nonce (n + m)).getD k 0).toNat : Nat) : Int) = y at *
          generalize data.data.toList[i0 + k] = x at *
          go_wp2_with fail
          have q1 := cell_regrown hpart
          have q2 := cell_regrown hblk
          refine wp_region_reads_tail 9 (by kernel_rfl) (by kernel_rfl) ?_
          simp only [List.take_succ_cons, List.take_zero, List.drop_succ_cons, List.drop_zero]
          repeat (first | go_big_quiet_step (fail) | quiet_step (fail))
          refine wpQuiet_nil ?_
          intro W4 hb4
          have hXw := blk_lt HX.out
          have hBw := blk_lt HG.out
          have hgl : g < wr.heap.size := HOS.out.lt (by omega)
          have HX4 := Lib.hid (blk_below hb4 hXw HX.out)
          have HG4 := Lib.hid (blk_below hb4 hBw HG.out)
          have HOS4 := Lib.hid (HOS.out.keep (hb4.block g hgl))
          have hbb : Below B w W4 := hb.trans (hb4.mono (by omega))
          have c4 : W4.cell? ⟨g, i0 + k, none⟩ = some (.int .u8 ((x.toNat : Nat) : Int)) := (hb4.cell (p := ⟨g, i0 + k, none⟩) hgl).trans hpart
          have f4 : W4.frozen? ⟨g, i0 + k, none⟩ = false := (hb4.frozen (p := ⟨g, i0 + k, none⟩) hgl).trans hfz
          have HOS5 := Lib.hid (HOS4.out.set (i0 + k) (by rw [HCL.out]; omega) (.int .u8 (bits .xor .u8 (x.toNat : Int) y)))
          have HN : Hid ((Lib.byteCells (mixX key nonce n data.data.toList (i0 + k))).set (i0 + k) (.int .u8 (bits .xor .u8 (x.toNat : Int) y)) = Lib.byteCells (mixX key nonce n data.data.toList (i0 + (k + 1)))) := Lib.hid (by
            rw [← HV.out, ← Nat.add_assoc, ← HSET.out]
            simp only [Lib.byteCells, List.map_set])
          rw [HN.out] at HOS5
          have HX5 := Lib.hid (show (W4.setCell ⟨g, i0 + k, none⟩ (.int .u8 (bits .xor .u8 (x.toNat : Int) y))).heap[X]? = some (.cells (bcells (chaB key nonce (n + m))) 152) from by rw [heap_setCell_other _ _ _ _ (by simp; omega)]; exact HX4.out)
          have HG5 := Lib.hid (show (W4.setCell ⟨g, i0 + k, none⟩ (.int .u8 (bits .xor .u8 (x.toNat : Int) y))).heap[B]? = some (.cells (stc (firstL key nonce (n + m))) 150) from by rw [heap_setCell_other _ _ _ _ (by simp; omega)]; exact HG4.out)
          have hb5 : Below B w (W4.setCell ⟨g, i0 + k, none⟩ (.int .u8 (bits .xor .u8 (x.toNat : Int) y))) := hbb.setCell (by simp; omega) _
          clear q1 q2 hpart hblk hfz hb4 hbb HOS HX HG hb HOS4 HX4 HG4 HSET HV hXw hBw hgl
          go_wp2_with fail
          go_roundw
          case rel => exact ⟨k + 1, by omega, by go_num, HX5.out, HG5.out, HOS5.out, hb5⟩
          case measure => simp [intOf]; omega
        · have hd : decide ((k : Int) < (L : Int)) = false := by simp; omega
          obtain rfl : k = L := by omega
          have hc : wr.cell? ⟨B, 12, none⟩ = some (.int .u32 ((n + m : Nat) : Int)) := by
            rw [cell_of_row wr _ _ _ _ _ HG.out]
            have := stc_get (firstL key nonce (n + m)) 12 (by rw [firstL_length]; omega)
            rw [firstL_at] at this
            exact this
          have hf : wr.frozen? ⟨B, 12, none⟩ = false := frozen_of_row wr _ _ _ _ HG.out
          obtain ⟨nm, hnm⟩ : ∃ nm : Nat, nm = n + m := ⟨_, rfl⟩
          rw [← hnm] at hc
          have HNM := Lib.hid hnm
          clear hnm
          have HR2 := Lib.hid (show ∀ z : Int, (wr.setCell ⟨B, 12, none⟩ (.int .u32 z)).heap[B]? = some (.cells (stc ((firstL key nonce (n + m)).set 12 z)) 150) from fun z => by rw [← stc_set]; exact Go.heap_setCell_same _ _ _ _ _ _ HG.out)
          have HO2 := Lib.hid (show ∀ z, OwnS (wr.setCell ⟨B, 12, none⟩ z) B1 g cap (Lib.byteCells (mixX key nonce n data.data.toList (i0 + k))) from fun z => HOS.out.keep (heap_setCell_other _ _ _ _ (by simp; omega)))
          have hb2 : ∀ z, Below B w (wr.setCell ⟨B, 12, none⟩ z) := fun z => hb.setCell (by simp) _
          have HB2 := Lib.hid hb2
          have HMn := Lib.hid (show min (i0 + 64) data.size = i0 + k from by have := HE.out; have := HLe.out; omega)
          have hnl : (Lib.byteCells (mixX key nonce n data.data.toList (i0 + k))).length = data.size := by rw [Lib.byteCells_length, mixX_length _ _ _ _ _ (by rw [← HD.out]; omega), ← HD.out]
          clear HX HG HOS hb hb2
          go_wp2_with fail
          go_roundw
          case rel =>
            refine ⟨m + 1, i0 + 64, _, Lib.hid (by have := HM.out; omega), by omega, by go_num, ?_, HR2.out _, ?_, ?_, HB2.out _⟩
            · exact Lib.hid (by rw [List.length_set, firstL_length])
            · refine Lib.hid (fun hh => ?_)
              rw [HNM.out, show (((n + m : Nat) : Int) + 1) % 4294967296 = ((n + m : Nat) : Int) + 1 by have := HM.out; omega, firstL_next]
              rfl
            · rw [HMn.out]
              have := HO2.out (.int .u32 (((nm : Int) + 1) % 4294967296))
              exact .inr ⟨g, cap, by rw [hnl], this⟩
          case measure => simp [intOf]; omega
    · have hd : decide ((i0 : Int) < (data.size : Int)) = false := by simp; omega
      have HO' := Lib.hid (show Own wr B1 (.slice ao data.size cap) (Lib.byteCells (chaX key nonce n data.data.toList data.size)) from by
        have := HO.out
        rw [show min i0 data.size = data.size by omega] at this
        have hm := mixX_full key nonce n data.data.toList
        rw [← HD.out] at hm
        rw [← hm]; exact this)
      have hcv : (convert 46 9 (.slice ao data.size cap)).run Tryz.prog wr = .ok (.string ⟨(chaX key nonce n data.data.toList data.size).toArray⟩) wr := by
        rcases HO'.out with ⟨hv, hnil⟩ | ⟨g, cap', hv, hoO⟩
        · have h0 : data.size = 0 := by simpa [Lib.byteCells, ← List.length_eq_zero_iff, chaX_length] using hnil
          simp only [Value.slice.injEq] at hv
          obtain ⟨rfl, _, rfl⟩ := hv
          have e0 : chaX key nonce n data.data.toList data.size = [] := by rw [h0]; rfl
          rw [e0, h0]
          exact run_string_nil wr
        · rw [Lib.byteCells_length, chaX_length] at hv
          simp only [Value.slice.injEq, true_and] at hv
          obtain ⟨rfl, rfl⟩ := hv
          have := run_string_row wr g cap (chaX key nonce n data.data.toList data.size) (fun j x hx => hoO.cells j _ (by simp [Lib.byteCells, hx]))
          rwa [chaX_length] at this
      clear HO HO' HF HM HG
      go_wp2_with fail
      go_ret
      exact ⟨rfl, by rw [HBB.out]; exact hb⟩
end

section
open Go.RowKit Go.Sort
set_option maxRecDepth 100000
set_option linter.unusedSimpArgs false
set_option linter.unusedVariables false

theorem ownXorErr_any (key nonce : ByteArray) (n q : Int) (data : ByteArray) (w : World) (hq : q ≠ 0) (h : ∀ W, Calls Tryz.prog 114 #[.string key, .string nonce, .int .i64 n] W fun e w' => e = .returned (.int .i64 q) ∧ W = w') :
    Calls Tryz.prog 94 #[.string key, .string nonce, .int .i64 n, .string data] w fun e w' => e = .returned (.tuple #[.string ⟨#[]⟩, .int .i64 q]) ∧ Below w.heap.size w w' := by
  have HC := Lib.hid h
  clear h
  have hd : (q != 0) = true := by simpa using hq
  go_enter Tryz.func94, Tryz.ntmps94
  go_wp2_with fail
  refine (HC.out _).mono ?_
  rintro e W1 ⟨rfl, rfl⟩
  go_wp2_with fail
  go_ret2
  exact ⟨rfl, Below.refl _ _⟩
theorem ownXorBig_any (key nonce : ByteArray) (n : Nat) (data : ByteArray) (w : World) (hk : key.size = 32) (hn : nonce.size = 12) (hnn : n ≤ 4294967295) (hs : data.size ≤ 1073741824) (h : 4294967296 < n + (data.size + 63) / 64) :
    Calls Tryz.prog 94 #[.string key, .string nonce, .int .i64 (n : Int), .string data] w fun e w' => e = .returned (.tuple #[.string ⟨#[]⟩, .int .i64 13]) ∧ Below w.heap.size w w' := by
  have HC := Lib.hid (checkOk_any key nonce n w hk hn hnn)
  have HB := Lib.hid (blocksFor_any data w (by omega))
  obtain ⟨b, hb⟩ : ∃ b : Nat, b = (data.size + 63) / 64 := ⟨_, rfl⟩
  rw [← hb] at h HB
  have hbb : b ≤ 16777217 := by omega
  have hd : decide ((4294967296 : Int) < (n : Int) + (b : Int)) = true := by simp; omega
  clear hk hn hb
  go_enter Tryz.func94, Tryz.ntmps94
  go_wp2_with fail
  refine HC.out.mono ?_
  rintro e W1 ⟨rfl, rfl⟩
  go_wp2_with fail
  refine HB.out.mono ?_
  rintro e W1 ⟨rfl, rfl⟩
  go_wp2_with fail
  go_ret2
  exact ⟨rfl, Below.refl _ _⟩
theorem ownXor_any (key nonce : ByteArray) (n : Nat) (data : ByteArray) (w : World) (hk : key.size = 32) (hn : nonce.size = 12) (hnn : n ≤ 4294967295) (hs : data.size ≤ 1073741824) (h : n + (data.size + 63) / 64 ≤ 4294967296) :
    Calls Tryz.prog 94 #[.string key, .string nonce, .int .i64 (n : Int), .string data] w fun e w' => e = .returned (.tuple #[.string ⟨(chaX key.data.toList nonce.data.toList n data.data.toList data.size).toArray⟩, .int .i64 0]) ∧ Below w.heap.size w w' := by
  have HC := Lib.hid (checkOk_any key nonce n w hk hn hnn)
  have HB := Lib.hid (blocksFor_any data w (by omega))
  have HI := Lib.hid (initial_any key nonce n w hk hn hnn)
  have HM := Lib.hid (fun W => masked_any key.data.toList nonce.data.toList n data W hs h)
  have hnm : (n : Int) % 4294967296 = (n : Int) := by omega
  obtain ⟨b, hb⟩ : ∃ b : Nat, b = (data.size + 63) / 64 := ⟨_, rfl⟩
  rw [← hb] at h HB
  have hbb : b ≤ 16777217 := by omega
  have hd : decide ((4294967296 : Int) < (n : Int) + (b : Int)) = false := by simp; omega
  clear hk hn hb
  go_enter Tryz.func94, Tryz.ntmps94
  go_wp2_with fail
  refine HC.out.mono ?_
  rintro e W1 ⟨rfl, rfl⟩
  go_wp2_with fail
  refine HB.out.mono ?_
  rintro e W1 ⟨rfl, rfl⟩
  go_wp2_with fail
  refine HI.out.mono ?_
  rintro e W1 ⟨rfl, hb1⟩
  generalize firstL key.data.toList nonce.data.toList n = fl at *
  go_wp2_with fail
  refine (HM.out W1).mono ?_
  rintro e W2 ⟨rfl, hb2⟩
  go_wp2_with fail
  go_ret2
  exact ⟨rfl, hb1.trans (hb2.mono hb1.size)⟩
end

section
open Go.RowKit Go.Sort
set_option maxRecDepth 100000
set_option linter.unusedSimpArgs false
set_option linter.unusedVariables false

set_option maxHeartbeats 2000000 in
theorem chaBlockSame (k n : ByteArray) (i : Int) : ∃ (x : ByteArray) (q : Int), (∀ W, Calls Tryz.prog 95 #[.string k, .string n, .int .i64 i] W fun e w' => e = .returned (.tuple #[.string x, .int .i64 q]) ∧ Below W.heap.size W w') ∧ (∀ W, Calls Tryz.prog 51 #[.string k, .string n, .int .i64 i] W fun e w' => e = .returned (.tuple #[.string x, .int .i64 q]) ∧ Below W.heap.size W w') := by
  by_cases h1 : k.size = 32 ∧ n.size = 12
  · obtain ⟨hk, hn⟩ := h1
    by_cases h2 : 0 ≤ i ∧ i ≤ 4294967295
    · obtain ⟨j, rfl⟩ : ∃ j : Nat, i = (j : Int) := ⟨i.toNat, by omega⟩
      exact ⟨_, _, fun W => ownBlock_any k n j W hk hn (by omega), fun W => refBlock_any k n j W hk hn (by omega)⟩
    · exact ⟨_, _, fun W => ownBlockErr_any k n i 1 W (by decide) (fun W => checkArg_any k n i W hk hn (by omega)), fun W => refBlockArg_any k n i W hk hn (by omega)⟩
  · exact ⟨_, _, fun W => ownBlockErr_any k n i 21 W (by decide) (fun W => checkKey_any k n i W (by omega)), fun W => refBlockKey_any k n i W (by omega)⟩
set_option maxHeartbeats 2000000 in
theorem chaXorSame (k n : ByteArray) (i : Int) (s : ByteArray) (hs : s.size ≤ 1073741824) : ∃ (x : ByteArray) (q : Int), (∀ W, Calls Tryz.prog 94 #[.string k, .string n, .int .i64 i, .string s] W fun e w' => e = .returned (.tuple #[.string x, .int .i64 q]) ∧ Below W.heap.size W w') ∧ (∀ W, Calls Tryz.prog 36 #[.string k, .string n, .int .i64 i, .string s] W fun e w' => e = .returned (.tuple #[.string x, .int .i64 q]) ∧ Below W.heap.size W w') := by
  by_cases h1 : k.size = 32 ∧ n.size = 12
  · obtain ⟨hk, hn⟩ := h1
    by_cases h2 : 0 ≤ i ∧ i ≤ 4294967295
    · obtain ⟨j, rfl⟩ : ∃ j : Nat, i = (j : Int) := ⟨i.toNat, by omega⟩
      by_cases h3 : j + (s.size + 63) / 64 ≤ 4294967296
      · exact ⟨_, _, fun W => ownXor_any k n j s W hk hn (by omega) hs h3, fun W => refXor_any k n j s W hk hn (by omega) hs h3⟩
      · exact ⟨_, _, fun W => ownXorBig_any k n j s W hk hn (by omega) hs (by omega), fun W => refXorBig_any k n j s W hk hn (by omega) hs (by omega)⟩
    · exact ⟨_, _, fun W => ownXorErr_any k n i 1 s W (by decide) (fun W => checkArg_any k n i W hk hn (by omega)), fun W => refXorErr_any k n i 1 s W (by decide) (fun W => refBlockArg_any k n i W hk hn (by omega))⟩
  · exact ⟨_, _, fun W => ownXorErr_any k n i 21 s W (by decide) (fun W => checkKey_any k n i W (by omega)), fun W => refXorErr_any k n i 21 s W (by decide) (fun W => refBlockKey_any k n i W (by omega))⟩
end
end Go.Proofs.YtffnafikegakcaaGreatDoor
