/- The reference's point: a struct of four slices of digits; Zero, factor, double. -/
import Derived.Test.YtcpdehfmlmmgiaaDoorPtSpec
import Derived.Test.YtcpdehfmlmmgiaaDoorFldR
import Derived.Test.YtcpdehfmlmmgiaaDoorTold
namespace Go.Proofs.YtcpdehfmlmmgiaaDoor
open Go.RowKit Go.Sort
set_option maxRecDepth 100000
set_option linter.unusedSimpArgs false
set_option linter.unusedVariables false

/-- A value that is a number's digits. -/
def tDig (x : Nat) : Told := ⟨fun w v => DigAt w v (digN x), fun _ _ _ hb h => h.step hb⟩
/-- A point's four slices. -/
def PtAt (w : World) (v : Value) (p : PtN) : Prop := ∃ vx vy vz vt, v = .agg #[vx, vy, vz, vt] ∧ DigAt w vx (digN p.x) ∧ DigAt w vy (digN p.y) ∧ DigAt w vz (digN p.z) ∧ DigAt w vt (digN p.t)
theorem PtAt.step {w w' : World} {v : Value} {p : PtN} (h : PtAt w v p) (hb : Below w.heap.size w w') : PtAt w' v p := by
  obtain ⟨vx, vy, vz, vt, rfl, h1, h2, h3, h4⟩ := h
  exact ⟨vx, vy, vz, vt, rfl, h1.step hb, h2.step hb, h3.step hb, h4.step hb⟩
def tPt (p : PtN) : Told := ⟨fun w v => PtAt w v p, fun _ _ _ hb h => h.step hb⟩
theorem DigAt.slice {w : World} {v : Value} {l : List Nat} (h : DigAt w v l) : ∃ D cap, v = .slice (some ⟨D, 0, none⟩) 16 cap := by
  obtain ⟨D, cap, h, _⟩ := h
  exact ⟨D, cap, h⟩
/-- A point that is laid in its block changes no digits. -/
theorem DigAt.rowed {W : World} {v : Value} {l : List Nat} {B : Nat} {row : Array Value} {T : TypeId} {fr : Nat × Nat} (h : DigAt W v l) (hB : W.heap[B]? = some (.cells row T fr)) (h0 : ∃ a n c, row[0]? = some (.slice a n c)) (new : Array Value) : DigAt (W.setRow B new) v l := by
  obtain ⟨D, cap, rfl, hc⟩ := h
  obtain ⟨a, n, c, h0⟩ := h0
  have hne : D ≠ B := by
    rintro rfl
    have h1 := hc 0 (by decide)
    rw [cell_of_row _ _ _ _ _ _ hB, h0] at h1
    cases h1
  exact ⟨D, cap, rfl, fun j hj => (World.cell?_of_block (a := ⟨D, j, none⟩) (setRow_other _ _ _ _ hne)).trans (hc j hj)⟩
theorem PtAt.rowed {W : World} {v : Value} {p : PtN} {B : Nat} {row : Array Value} {T : TypeId} {fr : Nat × Nat} (h : PtAt W v p) (hB : W.heap[B]? = some (.cells row T fr)) (h0 : ∃ a n c, row[0]? = some (.slice a n c)) (new : Array Value) : PtAt (W.setRow B new) v p := by
  obtain ⟨vx, vy, vz, vt, rfl, h1, h2, h3, h4⟩ := h
  exact ⟨vx, vy, vz, vt, rfl, h1.rowed hB h0 new, h2.rowed hB h0 new, h3.rowed hB h0 new, h4.rowed hB h0 new⟩
def nilS : Value := .slice none 0 0
def zeroR : Array Value := #[nilS, nilS, nilS, nilS]
theorem infoR : (Tryd.prog.info? 34).map (fun i => (i.zero, i.size)) = some (some (.agg zeroR), 4) := by kernel_rfl
theorem sizeR (a b c d : Value) : (Tryd.prog.info? 34).map (·.size) = some (#[a, b, c, d] : Array Value).size := (zero_of_info infoR).2
theorem zeroR_size (a b c d : Value) : zeroR.size = (#[a, b, c, d] : Array Value).size := rfl
theorem sliceR_one {w : World} {a b c d : Value} {k l m n : List Nat} (ha : DigAt w a k) (hb : DigAt w b l) (hc : DigAt w c m) (hd : DigAt w d n) : (#[a, b, c, d] : Array Value).all (·.oneCell') = true := by
  obtain ⟨A, ca, rfl⟩ := ha.slice
  obtain ⟨B, cb, rfl⟩ := hb.slice
  obtain ⟨C, cc, rfl⟩ := hc.slice
  obtain ⟨D, cd, rfl⟩ := hd.slice
  simp [Value.oneCell']
theorem build_pt {w0 : World} {a b c d : Value} {k l m n : List Nat} (ha : DigAt w0 a k) (hb : DigAt w0 b l) (hc : DigAt w0 c m) (hd : DigAt w0 d n) (w : World) : (Instr.build 34 #[(0, a), (1, b), (2, c), (3, d)]).run Tryd.prog w = .ok (.agg #[a, b, c, d]) w := by
  obtain ⟨A, ca, rfl⟩ := ha.slice
  obtain ⟨B, cb, rfl⟩ := hb.slice
  obtain ⟨C, cc, rfl⟩ := hc.slice
  obtain ⟨D, cd, rfl⟩ := hd.slice
  exact run_build w 34 _ _ (by kernel_rfl)
theorem wpList_build_pt {ops : Array Oper} {rest : List Oper} {o : Oper} {a : Act} {w : World} {Q : Exit → Act → World → Prop} (hg : o.guard = none) (x y z u : Operand) (ho : o.op = .build 34 #[(0, x), (1, y), (2, z), (3, u)]) (v1 v2 v3 v4 : Value)
    (h1 : a.eval x = v1) (h2 : a.eval y = v2) (h3 : a.eval z = v3) (h4 : a.eval u = v4) (hb : ∀ w, (Instr.build 34 #[(0, v1), (1, v2), (2, v3), (3, v4)]).run Tryd.prog w = .ok (.agg #[v1, v2, v3, v4]) w)
    (h : wpList Tryd.prog ops Q rest (a.put o.dst (.agg #[v1, v2, v3, v4])) w) : wpList Tryd.prog ops Q (o :: rest) a w :=
  wpList_plain hg fun _ hK => wp_built 34 #[(0, x), (1, y), (2, z), (3, u)] ho #[v1, v2, v3, v4] (by
    have e : (#[(0, x), (1, y), (2, z), (3, u)] : Array (Nat × Operand)).map (fun (i, x) => (i, a.eval x)) = #[(0, a.eval x), (1, a.eval y), (2, a.eval z), (3, a.eval u)] := by simp
    rw [e, h1, h2, h3, h4]; exact hb w) (hK _ _ h)
theorem small_one : smallF 1 = 1 := smallF_pos 1 (by decide)
theorem digOf {P : Program} {f : Nat} {args : Array Value} {w : World} {x : Nat} (h : Calls P f args w fun e w' => (∃ d', e = .returned d' ∧ DigAt w' d' (digN x)) ∧ Below w.heap.size w w') : Calls P f args w (fun e w'' => ∃ v, e = .returned v ∧ (tDig x).T w'' v ∧ Below w.heap.size w w'') :=
  h.mono fun e w'' ⟨⟨d', h1, h2⟩, h3⟩ => ⟨d', h1, h2, h3⟩

set_option maxHeartbeats 1000000 in
theorem rfac_any (w : World) :
    Calls Tryd.prog 38 #[] w fun e w' => (∃ d', e = .returned d' ∧ DigAt w' d' (digN facF)) ∧ Below w.heap.size w w' := by
  have C1 := Lib.hid (fun W => smallRefNeg_any (-121665) W (by decide) (by decide))
  have C2 : Hid (∀ W : World, Calls Tryd.prog 34 #[.int .i64 121666] W fun e w' => (∃ d', e = .returned d' ∧ DigAt w' d' (digN 121666)) ∧ Below W.heap.size W w') := Lib.hid (fun W => smallRefPos_any 121666 W (by decide))
  have C3 := Lib.hid (fun d W h => invRef_any d 121666 W (by decide) h)
  have C4 := Lib.hid (fun d e W h1 h2 => mulRef_any d e (smallF (-121665)) (invF 121666) W (smallF_lt _) (powF_lt _ _) h1 h2)
  rw [show mulF (smallF (-121665)) (invF 121666) = facF from rfl] at C4
  generalize smallF (-121665) = a at *
  generalize invF 121666 = b at *
  generalize facF = c at *
  go_enter Tryd.func38, Tryd.ntmps38
  go_wp2_with fail
  refine (C1.out w).mono ?_
  rintro e W1 ⟨⟨d1, rfl, h1⟩, b1⟩
  have H1 := Lib.hid h1
  clear h1
  go_wp2_with fail
  refine (C2.out W1).mono ?_
  rintro e W2 ⟨⟨d2, rfl, h2⟩, b2⟩
  have H2 := Lib.hid h2
  replace H1 := Lib.hid (H1.out.step b2)
  replace b2 := b1.trans (b2.mono b1.size)
  clear h2
  go_wp2_with fail
  refine (C3.out d2 W2 H2.out).mono ?_
  rintro e W3 ⟨⟨d3, rfl, h3⟩, b3⟩
  have H3 := Lib.hid h3
  replace H1 := Lib.hid (H1.out.step b3)
  replace b3 := b2.trans (b3.mono b2.size)
  clear h3
  go_wp2_with fail
  refine (C4.out d1 d3 W3 H1.out H3.out).mono ?_
  rintro e W4 ⟨⟨d4, rfl, h4⟩, b4⟩
  have H4 := Lib.hid h4
  replace b4 := b3.trans (b4.mono b3.size)
  clear h4
  go_wp2_with fail
  go_ret
  exact ⟨⟨_, rfl, H4.out⟩, b4⟩

set_option maxHeartbeats 1000000 in
theorem rtwo_any (w : World) :
    Calls Tryd.prog 48 #[] w fun e w' => (∃ d', e = .returned d' ∧ DigAt w' d' (digN twoF)) ∧ Below w.heap.size w w' := by
  have C1 := Lib.hid (fun W => rfac_any W)
  have C2 : Hid (∀ W : World, Calls Tryd.prog 34 #[.int .i64 2] W fun e w' => (∃ d', e = .returned d' ∧ DigAt w' d' (digN 2)) ∧ Below W.heap.size W w') := Lib.hid (fun W => smallRefPos_any 2 W (by decide))
  have C4 := Lib.hid (fun d e W h1 h2 => mulRef_any d e facF 2 W facF_lt (by decide) h1 h2)
  rw [show mulF facF 2 = twoF from rfl] at C4
  generalize facF = a at *
  generalize twoF = c at *
  go_enter Tryd.func48, Tryd.ntmps48
  go_wp2_with fail
  refine (C1.out w).mono ?_
  rintro e W1 ⟨⟨d1, rfl, h1⟩, b1⟩
  have H1 := Lib.hid h1
  clear h1
  go_wp2_with fail
  refine (C2.out W1).mono ?_
  rintro e W2 ⟨⟨d2, rfl, h2⟩, b2⟩
  have H2 := Lib.hid h2
  replace H1 := Lib.hid (H1.out.step b2)
  replace b2 := b1.trans (b2.mono b1.size)
  clear h2
  go_wp2_with fail
  refine (C4.out d1 d2 W2 H1.out H2.out).mono ?_
  rintro e W4 ⟨⟨d4, rfl, h4⟩, b4⟩
  have H4 := Lib.hid h4
  replace b4 := b2.trans (b4.mono b2.size)
  clear h4
  go_wp2_with fail
  go_ret
  exact ⟨⟨_, rfl, H4.out⟩, b4⟩

theorem zeroD_any (w : World) :
    Calls Tryd.prog 42 #[] w fun e w' => (∃ d', e = .returned d' ∧ DigAt w' d' (digN 0)) ∧ Below w.heap.size w w' :=
  (zero_any w).mono fun e w' ⟨h1, h2⟩ => by
    subst h1 h2
    exact ⟨⟨_, rfl, DigAt.of_block (show (w.alloc (.cells zerosF16 3)).heap[w.heap.size]? = some (.cells (dcl (digN 0)) 3) from blk_new w _) (digN_length _)⟩, below_new w _⟩
theorem one_any (w : World) : Calls Tryd.prog 34 #[.int .i64 1] w fun e w' => (∃ d', e = .returned d' ∧ DigAt w' d' (digN 1)) ∧ Below w.heap.size w w' := smallRefPos_any 1 w (by decide)

set_option maxHeartbeats 1000000 in
theorem rzero_any (w : World) :
    Calls Tryd.prog 31 #[] w fun e w' => (∃ d', e = .returned d' ∧ PtAt w' d' zeroP) ∧ Below w.heap.size w w' := by
  obtain ⟨hz, hi⟩ := zero_of_info infoR
  have HR := Lib.hid (blk_new w (.cells zeroR 34))
  have hb := below_new w (.cells zeroR 34)
  have C1 := Lib.hid (fun W => zeroD_any W)
  have C2 := Lib.hid (fun W => one_any W)
  clear hi
  go_enter Tryd.func31, Tryd.ntmps31
  go_wp2_with fail
  clear hz
  generalize (w.alloc _) = W0 at *
  generalize hBB : w.heap.size = B at *
  have HBB := Lib.hid hBB
  clear hBB
  refine (C1.out W0).mono ?_
  rintro e W1 ⟨⟨d1, rfl, h1⟩, bk⟩
  have H1 := Lib.hid h1
  replace hb := hb.trans (bk.mono (Nat.le_of_lt (blk_lt HR.out)))
  replace HR := Lib.hid (blk_below bk (blk_lt HR.out) HR.out)
  clear h1 bk
  go_wp2_with fail
  refine (C2.out W1).mono ?_
  rintro e W2 ⟨⟨d2, rfl, h2⟩, bk⟩
  have H2 := Lib.hid h2
  replace H1 := Lib.hid (H1.out.step bk)
  replace hb := hb.trans (bk.mono (Nat.le_of_lt (blk_lt HR.out)))
  replace HR := Lib.hid (blk_below bk (blk_lt HR.out) HR.out)
  clear h2 bk
  go_wp2_with fail
  refine (C2.out W2).mono ?_
  rintro e W3 ⟨⟨d3, rfl, h3⟩, bk⟩
  have H3 := Lib.hid h3
  replace H1 := Lib.hid (H1.out.step bk)
  replace H2 := Lib.hid (H2.out.step bk)
  replace hb := hb.trans (bk.mono (Nat.le_of_lt (blk_lt HR.out)))
  replace HR := Lib.hid (blk_below bk (blk_lt HR.out) HR.out)
  clear h3 bk
  go_wp2_with fail
  refine (C1.out W3).mono ?_
  rintro e W4 ⟨⟨d4, rfl, h4⟩, bk⟩
  have H4 := Lib.hid h4
  replace H1 := Lib.hid (H1.out.step bk)
  replace H2 := Lib.hid (H2.out.step bk)
  replace H3 := Lib.hid (H3.out.step bk)
  replace hb := hb.trans (bk.mono (Nat.le_of_lt (blk_lt HR.out)))
  replace HR := Lib.hid (blk_below bk (blk_lt HR.out) HR.out)
  clear h4 bk
  have hbd := build_pt H1.out H2.out H3.out H4.out
  have HS := Lib.hid (sizeR d1 d2 d3 d4); have HO := Lib.hid (zeroR_size d1 d2 d3 d4); have H11 := Lib.hid (sliceR_one H1.out H2.out H3.out H4.out)
  go_wp2_with (first
    | (with_reducible refine wpList_build_pt rfl _ _ _ _ rfl d1 d2 d3 d4 rfl rfl rfl rfl hbd ?_)
    | (with_reducible refine wpList_store_row rfl 34 _ _ rfl B #[d1, d2, d3, d4] rfl rfl 34 _ HR.out HS.out HO.out H11.out ?_))
  have H5 : PtAt W4 (.agg #[d1, d2, d3, d4]) zeroP := ⟨d1, d2, d3, d4, rfl, H1.out, H2.out, H3.out, H4.out⟩
  have H6 := H5.rowed HR.out ⟨_, _, _, rfl⟩ #[d1, d2, d3, d4]
  have hb2 : Below B w (W4.setRow B #[d1, d2, d3, d4]) := below_setRow hb (Nat.le_refl _) _
  exact bodyPost_ret (v := .agg #[d1, d2, d3, d4]) (results_cell_row (by rfl) _ _ B 34 _ (0, 0) _ rfl (setRow_heap _ _ _ _ _ _ HR.out) Tryd.underlying34 rfl HS.out) rfl ⟨⟨_, rfl, H6⟩, by rw [HBB.out]; exact hb2⟩
end Go.Proofs.YtcpdehfmlmmgiaaDoor
