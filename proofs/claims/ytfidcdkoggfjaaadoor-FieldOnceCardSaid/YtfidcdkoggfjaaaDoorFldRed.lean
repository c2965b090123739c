/- The program's last reduction: the least number. -/
import Derived.Test.YtfidcdkoggfjaaaDoorFldWordy
import Derived.Test.YtfidcdkoggfjaaaDoorArr
import Derived.Test.YtfidcdkoggfjaaaDoorFldTimes
import Derived.Deep.Cut
namespace Go.Proofs.YtfidcdkoggfjaaaDoor
open Go.RowKit Go.Sort
set_option maxRecDepth 100000
set_option linter.unusedSimpArgs false
set_option linter.unusedVariables false

theorem infoF : (Tryd.prog.info? 26).map (fun i => (i.zero, i.size)) = some (some (.agg zeros4), 4) := by kernel_rfl
theorem sizeF (l : List Nat) (h : l.length = 4) : (Tryd.prog.info? 26).map (·.size) = some (uc l).size := by rw [uc_size, h]; exact (zero_of_info infoF).2
theorem list4 (l : List Nat) (h : l.length = 4) : ∃ a b c d, l = [a, b, c, d] := by
  match l, h with
  | [a, b, c, d], _ => exact ⟨a, b, c, d, rfl⟩
theorem build_num (l : List Nat) (h : l.length = 4) (w : World) : (Instr.build 26 #[(0, .agg (uc l))]).run Tryd.prog w = .ok (.agg (uc l)) w := by
  obtain ⟨a, b, c, d, rfl⟩ := list4 l h
  exact run_build w 26 _ _ (by kernel_rfl)
theorem build_zero (w : World) : (Instr.build 26 #[]).run Tryd.prog w = .ok (.agg zeros4) w := run_build w 26 _ _ (by kernel_rfl)
theorem build_one (x : Nat) (h : x < 18446744073709551616) (w : World) : (Instr.build 24 #[(0, .int .u64 (x : Int))]).run Tryd.prog w = .ok (.agg (uc (limN 4 x))) w := by
  have e : limN 4 x = [x, 0, 0, 0] := nums_ext (limN_length ..) rfl fun i hi => by
    rw [limN_get _ _ _ hi]
    rcases (show i = 0 ∨ i = 1 ∨ i = 2 ∨ i = 3 by omega) with rfl | rfl | rfl | rfl
    · rw [dg, show bw 0 = 1 from rfl, Nat.div_one, Nat.mod_eq_of_lt h]; rfl
    · rw [dg_small' _ 1 _ (by rw [show bw 1 = 18446744073709551616 from rfl]; exact h) (by omega)]; rfl
    · rw [dg_small' _ 1 _ (by rw [show bw 1 = 18446744073709551616 from rfl]; exact h) (by omega)]; rfl
    · rw [dg_small' _ 1 _ (by rw [show bw 1 = 18446744073709551616 from rfl]; exact h) (by omega)]; rfl
  rw [e]
  exact run_build w 24 _ _ (by kernel_rfl)
theorem wp_built {P : Program} {o : Oper} {a : Act} {w : World} {K : Act → World → Prop} {Q : Exit → Act → World → Prop} (t : TypeId) (parts : Array (Nat × Operand)) (ho : o.op = .build t parts) (cells : Array Value)
    (hb : (Instr.build t (parts.map fun (i, x) => (i, a.eval x))).run P w = .ok (.agg cells) w) (h : K (a.put o.dst (.agg cells)) w) : o.wp P a w K Q := by
  unfold Oper.wp execOp
  simp only [ho, Sem.run_bind, hb, Result.andThen_ok]
  exact h
theorem wpList_build_num {ops : Array Oper} {rest : List Oper} {o : Oper} {a : Act} {w : World} {Q : Exit → Act → World → Prop} (hg : o.guard = none) (x : Operand) (ho : o.op = .build 26 #[(0, x)]) (l : List Nat) (hl : l.length = 4) (hx : a.eval x = .agg (uc l))
    (h : wpList Tryd.prog ops Q rest (a.put o.dst (.agg (uc l))) w) : wpList Tryd.prog ops Q (o :: rest) a w :=
  wpList_plain hg fun _ hK => wp_built 26 #[(0, x)] ho (uc l) (by
    have e : (#[(0, x)] : Array (Nat × Operand)).map (fun (i, x) => (i, a.eval x)) = #[(0, a.eval x)] := by simp
    rw [e, hx]; exact build_num l hl w) (hK _ _ h)
theorem wpList_build_zero {ops : Array Oper} {rest : List Oper} {o : Oper} {a : Act} {w : World} {Q : Exit → Act → World → Prop} (hg : o.guard = none) (ho : o.op = .build 26 #[])
    (h : wpList Tryd.prog ops Q rest (a.put o.dst (.agg zeros4)) w) : wpList Tryd.prog ops Q (o :: rest) a w :=
  wpList_plain hg fun _ hK => wp_built 26 #[] ho zeros4 (by simpa using build_zero w) (hK _ _ h)
theorem wpList_build_one {ops : Array Oper} {rest : List Oper} {o : Oper} {a : Act} {w : World} {Q : Exit → Act → World → Prop} (hg : o.guard = none) (x : Operand) (ho : o.op = .build 24 #[(0, x)]) (n : Nat) (hn : n < 18446744073709551616) (hx : a.eval x = .int .u64 (n : Int))
    (h : wpList Tryd.prog ops Q rest (a.put o.dst (.agg (uc (limN 4 n)))) w) : wpList Tryd.prog ops Q (o :: rest) a w :=
  wpList_plain hg fun _ hK => wp_built 24 #[(0, x)] ho (uc (limN 4 n)) (by
    have e : (#[(0, x)] : Array (Nat × Operand)).map (fun (i, x) => (i, a.eval x)) = #[(0, a.eval x)] := by simp
    rw [e, hx]; exact build_one n hn w) (hK _ _ h)
theorem and_63 (y : Int) : bits .and .u64 y 9223372036854775807 = y % 9223372036854775808 := by
  have h1 : (BitVec.ofInt 64 9223372036854775807).toNat = 2 ^ 63 - 1 := by decide
  have key : (BitVec.ofInt 64 y &&& BitVec.ofInt 64 9223372036854775807).toNat = (y % ((2 ^ 64 : Nat) : Int)).toNat % 2 ^ 63 := by
    rw [BitVec.toNat_and, BitVec.toNat_ofInt, h1, Nat.and_two_pow_sub_one_eq_mod]
  show IntKind.u64.wrap ((BitVec.ofInt 64 y &&& BitVec.ofInt 64 9223372036854775807).toNat : Nat) = y % 9223372036854775808
  rw [key, IntKind.wrap_u64]
  omega

theorem or_two (o b : Nat) (ho : o ≤ 38) (hb : b ≤ 1) : bits .or .u64 ((o : Int) * 2) ((b : Nat) : Int) = ((2 * o + b : Nat) : Int) := by
  have e1 : (BitVec.ofInt 64 ((o : Int) * 2)).toNat = 2 ^ 1 * o := by rw [BitVec.toNat_ofInt]; omega
  have e2 : (BitVec.ofInt 64 ((b : Nat) : Int)).toNat = b := by rw [BitVec.toNat_ofInt]; omega
  have h := Nat.two_pow_add_eq_or_of_lt (show b < 2 ^ 1 by omega) o
  show IntKind.u64.wrap (((BitVec.ofInt 64 ((o : Int) * 2) ||| BitVec.ofInt 64 ((b : Nat) : Int)).toNat : Nat) : Int) = _
  rw [BitVec.toNat_or, e1, e2, ← h, IntKind.wrap_u64]
  omega
set_option maxHeartbeats 1000000 in
theorem reduced_any (x o : Nat) (w : World) (hx : x < mF) (ho : o ≤ 38) :
    Calls Tryd.prog 32 #[.agg (uc (limN 4 x)), .int .u64 (o : Int)] w fun e w' => e = .returned (.agg (uc (limN 4 ((x + o * mF) % pF)))) ∧ Below w.heap.size w w' := by
  obtain ⟨hz, hi⟩ := zero_of_info infoF
  have HG0 := Lib.hid (blk_old (o := .cells zeros4 26) (blk_new w (.cells (uc (limN 4 x)) 24)))
  have HR0 := Lib.hid (blk_new2 w (.cells (uc (limN 4 x)) 24) (.cells zeros4 26))
  have hb0 := below_new2 w (.cells (uc (limN 4 x)) 24) (.cells zeros4 26)
  clear hi
  go_enter Tryd.func32, Tryd.ntmps32
  go_upto_region 1 with fail
  clear hz
  generalize ((w.alloc _).alloc _) = W0 at *
  generalize hBB : w.heap.size = B at *
  have HBB := Lib.hid hBB
  clear hBB
  have c3 := uc_cell HG0.out 3 (by rw [limN_length]; decide)
  rw [limN_get _ _ _ (by decide)] at c3
  have f3 := frozen_of_row W0 B 3 _ _ HG0.out
  have r1 := uc_heap_set HG0.out 3 (dg x 3 % 9223372036854775808)
  rw [top_cut x hx] at r1
  have hR1 : (W0.setCell ⟨B, 3, none⟩ (.int .u64 ((dg x 3 % 9223372036854775808 : Nat) : Int))).heap[B + 1]? = some (.cells zeros4 26) := by rw [heap_setCell_other _ _ _ _ (by simp)]; exact HR0.out
  have hb1 : Below B w (W0.setCell ⟨B, 3, none⟩ (.int .u64 ((dg x 3 % 9223372036854775808 : Nat) : Int))) := hb0.setCell (by simp) _
  have hlt := dg_lt x 3
  have eO : bits .or .u64 ((o : Int) * 2) (((dg x 3 : Nat) : Int) / 9223372036854775808) = ((redN x o : Nat) : Int) := by
    have := or_two o (dg x 3 / 9223372036854775808) ho (by omega)
    rw [top_bit x hx] at this
    rw [redN, ← this, ← top_bit x hx]
    rfl
  have eA : bits .and .u64 ((dg x 3 : Nat) : Int) 9223372036854775807 = ((dg x 3 % 9223372036854775808 : Nat) : Int) := by rw [and_63]; omega
  have HG1 := Lib.hid r1; have HR1 := Lib.hid hR1
  obtain ⟨n1, n2, n3, n4⟩ := red_fits x o hx ho
  have ix : ∀ W, (Instr.index 24 (.agg (uc (limN 4 (redT x + 19 * (redN x o + 1))))) (.int .i64 3)).run Tryd.prog W = .ok (.int .u64 ((dg (redT x + 19 * (redN x o + 1)) 3 : Nat) : Int)) W := fun W => index_limb (redT x + 19 * (redN x o + 1)) 3 (by decide) W
  have t3 := top_bit _ n3
  have t4 := top_cut _ n4
  have hM : redM x o = redN x o + (redT x + 19 * (redN x o + 1)) / hF := rfl
  rw [red_done x o hx ho] at t4
  have HP1 := Lib.hid (fun W => plusW_any (redT x) (19 * (redN x o + 1)) W)
  have HP2 := Lib.hid (fun W => plusW_any (redT x) (19 * redM x o) W)
  have HIt := Lib.hid (sizeL (limN 4 (redT x)) (limN_length _ _))
  have HIs := Lib.hid (sizeL (limN 4 (redT x + 19 * redM x o)) (limN_length _ _))
  have HIf := Lib.hid (sizeL (limN 4 ((x + o * mF) % pF)) (limN_length _ _))
  have HIr := Lib.hid (sizeF (limN 4 ((x + o * mF) % pF)) (limN_length _ _))
  have hQ : (redT x + 19 * (redN x o + 1)) / hF ≤ 1 := by rw [redT, hF]; omega
  rw [← t3] at hM hQ
  have HT : redT x = x % hF := rfl
  rw [← HT] at r1 HG1
  clear r1 hR1 hb0 HG0 HR0 t3 n3 n4
  generalize dg x 3 % 9223372036854775808 = m3 at *
  generalize dg x 3 = d3 at *
  generalize hn : redN x o = n at *
  generalize hm : redM x o = m at *
  generalize hr : (x + o * mF) % pF = r at *
  generalize redT x = t at *
  have s4 := limN_get 4 (t + 19 * m) 3 (by decide)
  generalize dg (t + 19 * (n + 1)) 3 = d5 at *
  generalize dg (t + 19 * m) 3 = d6 at *
  have HR := Lib.hid hr
  clear hr hn hm HT
  have hw1 : ((n : Int) + 1) % 18446744073709551616 = (n : Int) + 1 := by omega
  have hw2 : (19 * ((n : Int) + 1)) % 18446744073709551616 = ((19 * (n + 1) : Nat) : Int) := by omega
  have hw3 : ((n : Int) + (d5 : Int) / 9223372036854775808) % 18446744073709551616 = (m : Int) := by omega
  have hw4 : (19 * (m : Int)) % 18446744073709551616 = ((19 * m : Nat) : Int) := by omega
  have hw5 : ((o : Int) * 2) % 18446744073709551616 = (o : Int) * 2 := by omega
  have hk1 : ((19 * (n + 1) : Nat) : Int) = 19 * ((n : Int) + 1) := by omega
  have hk2 : ((19 * m : Nat) : Int) = 19 * (m : Int) := by omega
  rw [hk1] at HP1 hw2
  rw [hk2] at HP2 hw4
  have hw6 : IntKind.u64.wrap ((n : Int) + (d5 : Int) / 9223372036854775808) = (m : Int) := by rw [IntKind.wrap_u64]; exact hw3
  clear hM hQ hk1 hk2 hw3
  go_wp2_with (with_reducible refine wpList_load_row rfl 24 _ rfl B rfl 24 _ (0, 0) _ HG1.out Tryd.underlying24 rfl HIt.out ?_)
  generalize W0.setCell _ _ = W1 at *
  clear eA eO c3 f3 hw1 hw2 hw5 hlt
  refine (HP1.out W1).mono ?_
  rintro e W2 ⟨rfl, hp2⟩
  have HG2 := Lib.hid (blk_below hp2 (blk_lt HG1.out) HG1.out)
  have HR2 := Lib.hid (blk_below hp2 (blk_lt HR1.out) HR1.out)
  have hb2 : Below B w W2 := hb1.trans (hp2.mono (by have := blk_lt HG1.out; omega))
  clear HG1 HR1 hb1 hp2 HP1
  go_wp2_with (with_reducible refine wpList_load_row rfl 24 _ rfl B rfl 24 _ (0, 0) _ HG2.out Tryd.underlying24 rfl HIt.out ?_)
  clear ix hw6 hw4
  refine (HP2.out W2).mono ?_
  rintro e W3 ⟨rfl, hp3⟩
  have HG3 := Lib.hid (blk_below hp3 (blk_lt HG2.out) HG2.out)
  have HR3 := Lib.hid (blk_below hp3 (blk_lt HR2.out) HR2.out)
  have hb3 : Below B w W3 := hb2.trans (hp3.mono (by have := blk_lt HG2.out; omega))
  clear HG2 HR2 hb2 hp3 HP2
  have HZt := Lib.hid (show (uc (limN 4 t)).size = (uc (limN 4 (t + 19 * m))).size by rw [uc_size, uc_size, limN_length, limN_length])
  have H1s := Lib.hid (uc_one (limN 4 (t + 19 * m)))
  have g4 := setRow_heap W3 B (uc (limN 4 t)) (uc (limN 4 (t + 19 * m))) _ _ HG3.out
  have HR4 : Hid ((W3.setRow B (uc (limN 4 (t + 19 * m)))).heap[B + 1]? = some (.cells zeros4 26)) := Lib.hid (by rw [setRow_other _ _ _ _ (by omega)]; exact HR3.out)
  have hb4 : Below B w (W3.setRow B (uc (limN 4 (t + 19 * m)))) := below_setRow hb3 (Nat.le_refl _) _
  have eA : bits .and .u64 ((d6 : Nat) : Int) 9223372036854775807 = ((d6 % 9223372036854775808 : Nat) : Int) := by rw [and_63]; omega
  have c6 := uc_cell g4 3 (by rw [limN_length]; decide)
  rw [s4] at c6
  have f6 := frozen_of_row _ B 3 _ _ g4
  have g5 := uc_heap_set g4 3 (d6 % 9223372036854775808)
  rw [t4] at g5
  have HR5 : Hid (((W3.setRow B (uc (limN 4 (t + 19 * m)))).setCell ⟨B, 3, none⟩ (.int .u64 ((d6 % 9223372036854775808 : Nat) : Int))).heap[B + 1]? = some (.cells zeros4 26)) := Lib.hid (by rw [heap_setCell_other _ _ _ _ (by simp)]; exact HR4.out)
  have hb5 : Below B w ((W3.setRow B (uc (limN 4 (t + 19 * m)))).setCell ⟨B, 3, none⟩ (.int .u64 ((d6 % 9223372036854775808 : Nat) : Int))) := hb4.setCell (by simp) _
  have HG5 := Lib.hid g5
  have HZr := Lib.hid (show zeros4.size = (uc (limN 4 r)).size by rw [uc_size, limN_length]; exact uc_size _)
  have H1r := Lib.hid (uc_one (limN 4 r))
  clear g4 g5 HR4 hb4 t4 s4 hb3
  generalize d6 % 9223372036854775808 = m6 at *
  have HLr := Lib.hid (limN_length 4 r)
  go_wp2_with (first
    | (with_reducible refine wpList_store_row rfl 24 _ _ rfl B (uc (limN 4 (t + 19 * m))) rfl rfl 24 _ HG3.out HIs.out HZt.out H1s.out ?_)
    | (with_reducible refine wpList_load_row rfl 24 _ rfl B rfl 24 _ (0, 0) _ HG5.out Tryd.underlying24 rfl HIf.out ?_)
    | (with_reducible refine wpList_build_num rfl _ rfl (limN 4 r) HLr.out rfl ?_)
    | (with_reducible refine wpList_store_row rfl 26 _ _ rfl (B + 1) (uc (limN 4 r)) rfl rfl 26 _ HR5.out HIr.out HZr.out H1r.out ?_))
  exact bodyPost_ret (v := .agg (uc (limN 4 r))) (results_cell_row (by rfl) _ _ (B + 1) 26 _ (0, 0) _ rfl (setRow_heap _ _ _ _ _ _ HR5.out) Tryd.underlying26 rfl HIr.out) rfl ⟨by rw [HR.out], by rw [HBB.out]; exact below_setRow hb5 (by omega) _⟩
end Go.Proofs.YtfidcdkoggfjaaaDoor
