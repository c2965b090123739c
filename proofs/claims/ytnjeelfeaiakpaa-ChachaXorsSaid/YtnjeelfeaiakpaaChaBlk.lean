/- The program's block: a state's block of the stream. -/
import Derived.Test.YtnjeelfeaiakpaaChaOut
namespace Go.Proofs.Ytnjeelfeaiakpaa
open Go.RowKit Go.Sort
set_option maxRecDepth 100000
set_option linter.unusedSimpArgs false
set_option linter.unusedVariables false

def zeros64 : Array Value := bcells (List.replicate 64 0)
theorem info64 : (Try.prog.info? 33).map (fun i => (i.zero, i.size)) = some (some (.agg zeros64), 64) := by kernel_rfl
theorem bcells_one (l : List UInt8) : (bcells l).all (·.oneCell') = true := by
  rw [Array.all_eq_true]
  intro i hi
  simp [bcells, Lib.byteCells, Value.oneCell']
/-- The block's bytes while they are laid. -/
def outP (v f : List Int) (m : Nat) : List UInt8 := outB v f m ++ List.replicate (64 - 4 * m) 0
theorem outP_zero (v f : List Int) : outP v f 0 = List.replicate 64 0 := by simp [outP, outB]
theorem outP_full (v f : List Int) : outP v f 16 = outB v f 16 := by simp [outP]
theorem outP_length (v f : List Int) (m : Nat) (h : m ≤ 16) : (outP v f m).length = 64 := by simp [outP, outB_length]; omega
theorem outP_succ (v f : List Int) (m : Nat) (h : m < 16) : putB (outP v f m) (4 * m) ((v.getD m 0 + f.getD m 0) % 4294967296) 4 = outP v f (m + 1) := by
  have e : outP v f m = outB v f m ++ 0 :: 0 :: 0 :: 0 :: List.replicate (64 - 4 * (m + 1)) 0 := by
    rw [outP, show 64 - 4 * m = (64 - 4 * (m + 1)) + 1 + 1 + 1 + 1 by omega]
    simp only [List.replicate_succ]
  have := putB_mid (outB v f m) (List.replicate (64 - 4 * (m + 1)) 0) 0 0 0 0 ((v.getD m 0 + f.getD m 0) % 4294967296)
  rw [outB_length] at this
  rw [e, this]; rfl
theorem index_agg {P : Program} (t e : TypeId) (n k : Nat) (cs : Array Value) (x : Value) (hu : P.underlying t = some (.array n e)) (hs : (P.info? e).map (·.size) = some 1) (ha : ∀ w, (isAgg e).run P w = .ok false w) (hk : k < n) (hx : cs[k]? = some x) (w : World) :
    (Instr.index t (.agg cs) (.int .i64 (k : Int))).run P w = .ok x w := by
  have hn : (0 : Int) ≤ (k : Int) ∧ (k : Int) < (n : Int) := by omega
  have hsz : ∀ w, (sizeOf e).run P w = .ok 1 w := fun w => by
    cases hq : P.info? e with
    | none => simp [hq] at hs
    | some i => simp [hq] at hs; simp [sizeOf, typeInfo, hq, hs]
  simp [Instr.index, run_underlying hu, asIntOf, hn, go_sem, part, hsz, ha, hx]
  intro h; omega
theorem index_state (k : Nat) (l : List Int) (hl : l.length = 16) (hk : k < 16) (w : World) :
    (Instr.index 36 (.agg (stc l)) (.int .i64 (k : Int))).run Try.prog w = .ok (.int .u32 (l.getD k 0)) w :=
  index_agg _ 34 16 k (stc l) _ Try.underlying36 (by kernel_rfl) (fun w => by simp [isAgg, run_underlying Try.underlying34, go_sem]) hk (stc_get l k (by omega)) w
theorem sliced_at (t : TypeId) (n a i j : Nat) (ht : Try.prog.underlying t = some (.array (Try.prog.arrayLen t) (Try.prog.elem t))) (hn : Try.prog.arrayLen t = n) (hs : (Try.prog.info? (Try.prog.elem t)).map (·.size) = some 1) (hij : i ≤ j) (hj : j ≤ n) (hi : i < n) (x y : Int) (hx : x = (i : Int)) (hy : y = (j : Int)) (w : World) :
    (Instr.sliceAt t (.pointer (some ⟨a, 0, none⟩)) (some (.int .i64 x)) (some (.int .i64 y)) none).run Try.prog w = .ok (.slice (some ⟨a, i, none⟩) (j - i) (n - i)) w := by
  subst hx hy
  rw [run_sliceAt_array_lh w t ⟨a, 0, none⟩ ht .i64 .i64 (i : Int) (j : Int) (by omega) (by omega) (by rw [hn]; omega)]
  have hsz : ∀ w, (sizeOf (Try.prog.elem t)).run Try.prog w = .ok 1 w := fun w => by
    cases hq : Try.prog.info? (Try.prog.elem t) with
    | none => simp [hq] at hs
    | some i => simp [hq] at hs; simp [sizeOf, typeInfo, hq, hs]
  rw [hsz, hn]
  simp only [Result.andThen_ok, slicedAt, Int.toNat_natCast, Nat.mul_one]
  by_cases he : n = i
  · omega
  · rw [if_neg he, Addr.add_lit, Nat.zero_add]
set_option maxHeartbeats 1000000 in
theorem block_any (v : List Int) (w : World) (hl : v.length = 16) :
    Calls Try.prog 14 #[.agg (stc v)] w fun e w' => e = .returned (.agg (bcells (outB (roundsL v 10) v 16))) ∧ Below w.heap.size w w' := by
  obtain ⟨hz, hi⟩ := zero_of_info infoSt
  obtain ⟨hz6, hi6⟩ := zero_of_info info64
  have HI := Lib.hid (show (Try.prog.info? 36).map (·.size) = some (stc v).size from by rw [stc_size, hl]; exact hi)
  have HI6 := Lib.hid (show (Try.prog.info? 33).map (·.size) = some (bcells (outB (roundsL v 10) v 16)).size from by rw [bcells_size, outB_length]; exact hi6)
  have H1 := Lib.hid (stc_one v)
  have HL := Lib.hid hl
  have HG0 := Lib.hid (blk_old (o := .cells zeros64 33) (blk_old (o := .cells zeros64 33) (blk_new w (.cells (stc v) 36))))
  have HR0 := Lib.hid (blk_old (o := .cells zeros64 33) (blk_new2 w (.cells (stc v) 36) (.cells zeros64 33)))
  have HO0 := Lib.hid (blk_new3 w (.cells (stc v) 36) (.cells zeros64 33) (.cells zeros64 33))
  have hb0 := below_new3 w (.cells (stc v) 36) (.cells zeros64 33) (.cells zeros64 33)
  clear hi hl hi6 hz
  go_enter Try.func14, Try.ntmps14
  go_wp2_with (with_reducible refine wpList_load_row rfl 36 _ rfl w.heap.size rfl 36 _ (0, 0) _ HG0.out Try.underlying36 rfl HI.out ?_)
  clear hz6
  generalize (((w.alloc _).alloc _).alloc _) = W0 at *
  generalize hBB : w.heap.size = B at *
  have HBB := Lib.hid hBB
  clear hBB
  refine (mixed_any v W0 HL.out).mono ?_
  rintro e W1 ⟨rfl, hb1⟩
  have hlt0 : B + 1 + 1 < W0.heap.size := blk_lt HO0.out
  have HG := Lib.hid (blk_below hb1 (by omega) HG0.out)
  have HR := Lib.hid (blk_below hb1 (by omega) HR0.out)
  have HO := Lib.hid (blk_below hb1 hlt0 HO0.out)
  have hb : Below B w W1 := hb0.trans (hb1.mono (by omega))
  have hlt1 : B + 1 + 1 < W1.heap.size := blk_lt HO.out
  have HLr := Lib.hid (show (roundsL v 10).length = 16 from by rw [roundsL_length]; exact HL.out)
  clear HG0 HR0 HO0 hb0 hb1 hlt0
  generalize hrow : roundsL v 10 = vl at *
  have HROW := Lib.hid hrow
  clear hrow
  go_wp2_with fail
  go_loopw [8] (fun i wr => ∃ k : Nat, k ≤ 16 ∧ i = .int .i64 (k : Int) ∧ wr.heap[B]? = some (.cells (stc v) 36) ∧ wr.heap[B + 1]? = some (.cells zeros64 33) ∧ wr.heap[B + 1 + 1]? = some (.cells (bcells (outP vl v k)) 33) ∧ Below B w wr) (fun i _ => 16 - (intOf i).toNat)
  case atStart => exact ⟨0, by omega, rfl, HG.out, HR.out, by rw [outP_zero]; exact HO.out, hb⟩
  case round =>
    clear HG HR HO hb hlt1
    obtain ⟨k, hk, rfl, hg, hr, ho, hb⟩ := hrel
    have HG := Lib.hid hg; have HR := Lib.hid hr; have HO := Lib.hid ho
    clear hg hr ho
    by_cases hlt : k < 16
    · have hd : decide ((k : Int) < 16) = true := by simp; omega
      have hx := index_state k vl HLr.out hlt
      have hc : wr.cell? ⟨B, k, none⟩ = some (.int .u32 (v.getD k 0)) := by rw [cell_of_row wr _ _ _ _ _ HG.out]; exact stc_get v k (by rw [HL.out]; exact hlt)
      have HS := Lib.hid (outP_succ vl v k hlt)
      generalize vl.getD k 0 = x at *
      generalize v.getD k 0 = y at *
      go_wp2_with fail
      have q1 := cell_regrown hc
      have e1 : IntKind.i64.wrap (4 * (k : Int)) = 4 * (k : Int) := IntWalk.i64_in _ (by omega)
      have e2 : IntKind.i64.wrap (4 * (k : Int) + 4) = 4 * (k : Int) + 4 := IntWalk.i64_in _ (by omega)
      have sl := sliced_at 33 64 (B + 1 + 1) (4 * k) (4 * k + 4) (by kernel_rfl) (by kernel_rfl) (by kernel_rfl) (by omega) (by omega) (by omega) (4 * (k : Int)) (4 * (k : Int) + 4) (by omega) (by omega)
      rw [show 4 * k + 4 - 4 * k = 4 by omega] at sl
      refine wp_region_reads_tail 11 (by kernel_rfl) (by kernel_rfl) ?_
      simp only [List.take_succ_cons, List.take_zero, List.drop_succ_cons, List.drop_zero]
      repeat (first | go_big_quiet_step (fail) | quiet_step (fail))
      refine wpQuiet_nil ?_
      intro Y hY
      have hltw : B + 1 + 1 < wr.heap.size := blk_lt HO.out
      have HG2 := Lib.hid (blk_below hY (by omega) HG.out)
      have HR2 := Lib.hid (blk_below hY (by omega) HR.out)
      have HO2 := Lib.hid (blk_below hY hltw HO.out)
      have hb2 : Below B w Y := hb.trans (hY.mono (by omega))
      have hl2 := blk_lt HO2.out
      clear hY q1 hc hx HG HR HO hb sl e1 e2 hltw
      go_wp2_with fail
      refine (store_any (outP vl v k) (B + 1 + 1) (4 * k) (64 - 4 * k) _ _ Y HO2.out (by rw [outP_length _ _ _ (by omega)]; omega)).mono ?_
      rintro e Z ⟨rfl, ho3, hbut⟩
      rw [HS.out] at ho3
      have HO3 := Lib.hid ho3
      clear ho3 HO2
      have HG3 := Lib.hid ((hbut.block B (by omega) (by omega)).trans HG2.out)
      have HR3 := Lib.hid ((hbut.block (B + 1) (by omega) (by omega)).trans HR2.out)
      have hb3 : Below B w Z := hb2.trans (hbut.below (by omega) (by omega))
      clear HG2 HR2 hb2 hbut hl2
      go_wp2_with fail
      go_roundw
      case rel => exact ⟨k + 1, by omega, by go_num, HG3.out, HR3.out, HO3.out, hb3⟩
      case measure => simp [intOf]; omega
    · have hd : decide ((k : Int) < 16) = false := by simp; omega
      obtain rfl : k = 16 := by omega
      have HO2 := Lib.hid (show wr.heap[B + 1 + 1]? = some (.cells (bcells (outB vl v 16)) 33) from by rw [← outP_full]; exact HO.out)
      have HSz := Lib.hid (show zeros64.size = (bcells (outB vl v 16)).size from by rw [bcells_size, outB_length]; exact bcells_size _)
      have HOne := Lib.hid (bcells_one (outB vl v 16))
      clear HO
      go_wp2_with (first
        | (with_reducible refine wpList_load_row rfl 33 _ rfl (B + 1 + 1) rfl 33 _ (0, 0) _ HO2.out Try.underlying33 rfl HI6.out ?_)
        | (with_reducible refine wpList_store_row rfl 33 _ _ rfl (B + 1) (bcells (outB vl v 16)) rfl rfl 33 _ HR.out HI6.out HSz.out HOne.out ?_))
      exact bodyPost_ret (v := .agg (bcells (outB vl v 16))) (results_cell_row (by rfl) _ _ (B + 1) 33 _ (0, 0) _ rfl (setRow_heap _ _ _ _ _ _ HR.out) Try.underlying33 rfl HI6.out) rfl ⟨by first | (with_reducible rfl) | rw [HROW.out], by rw [HBB.out]; exact below_setRow hb (by omega) _⟩
end Go.Proofs.Ytnjeelfeaiakpaa
