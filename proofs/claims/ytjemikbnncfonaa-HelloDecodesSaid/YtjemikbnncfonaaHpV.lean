/- Package hello: shapeOf and isValid. -/
import Derived.Test.YtjemikbnncfonaaHpS
namespace Go.Proofs.Ytjemikbnncfonaa
open Go.RowKit Go.Sort
set_option maxRecDepth 100000
set_option linter.unusedSimpArgs false
set_option linter.unusedVariables false

/-- A shape's cells. -/
def shC (s : Shp) : Array Value := #[.int .i64 s.a, .int .i64 s.b, .int .i64 s.c, .int .i64 s.d, .int .i64 s.e, .int .i64 s.f, .bool s.g]
def zSh : Array Value := shC ⟨0, 0, 0, 0, 0, 0, false⟩
theorem sh_cells {W : World} {b : Nat} {s : Shp} {T : TypeId} (h : W.heap[b]? = some (.cells (shC s) T)) : W.cell? ⟨b, 0, none⟩ = some (.int .i64 s.a) ∧ W.cell? ⟨b, 1, none⟩ = some (.int .i64 s.b) ∧ W.cell? ⟨b, 2, none⟩ = some (.int .i64 s.c) ∧ W.cell? ⟨b, 3, none⟩ = some (.int .i64 s.d) ∧ W.cell? ⟨b, 4, none⟩ = some (.int .i64 s.e) ∧ W.cell? ⟨b, 5, none⟩ = some (.int .i64 s.f) ∧ W.cell? ⟨b, 6, none⟩ = some (.bool s.g) := by
  refine ⟨?_, ?_, ?_, ?_, ?_, ?_, ?_⟩ <;> rw [cell_of_row W _ _ _ _ _ h] <;> rfl
theorem infoSh : (Try.prog.info? 52).map (fun i => (i.zero, i.size)) = some (some (.agg zSh), 7) := by kernel_rfl
theorem sizeSh (s : Shp) : (Try.prog.info? 52).map (·.size) = some (shC s).size := by
  have h := infoSh
  cases hq : Try.prog.info? 52 with
  | none => rw [hq] at h; cases h
  | some i =>
    rw [hq] at h
    simp only [Option.map_some, Option.some.injEq, Prod.mk.injEq] at h ⊢
    rw [h.2]; rfl
theorem oneSh (s : Shp) : (shC s).all (·.oneCell') = true := by simp [shC, Value.oneCell']
theorem sizeZSh : (Try.prog.info? 52).map (·.size) = some zSh.size := sizeSh _
theorem oneZSh : zSh.all (·.oneCell') = true := oneSh _
theorem results_row_tmp1 {P : Program} {fn : Func} {p u : Tmp} {ty : TypeId} (h : fn.results = #[.cell p ty, .tmp u]) (tmps : Array Value) (w : World) (g : Nat) (t : TypeId) (cs : Array Value) (fr : Nat × Nat) (d : TypeDesc)
    (hp : tmps.getD p undef = .pointer (some ⟨g, 0, none⟩)) (hg : w.heap[g]? = some (.cells cs t fr)) (hu : P.underlying ty = some d) (hd : (match d with | .struct _ | .array _ _ => true | _ => false) = true) (hi : (P.info? ty).map (·.size) = some cs.size) :
    (results fn tmps).run P w = .ok (.tuple #[.agg cs, tmps.getD u undef]) w := by
  have e1 := run_loadVar_row w g t ty cs fr d hg hu hd hi
  simp only [results, h]
  simp at hp
  simp [Sem.run_bind, Result.andThen, hp, asAddr, e1]
set_option maxHeartbeats 4000000 in
theorem shapeOf_any (k : Int) (w : World) :
    Calls Try.prog 24 #[.int .i64 k] w fun e w' => e = .returned (.tuple #[.agg (shC (shpOf k)), .bool (isK k)]) ∧ Below w.heap.size w w' := by
  obtain ⟨hzz, -⟩ := zero_of_info infoSh
  have HR := Lib.hid (blk_new w (.cells zSh 52))
  have hb := below_new w (.cells zSh 52)
  by_cases k0 : k = 1
  · subst k0
    have HV : Hid (shpOf 1 = ⟨32, 32, 1, 4, 0, 0, false⟩ ∧ isK 1 = true) := Lib.hid ⟨rfl, rfl⟩
    have rs : ((((zSh.setIfInBounds 0 (.int .i64 32)).setIfInBounds 1 (.int .i64 32)).setIfInBounds 2 (.int .i64 1)).setIfInBounds 3 (.int .i64 4)) = shC ⟨32, 32, 1, 4, 0, 0, false⟩ := rfl
    have d0 : ((1 : Int) == 1) = true := by decide
    go_enter Try.func24, Try.ntmps24
    go_wp2_with (with_reducible refine wpList_store_row rfl 52 _ _ rfl w.heap.size (shC ⟨32, 32, 1, 4, 0, 0, false⟩) rfl rfl 52 _ HR.out (sizeSh _) rfl (oneSh _) ?_)
    (try simp only [Exit.inBlock, Exit.then]); exact bodyPost_ret (results_row_tmp1 (by rfl) _ _ w.heap.size 52 _ (0, 0) _ rfl (setRow_heap _ _ _ _ _ _ HR.out) Try.underlying52 rfl (sizeSh _)) rfl ⟨by rw [HV.out.1, HV.out.2]; rfl, by exact below_setRow hb (Nat.le_refl _) _⟩
  by_cases k1 : k = 2
  · subst k1
    have HV : Hid (shpOf 2 = ⟨32, 32, 1, 1, 0, 0, false⟩ ∧ isK 2 = true) := Lib.hid ⟨rfl, rfl⟩
    have rs : ((((zSh.setIfInBounds 0 (.int .i64 32)).setIfInBounds 1 (.int .i64 32)).setIfInBounds 2 (.int .i64 1)).setIfInBounds 3 (.int .i64 1)) = shC ⟨32, 32, 1, 1, 0, 0, false⟩ := rfl
    have d0 : ((2 : Int) == 1) = false := by decide
    have d1 : ((2 : Int) == 2) = true := by decide
    go_enter Try.func24, Try.ntmps24
    go_wp2_with (with_reducible refine wpList_store_row rfl 52 _ _ rfl w.heap.size (shC ⟨32, 32, 1, 1, 0, 0, false⟩) rfl rfl 52 _ HR.out (sizeSh _) rfl (oneSh _) ?_)
    (try simp only [Exit.inBlock, Exit.then]); exact bodyPost_ret (results_row_tmp1 (by rfl) _ _ w.heap.size 52 _ (0, 0) _ rfl (setRow_heap _ _ _ _ _ _ HR.out) Try.underlying52 rfl (sizeSh _)) rfl ⟨by rw [HV.out.1, HV.out.2]; rfl, by exact below_setRow hb (Nat.le_refl _) _⟩
  by_cases k2 : k = 8
  · subst k2
    have HV : Hid (shpOf 8 = ⟨0, 0, 0, 0, 0, 0, false⟩ ∧ isK 8 = true) := Lib.hid ⟨rfl, rfl⟩
    skip
    have d0 : ((8 : Int) == 1) = false := by decide
    have d1 : ((8 : Int) == 2) = false := by decide
    have d2 : ((8 : Int) == 8) = true := by decide
    go_enter Try.func24, Try.ntmps24
    go_wp2_with (with_reducible refine wpList_store_row rfl 52 _ _ rfl w.heap.size zSh rfl rfl 52 _ HR.out sizeZSh rfl oneZSh ?_)
    (try simp only [Exit.inBlock, Exit.then]); exact bodyPost_ret (results_row_tmp1 (by rfl) _ _ w.heap.size 52 _ (0, 0) _ rfl (setRow_heap _ _ _ _ _ _ HR.out) Try.underlying52 rfl sizeZSh) rfl ⟨by rw [HV.out.1, HV.out.2]; rfl, by exact below_setRow hb (Nat.le_refl _) _⟩
  by_cases k3 : k = 13
  · subst k3
    have HV : Hid (shpOf 13 = ⟨0, 0, 0, 0, 0, 0, false⟩ ∧ isK 13 = true) := Lib.hid ⟨rfl, rfl⟩
    skip
    have d0 : ((13 : Int) == 1) = false := by decide
    have d1 : ((13 : Int) == 2) = false := by decide
    have d2 : ((13 : Int) == 8) = false := by decide
    have d3 : ((13 : Int) == 13) = true := by decide
    go_enter Try.func24, Try.ntmps24
    go_wp2_with (with_reducible refine wpList_store_row rfl 52 _ _ rfl w.heap.size zSh rfl rfl 52 _ HR.out sizeZSh rfl oneZSh ?_)
    (try simp only [Exit.inBlock, Exit.then]); exact bodyPost_ret (results_row_tmp1 (by rfl) _ _ w.heap.size 52 _ (0, 0) _ rfl (setRow_heap _ _ _ _ _ _ HR.out) Try.underlying52 rfl sizeZSh) rfl ⟨by rw [HV.out.1, HV.out.2]; rfl, by exact below_setRow hb (Nat.le_refl _) _⟩
  by_cases k4 : k = 11
  · subst k4
    have HV : Hid (shpOf 11 = ⟨0, 0, 0, 0, 1, 1000, false⟩ ∧ isK 11 = true) := Lib.hid ⟨rfl, rfl⟩
    have rs : ((zSh.setIfInBounds 4 (.int .i64 1)).setIfInBounds 5 (.int .i64 1000)) = shC ⟨0, 0, 0, 0, 1, 1000, false⟩ := rfl
    have d0 : ((11 : Int) == 1) = false := by decide
    have d1 : ((11 : Int) == 2) = false := by decide
    have d2 : ((11 : Int) == 8) = false := by decide
    have d3 : ((11 : Int) == 13) = false := by decide
    have d4 : ((11 : Int) == 11) = true := by decide
    go_enter Try.func24, Try.ntmps24
    go_wp2_with (with_reducible refine wpList_store_row rfl 52 _ _ rfl w.heap.size (shC ⟨0, 0, 0, 0, 1, 1000, false⟩) rfl rfl 52 _ HR.out (sizeSh _) rfl (oneSh _) ?_)
    (try simp only [Exit.inBlock, Exit.then]); exact bodyPost_ret (results_row_tmp1 (by rfl) _ _ w.heap.size 52 _ (0, 0) _ rfl (setRow_heap _ _ _ _ _ _ HR.out) Try.underlying52 rfl (sizeSh _)) rfl ⟨by rw [HV.out.1, HV.out.2]; rfl, by exact below_setRow hb (Nat.le_refl _) _⟩
  by_cases k5 : k = 15
  · subst k5
    have HV : Hid (shpOf 15 = ⟨0, 0, 0, 0, 64, 64, false⟩ ∧ isK 15 = true) := Lib.hid ⟨rfl, rfl⟩
    have rs : ((zSh.setIfInBounds 4 (.int .i64 64)).setIfInBounds 5 (.int .i64 64)) = shC ⟨0, 0, 0, 0, 64, 64, false⟩ := rfl
    have d0 : ((15 : Int) == 1) = false := by decide
    have d1 : ((15 : Int) == 2) = false := by decide
    have d2 : ((15 : Int) == 8) = false := by decide
    have d3 : ((15 : Int) == 13) = false := by decide
    have d4 : ((15 : Int) == 11) = false := by decide
    have d5 : ((15 : Int) == 15) = true := by decide
    go_enter Try.func24, Try.ntmps24
    go_wp2_with (with_reducible refine wpList_store_row rfl 52 _ _ rfl w.heap.size (shC ⟨0, 0, 0, 0, 64, 64, false⟩) rfl rfl 52 _ HR.out (sizeSh _) rfl (oneSh _) ?_)
    (try simp only [Exit.inBlock, Exit.then]); exact bodyPost_ret (results_row_tmp1 (by rfl) _ _ w.heap.size 52 _ (0, 0) _ rfl (setRow_heap _ _ _ _ _ _ HR.out) Try.underlying52 rfl (sizeSh _)) rfl ⟨by rw [HV.out.1, HV.out.2]; rfl, by exact below_setRow hb (Nat.le_refl _) _⟩
  by_cases k6 : k = 20
  · subst k6
    have HV : Hid (shpOf 20 = ⟨0, 0, 0, 0, 32, 32, false⟩ ∧ isK 20 = true) := Lib.hid ⟨rfl, rfl⟩
    have rs : ((zSh.setIfInBounds 4 (.int .i64 32)).setIfInBounds 5 (.int .i64 32)) = shC ⟨0, 0, 0, 0, 32, 32, false⟩ := rfl
    have d0 : ((20 : Int) == 1) = false := by decide
    have d1 : ((20 : Int) == 2) = false := by decide
    have d2 : ((20 : Int) == 8) = false := by decide
    have d3 : ((20 : Int) == 13) = false := by decide
    have d4 : ((20 : Int) == 11) = false := by decide
    have d5 : ((20 : Int) == 15) = false := by decide
    have d6 : ((20 : Int) == 20) = true := by decide
    go_enter Try.func24, Try.ntmps24
    go_wp2_with (with_reducible refine wpList_store_row rfl 52 _ _ rfl w.heap.size (shC ⟨0, 0, 0, 0, 32, 32, false⟩) rfl rfl 52 _ HR.out (sizeSh _) rfl (oneSh _) ?_)
    (try simp only [Exit.inBlock, Exit.then]); exact bodyPost_ret (results_row_tmp1 (by rfl) _ _ w.heap.size 52 _ (0, 0) _ rfl (setRow_heap _ _ _ _ _ _ HR.out) Try.underlying52 rfl (sizeSh _)) rfl ⟨by rw [HV.out.1, HV.out.2]; rfl, by exact below_setRow hb (Nat.le_refl _) _⟩
  by_cases k7 : k = 24
  · subst k7
    have HV : Hid (shpOf 24 = ⟨0, 0, 0, 0, 0, 0, true⟩ ∧ isK 24 = true) := Lib.hid ⟨rfl, rfl⟩
    have rs : (zSh.setIfInBounds 6 (.bool true)) = shC ⟨0, 0, 0, 0, 0, 0, true⟩ := rfl
    have d0 : ((24 : Int) == 1) = false := by decide
    have d1 : ((24 : Int) == 2) = false := by decide
    have d2 : ((24 : Int) == 8) = false := by decide
    have d3 : ((24 : Int) == 13) = false := by decide
    have d4 : ((24 : Int) == 11) = false := by decide
    have d5 : ((24 : Int) == 15) = false := by decide
    have d6 : ((24 : Int) == 20) = false := by decide
    have d7 : ((24 : Int) == 24) = true := by decide
    go_enter Try.func24, Try.ntmps24
    go_wp2_with (with_reducible refine wpList_store_row rfl 52 _ _ rfl w.heap.size (shC ⟨0, 0, 0, 0, 0, 0, true⟩) rfl rfl 52 _ HR.out (sizeSh _) rfl (oneSh _) ?_)
    (try simp only [Exit.inBlock, Exit.then]); exact bodyPost_ret (results_row_tmp1 (by rfl) _ _ w.heap.size 52 _ (0, 0) _ rfl (setRow_heap _ _ _ _ _ _ HR.out) Try.underlying52 rfl (sizeSh _)) rfl ⟨by rw [HV.out.1, HV.out.2]; rfl, by exact below_setRow hb (Nat.le_refl _) _⟩
  have HV : Hid (shpOf k = ⟨0, 0, 0, 0, 0, 0, false⟩ ∧ isK k = false) := Lib.hid ⟨by simp [shpOf, *], by simp [isK, *]⟩
  have d0 : (k == 1) = false := beq_eq_false_iff_ne.2 k0
  have d1 : (k == 2) = false := beq_eq_false_iff_ne.2 k1
  have d2 : (k == 8) = false := beq_eq_false_iff_ne.2 k2
  have d3 : (k == 13) = false := beq_eq_false_iff_ne.2 k3
  have d4 : (k == 11) = false := beq_eq_false_iff_ne.2 k4
  have d5 : (k == 15) = false := beq_eq_false_iff_ne.2 k5
  have d6 : (k == 20) = false := beq_eq_false_iff_ne.2 k6
  have d7 : (k == 24) = false := beq_eq_false_iff_ne.2 k7
  go_enter Try.func24, Try.ntmps24
  go_wp2_with (with_reducible refine wpList_store_row rfl 52 _ _ rfl w.heap.size zSh rfl rfl 52 _ HR.out sizeZSh rfl oneZSh ?_)
  (try simp only [Exit.inBlock, Exit.then]); exact bodyPost_ret (results_row_tmp1 (by rfl) _ _ w.heap.size 52 _ (0, 0) _ rfl (setRow_heap _ _ _ _ _ _ HR.out) Try.underlying52 rfl sizeZSh) rfl ⟨by rw [HV.out.1, HV.out.2]; rfl, by exact below_setRow hb (Nat.le_refl _) _⟩
set_option maxHeartbeats 16000000 in
theorem isValid_any (m : HMsg) (ao : Option Addr) (n c : Nat) (w : World) (hn : m.su.length = n) (hm : n ≤ 1000000) (hI : IntsAt w ao m.su) :
    Calls Try.prog 15 #[.agg (msC m (.slice ao n c))] w fun e w' => e = .returned (.bool (okM m)) ∧ Below w.heap.size w w' := by
  obtain ⟨hzz, -⟩ := zero_of_info infoSh
  have HR := Lib.hid (shOk_eq m)
  obtain ⟨k, rn, sh, su, da, ask⟩ := m
  have CS := Lib.hid (fun W => shapeOf_any k W)
  dsimp only at HR hn hI
  generalize okM ⟨k, rn, sh, su, da, ask⟩ = r at *
  generalize isK k = kn at *
  generalize shpOf k = S at *
  obtain ⟨sa, sb, sc, sd, se, sf, sg⟩ := S
  have CA := Lib.hid (fun W hi => areSuites_any ao n c su W hn hm hi)
  have C1 := Lib.hid (fun W => isWithin_any n sc sd W)
  have C2 := Lib.hid (fun W => isWithin_any da.size se sf W)
  replace HR : Hid (r = (kn && (((rn.size : Int) == sa) && (((sh.size : Int) == sb) && (winB n sc sd && (suitsOk su && (winB da.size se sf && (sg || !ask)))))))) := Lib.hid (by rw [← HR.out, shOk, hn]; rfl)
  generalize suitsOk su = q4 at *
  generalize winB n sc sd = q3 at *
  generalize winB da.size se sf = q5 at *
  obtain ⟨q1, hq1⟩ : ∃ q, ((rn.size : Int) == sa) = q := ⟨_, rfl⟩
  obtain ⟨q2, hq2⟩ : ∃ q, ((sh.size : Int) == sb) = q := ⟨_, rfl⟩
  rw [hq1, hq2] at HR
  have hb := below_new w (.cells (msC ⟨k, rn, sh, su, da, ask⟩ (.slice ao n c)) 24)
  have HG := Lib.hid (blk_new w (.cells (msC ⟨k, rn, sh, su, da, ask⟩ (.slice ao n c)) 24))
  have HI := Lib.hid (hI.step hb)
  obtain ⟨c0, c1, c2, c3, c4, c5⟩ := ms_cells HG.out
  dsimp only at c0 c1 c2 c3 c4 c5
  clear hI hn
  go_enter Try.func15, Try.ntmps15
  go_wp2_with fail
  refine (CS.out _).mono ?_
  rintro e W1 ⟨rfl, bk⟩
  have hb1 := hb.trans (bk.mono hb.size)
  have HG1 := Lib.hid (blk_below bk (blk_lt HG.out) HG.out)
  have HI1 := Lib.hid (HI.out.step bk)
  clear bk HG HI c0 c1 c2 c3 c4 c5 CS hb
  have HN := Lib.hid (blk_new W1 (.cells zSh 52))
  have HS := Lib.hid (setRow_heap _ W1.heap.size _ (shC ⟨sa, sb, sc, sd, se, sf, sg⟩) _ _ HN.out)
  have bk2 := below_setRow (below_new W1 (.cells zSh 52)) (Nat.le_refl _) (shC ⟨sa, sb, sc, sd, se, sf, sg⟩)
  have HG := Lib.hid (blk_below bk2 (blk_lt HG1.out) HG1.out)
  have HI := Lib.hid (HI1.out.step bk2)
  have hb := hb1.trans (bk2.mono hb1.size)
  obtain ⟨c0, c1, c2, c3, c4, c5⟩ := ms_cells HG.out
  obtain ⟨s0, s1, s2, s3, s4, s5, s6⟩ := sh_cells HS.out
  dsimp only at c0 c1 c2 c3 c4 c5 s0 s1 s2 s3 s4 s5 s6
  clear bk2 HG1 HI1 hb1
  cases kn with
  | false =>
    go_wp2_with (with_reducible refine wpList_store_row rfl 52 _ _ rfl W1.heap.size (shC ⟨sa, sb, sc, sd, se, sf, sg⟩) rfl rfl 52 _ HN.out (sizeSh _) rfl (oneSh _) ?_)
    go_wp2_with fail
    go_ret
    exact ⟨by rw [HR.out]; first | rfl | (simp; done), hb⟩
  | true =>
  cases q1 with
  | false =>
    go_wp2_with (with_reducible refine wpList_store_row rfl 52 _ _ rfl W1.heap.size (shC ⟨sa, sb, sc, sd, se, sf, sg⟩) rfl rfl 52 _ HN.out (sizeSh _) rfl (oneSh _) ?_)
    go_wp2_with fail
    go_ret
    exact ⟨by rw [HR.out]; first | rfl | (simp; done), hb⟩
  | true =>
  cases q2 with
  | false =>
    go_wp2_with (with_reducible refine wpList_store_row rfl 52 _ _ rfl W1.heap.size (shC ⟨sa, sb, sc, sd, se, sf, sg⟩) rfl rfl 52 _ HN.out (sizeSh _) rfl (oneSh _) ?_)
    go_wp2_with fail
    go_ret
    exact ⟨by rw [HR.out]; first | rfl | (simp; done), hb⟩
  | true =>
  go_wp2_with (with_reducible refine wpList_store_row rfl 52 _ _ rfl W1.heap.size (shC ⟨sa, sb, sc, sd, se, sf, sg⟩) rfl rfl 52 _ HN.out (sizeSh _) rfl (oneSh _) ?_)
  generalize World.setRow _ _ _ = W2 at *
  generalize W1.heap.size = gs at *
  clear HN
  go_wp2_with fail
  refine (C1.out _).mono ?_
  rintro e W3 ⟨rfl, bk⟩
  clear C1
  have hbN := hb.trans (bk.mono hb.size)
  have HG1 := Lib.hid (blk_below bk (blk_lt HG.out) HG.out)
  have HS1 := Lib.hid (blk_below bk (blk_lt HS.out) HS.out)
  have HI1 := Lib.hid (HI.out.step bk)
  clear bk HG HS HI c0 c1 c2 c3 c4 c5 s0 s1 s2 s3 s4 s5 s6 hb
  have hb := hbN
  have HG := HG1
  have HS := HS1
  have HI := HI1
  clear hbN HG1 HS1 HI1
  obtain ⟨c0, c1, c2, c3, c4, c5⟩ := ms_cells HG.out
  obtain ⟨s0, s1, s2, s3, s4, s5, s6⟩ := sh_cells HS.out
  dsimp only at c0 c1 c2 c3 c4 c5 s0 s1 s2 s3 s4 s5 s6
  cases q3 with
  | false =>
    go_wp2_with fail
    go_ret
    exact ⟨by rw [HR.out]; first | rfl | (simp; done), hb⟩
  | true =>
  go_wp2_with fail
  refine (CA.out _ HI.out).mono ?_
  rintro e W4 ⟨rfl, bk⟩
  clear CA
  have hbN := hb.trans (bk.mono hb.size)
  have HG1 := Lib.hid (blk_below bk (blk_lt HG.out) HG.out)
  have HS1 := Lib.hid (blk_below bk (blk_lt HS.out) HS.out)
  have HI1 := Lib.hid (HI.out.step bk)
  clear bk HG HS HI c0 c1 c2 c3 c4 c5 s0 s1 s2 s3 s4 s5 s6 hb
  have hb := hbN
  have HG := HG1
  have HS := HS1
  have HI := HI1
  clear hbN HG1 HS1 HI1
  obtain ⟨c0, c1, c2, c3, c4, c5⟩ := ms_cells HG.out
  obtain ⟨s0, s1, s2, s3, s4, s5, s6⟩ := sh_cells HS.out
  dsimp only at c0 c1 c2 c3 c4 c5 s0 s1 s2 s3 s4 s5 s6
  cases q4 with
  | false =>
    go_wp2_with fail
    go_ret
    exact ⟨by rw [HR.out]; first | rfl | (simp; done), hb⟩
  | true =>
  go_wp2_with fail
  refine (C2.out _).mono ?_
  rintro e W5 ⟨rfl, bk⟩
  clear C2
  have hbN := hb.trans (bk.mono hb.size)
  have HG1 := Lib.hid (blk_below bk (blk_lt HG.out) HG.out)
  have HS1 := Lib.hid (blk_below bk (blk_lt HS.out) HS.out)
  have HI1 := Lib.hid (HI.out.step bk)
  clear bk HG HS HI c0 c1 c2 c3 c4 c5 s0 s1 s2 s3 s4 s5 s6 hb
  have hb := hbN
  have HG := HG1
  have HS := HS1
  have HI := HI1
  clear hbN HG1 HS1 HI1
  obtain ⟨c0, c1, c2, c3, c4, c5⟩ := ms_cells HG.out
  obtain ⟨s0, s1, s2, s3, s4, s5, s6⟩ := sh_cells HS.out
  dsimp only at c0 c1 c2 c3 c4 c5 s0 s1 s2 s3 s4 s5 s6
  cases q5 with
  | false =>
    go_wp2_with fail
    go_ret
    exact ⟨by rw [HR.out]; first | rfl | (simp; done), hb⟩
  | true =>
  cases sg with
  | true =>
    go_wp2_with fail
    go_ret
    exact ⟨by rw [HR.out]; first | rfl | (simp; done), hb⟩
  | false =>
  go_wp2_with fail
  go_ret
  exact ⟨by rw [HR.out]; first | rfl | (simp; done), hb⟩
end Go.Proofs.Ytjemikbnncfonaa
