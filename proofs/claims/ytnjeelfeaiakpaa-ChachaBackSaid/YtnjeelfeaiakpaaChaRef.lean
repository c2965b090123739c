/- The reference's rolled and quarter: a quarter round on numbers in memory. -/
import Derived.Test.YtnjeelfeaiakpaaChaSpec
import Derived.Test.YtnjeelfeaiakpaaTail
namespace Go.Proofs.Ytnjeelfeaiakpaa
open Go.RowKit Go.Sort
set_option maxRecDepth 100000
set_option linter.unusedSimpArgs false
set_option linter.unusedVariables false

theorem rolled_any (v n : Int) (w : World) (h0 : 0 ≤ n) (h1 : n ≤ 32) :
    Calls Try.prog 22 #[.int .u32 v, .int .i64 n] w fun e w' => e = .returned (.int .u32 (rotl32 v n)) ∧ Below w.heap.size w w' := by
  go_enter Try.func22, Try.ntmps22
  go_wp2_with fail
  have e1 : IntKind.i64.wrap (32 - n) = 32 - n := IntWalk.i64_in _ (by omega)
  have e2 : (0 : Int) ≤ 32 - n := by omega
  go_quiet (fail)
  go_wp2
  go_ret
  refine ⟨?_, below_drewN (Below.refl _ _) _⟩
  simp [rotl32]

/-- Sixteen numbers lie in block b. -/
structure QInv (W : World) (b : Nat) (v : List Int) : Prop where
  len : v.length = 16
  v : ∀ j, j < 16 → W.cell? ⟨b, j, none⟩ = some (.int .u32 (v.getD j 0))
  f : ∀ j, j < 16 → W.frozen? ⟨b, j, none⟩ = false
theorem QInv.lt {W : World} {b : Nat} {v : List Int} (i : QInv W b v) : b < W.heap.size := block_lt_of_cell (i.v 0 (by omega))
theorem QInv.step {W W' : World} {b : Nat} {v : List Int} (i : QInv W b v) (hb : Below W.heap.size W W') : QInv W' b v :=
  ⟨i.len, fun j hj => (hb.cell i.lt).trans (i.v j hj), fun j hj => (hb.frozen i.lt).trans (i.f j hj)⟩
theorem QInv.set {W : World} {b : Nat} {v : List Int} (i : QInv W b v) (k : Nat) (hk : k < 16) (x : Int) : QInv (W.setCell ⟨b, k, none⟩ (.int .u32 x)) b (v.set k x) := by
  have hl := i.len
  refine ⟨by simpa using hl, fun j hj => ?_, fun j hj => by rw [World.frozen?_setCell]; exact i.f j hj⟩
  by_cases hjk : j = k
  · subst hjk
    have e : (v.set j x).getD j 0 = x := by simp [List.getD_eq_getElem?_getD, hl, hj]
    rw [e]
    exact World.cell?_setCell_same _ _ _ (i.v j hj)
  · have e : (v.set k x).getD j 0 = v.getD j 0 := by simp [List.getD_eq_getElem?_getD, List.getElem?_set, Ne.symm hjk]
    rw [e, ← i.v j hj]
    exact World.cell?_setCell_other _ _ _ _ (by first | (simp; done) | (simp; omega) | (intro e; cases e; exact hjk rfl))

set_option maxHeartbeats 4000000 in
theorem quarter_any (V cap a b c d : Nat) (v : List Int) (w : World) (ha : a < 16) (hb : b < 16) (hc : c < 16) (hd : d < 16) (hv : QInv w V v) :
    Calls Try.prog 16 #[.slice (some ⟨V, 0, none⟩) 16 cap, .int .i64 (a : Int), .int .i64 (b : Int), .int .i64 (c : Int), .int .i64 (d : Int)] w fun e w' => e = .returned (.tuple #[]) ∧ QInv w' V (qrL v a b c d) ∧ But V w w' := by
  have HD : Hid (qrL v a b c d = rolL (addL (rolL (addL (rolL (addL (rolL (addL v a b) d a 16) c d) b c 12) a b) d a 8) c d) b c 7) := Lib.hid rfl
  have HQ := Lib.hid hv
  have hbut := But.refl V w
  clear hv
  go_enter Try.func16, Try.ntmps16
  obtain ⟨W0, hW0⟩ : ∃ W0, W0 = w := ⟨_, rfl⟩
  have cx := HQ.out.v a ha; have cy := HQ.out.v b hb
  have HN : Hid (addL v a b = v.set a ((v.getD a 0 + v.getD b 0) % 4294967296)) := Lib.hid rfl
  generalize v.getD a 0 = x at *
  generalize v.getD b 0 = y at *
  go_wp2_with fail
  have q1 := cell_regrown cx; have q2 := cell_regrown cy
  refine wp_region_reads_tail 12 (by kernel_rfl) (by kernel_rfl) ?_
  simp only [List.take_succ_cons, List.take_zero, List.drop_succ_cons, List.drop_zero]
  repeat (first | go_big_quiet_step (fail) | quiet_step (fail))
  refine wpQuiet_nil ?_
  intro Y0 hY
  have hQ := HQ.out.step hY
  replace hbut := hbut.trans (But.of_below hY)
  have cz := hQ.v a ha
  have fz := hQ.f a ha
  have hQ2 := hQ.set a ha ((x + y) % 4294967296)
  rw [← HN.out] at hQ2
  replace HQ := Lib.hid hQ2
  replace hbut := hbut.trans (But.setCell V Y0 ⟨V, a, none⟩ (.int .u32 ((x + y) % 4294967296)) rfl)
  clear q1 q2 cx cy hY hQ hQ2 HN
  go_wp2_with fail
  clear cz fz
  generalize (Y0.setCell _ _) = X1 at *
  generalize hv1 : addL v a b = v1 at *
  clear hv1
  have cx := HQ.out.v d hd; have cy := HQ.out.v a ha
  have HN : Hid (rolL v1 d a 16 = v1.set d (rotl32 (bits .xor .u32 (v1.getD d 0) (v1.getD a 0)) 16)) := Lib.hid rfl
  generalize v1.getD d 0 = x at *
  generalize v1.getD a 0 = y at *
  go_wp2_with fail
  have q1 := cell_regrown cx; have q2 := cell_regrown cy
  refine wp_region_reads_tail 13 (by kernel_rfl) (by kernel_rfl) ?_
  simp only [List.take_succ_cons, List.take_zero, List.drop_succ_cons, List.drop_zero]
  repeat (first | go_big_quiet_step ((go_at_call 22; exact Calls.regrown_of (rolled_any _ _ _ (by omega) (by omega)))) | quiet_step ((go_at_call 22; exact Calls.regrown_of (rolled_any _ _ _ (by omega) (by omega)))))
  refine wpQuiet_nil ?_
  intro Y1 hY
  have hQ := HQ.out.step hY
  replace hbut := hbut.trans (But.of_below hY)
  have cz := hQ.v d hd
  have fz := hQ.f d hd
  have hQ2 := hQ.set d hd (rotl32 (bits .xor .u32 x y) 16)
  rw [← HN.out] at hQ2
  replace HQ := Lib.hid hQ2
  replace hbut := hbut.trans (But.setCell V Y1 ⟨V, d, none⟩ (.int .u32 (rotl32 (bits .xor .u32 x y) 16)) rfl)
  clear q1 q2 cx cy hY hQ hQ2 HN
  go_wp2_with fail
  clear cz fz
  generalize (Y1.setCell _ _) = X2 at *
  generalize hv2 : rolL v1 d a 16 = v2 at *
  clear hv2
  have cx := HQ.out.v c hc; have cy := HQ.out.v d hd
  have HN : Hid (addL v2 c d = v2.set c ((v2.getD c 0 + v2.getD d 0) % 4294967296)) := Lib.hid rfl
  generalize v2.getD c 0 = x at *
  generalize v2.getD d 0 = y at *
  go_wp2_with fail
  have q1 := cell_regrown cx; have q2 := cell_regrown cy
  refine wp_region_reads_tail 12 (by kernel_rfl) (by kernel_rfl) ?_
  simp only [List.take_succ_cons, List.take_zero, List.drop_succ_cons, List.drop_zero]
  repeat (first | go_big_quiet_step (fail) | quiet_step (fail))
  refine wpQuiet_nil ?_
  intro Y2 hY
  have hQ := HQ.out.step hY
  replace hbut := hbut.trans (But.of_below hY)
  have cz := hQ.v c hc
  have fz := hQ.f c hc
  have hQ2 := hQ.set c hc ((x + y) % 4294967296)
  rw [← HN.out] at hQ2
  replace HQ := Lib.hid hQ2
  replace hbut := hbut.trans (But.setCell V Y2 ⟨V, c, none⟩ (.int .u32 ((x + y) % 4294967296)) rfl)
  clear q1 q2 cx cy hY hQ hQ2 HN
  go_wp2_with fail
  clear cz fz
  generalize (Y2.setCell _ _) = X3 at *
  generalize hv3 : addL v2 c d = v3 at *
  clear hv3
  have cx := HQ.out.v b hb; have cy := HQ.out.v c hc
  have HN : Hid (rolL v3 b c 12 = v3.set b (rotl32 (bits .xor .u32 (v3.getD b 0) (v3.getD c 0)) 12)) := Lib.hid rfl
  generalize v3.getD b 0 = x at *
  generalize v3.getD c 0 = y at *
  go_wp2_with fail
  have q1 := cell_regrown cx; have q2 := cell_regrown cy
  refine wp_region_reads_tail 13 (by kernel_rfl) (by kernel_rfl) ?_
  simp only [List.take_succ_cons, List.take_zero, List.drop_succ_cons, List.drop_zero]
  repeat (first | go_big_quiet_step ((go_at_call 22; exact Calls.regrown_of (rolled_any _ _ _ (by omega) (by omega)))) | quiet_step ((go_at_call 22; exact Calls.regrown_of (rolled_any _ _ _ (by omega) (by omega)))))
  refine wpQuiet_nil ?_
  intro Y3 hY
  have hQ := HQ.out.step hY
  replace hbut := hbut.trans (But.of_below hY)
  have cz := hQ.v b hb
  have fz := hQ.f b hb
  have hQ2 := hQ.set b hb (rotl32 (bits .xor .u32 x y) 12)
  rw [← HN.out] at hQ2
  replace HQ := Lib.hid hQ2
  replace hbut := hbut.trans (But.setCell V Y3 ⟨V, b, none⟩ (.int .u32 (rotl32 (bits .xor .u32 x y) 12)) rfl)
  clear q1 q2 cx cy hY hQ hQ2 HN
  go_wp2_with fail
  clear cz fz
  generalize (Y3.setCell _ _) = X4 at *
  generalize hv4 : rolL v3 b c 12 = v4 at *
  clear hv4
  have cx := HQ.out.v a ha; have cy := HQ.out.v b hb
  have HN : Hid (addL v4 a b = v4.set a ((v4.getD a 0 + v4.getD b 0) % 4294967296)) := Lib.hid rfl
  generalize v4.getD a 0 = x at *
  generalize v4.getD b 0 = y at *
  go_wp2_with fail
  have q1 := cell_regrown cx; have q2 := cell_regrown cy
  refine wp_region_reads_tail 12 (by kernel_rfl) (by kernel_rfl) ?_
  simp only [List.take_succ_cons, List.take_zero, List.drop_succ_cons, List.drop_zero]
  repeat (first | go_big_quiet_step (fail) | quiet_step (fail))
  refine wpQuiet_nil ?_
  intro Y4 hY
  have hQ := HQ.out.step hY
  replace hbut := hbut.trans (But.of_below hY)
  have cz := hQ.v a ha
  have fz := hQ.f a ha
  have hQ2 := hQ.set a ha ((x + y) % 4294967296)
  rw [← HN.out] at hQ2
  replace HQ := Lib.hid hQ2
  replace hbut := hbut.trans (But.setCell V Y4 ⟨V, a, none⟩ (.int .u32 ((x + y) % 4294967296)) rfl)
  clear q1 q2 cx cy hY hQ hQ2 HN
  go_wp2_with fail
  clear cz fz
  generalize (Y4.setCell _ _) = X5 at *
  generalize hv5 : addL v4 a b = v5 at *
  clear hv5
  have cx := HQ.out.v d hd; have cy := HQ.out.v a ha
  have HN : Hid (rolL v5 d a 8 = v5.set d (rotl32 (bits .xor .u32 (v5.getD d 0) (v5.getD a 0)) 8)) := Lib.hid rfl
  generalize v5.getD d 0 = x at *
  generalize v5.getD a 0 = y at *
  go_wp2_with fail
  have q1 := cell_regrown cx; have q2 := cell_regrown cy
  refine wp_region_reads_tail 13 (by kernel_rfl) (by kernel_rfl) ?_
  simp only [List.take_succ_cons, List.take_zero, List.drop_succ_cons, List.drop_zero]
  repeat (first | go_big_quiet_step ((go_at_call 22; exact Calls.regrown_of (rolled_any _ _ _ (by omega) (by omega)))) | quiet_step ((go_at_call 22; exact Calls.regrown_of (rolled_any _ _ _ (by omega) (by omega)))))
  refine wpQuiet_nil ?_
  intro Y5 hY
  have hQ := HQ.out.step hY
  replace hbut := hbut.trans (But.of_below hY)
  have cz := hQ.v d hd
  have fz := hQ.f d hd
  have hQ2 := hQ.set d hd (rotl32 (bits .xor .u32 x y) 8)
  rw [← HN.out] at hQ2
  replace HQ := Lib.hid hQ2
  replace hbut := hbut.trans (But.setCell V Y5 ⟨V, d, none⟩ (.int .u32 (rotl32 (bits .xor .u32 x y) 8)) rfl)
  clear q1 q2 cx cy hY hQ hQ2 HN
  go_wp2_with fail
  clear cz fz
  generalize (Y5.setCell _ _) = X6 at *
  generalize hv6 : rolL v5 d a 8 = v6 at *
  clear hv6
  have cx := HQ.out.v c hc; have cy := HQ.out.v d hd
  have HN : Hid (addL v6 c d = v6.set c ((v6.getD c 0 + v6.getD d 0) % 4294967296)) := Lib.hid rfl
  generalize v6.getD c 0 = x at *
  generalize v6.getD d 0 = y at *
  go_wp2_with fail
  have q1 := cell_regrown cx; have q2 := cell_regrown cy
  refine wp_region_reads_tail 12 (by kernel_rfl) (by kernel_rfl) ?_
  simp only [List.take_succ_cons, List.take_zero, List.drop_succ_cons, List.drop_zero]
  repeat (first | go_big_quiet_step (fail) | quiet_step (fail))
  refine wpQuiet_nil ?_
  intro Y6 hY
  have hQ := HQ.out.step hY
  replace hbut := hbut.trans (But.of_below hY)
  have cz := hQ.v c hc
  have fz := hQ.f c hc
  have hQ2 := hQ.set c hc ((x + y) % 4294967296)
  rw [← HN.out] at hQ2
  replace HQ := Lib.hid hQ2
  replace hbut := hbut.trans (But.setCell V Y6 ⟨V, c, none⟩ (.int .u32 ((x + y) % 4294967296)) rfl)
  clear q1 q2 cx cy hY hQ hQ2 HN
  go_wp2_with fail
  clear cz fz
  generalize (Y6.setCell _ _) = X7 at *
  generalize hv7 : addL v6 c d = v7 at *
  clear hv7
  have cx := HQ.out.v b hb; have cy := HQ.out.v c hc
  have HN : Hid (rolL v7 b c 7 = v7.set b (rotl32 (bits .xor .u32 (v7.getD b 0) (v7.getD c 0)) 7)) := Lib.hid rfl
  generalize v7.getD b 0 = x at *
  generalize v7.getD c 0 = y at *
  go_wp2_with fail
  have q1 := cell_regrown cx; have q2 := cell_regrown cy
  refine wp_region_reads_tail 13 (by kernel_rfl) (by kernel_rfl) ?_
  simp only [List.take_succ_cons, List.take_zero, List.drop_succ_cons, List.drop_zero]
  repeat (first | go_big_quiet_step ((go_at_call 22; exact Calls.regrown_of (rolled_any _ _ _ (by omega) (by omega)))) | quiet_step ((go_at_call 22; exact Calls.regrown_of (rolled_any _ _ _ (by omega) (by omega)))))
  refine wpQuiet_nil ?_
  intro Y7 hY
  have hQ := HQ.out.step hY
  replace hbut := hbut.trans (But.of_below hY)
  have cz := hQ.v b hb
  have fz := hQ.f b hb
  have hQ2 := hQ.set b hb (rotl32 (bits .xor .u32 x y) 7)
  rw [← HN.out] at hQ2
  replace HQ := Lib.hid hQ2
  replace hbut := hbut.trans (But.setCell V Y7 ⟨V, b, none⟩ (.int .u32 (rotl32 (bits .xor .u32 x y) 7)) rfl)
  clear q1 q2 cx cy hY hQ hQ2 HN
  go_wp2_with fail
  clear cz fz
  generalize (Y7.setCell _ _) = X8 at *
  generalize hv8 : rolL v7 b c 7 = v8 at *
  clear hv8
  go_end0
  exact ⟨rfl, by rw [HD.out]; exact HQ.out, hbut⟩
end Go.Proofs.Ytnjeelfeaiakpaa
