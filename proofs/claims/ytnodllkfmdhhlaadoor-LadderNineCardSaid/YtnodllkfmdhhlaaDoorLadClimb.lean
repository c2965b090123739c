/- The program's ladder: what a scalar and a number come to. -/
import Derived.Test.YtnodllkfmdhhlaaDoorLadExch
import Derived.Test.YtnodllkfmdhhlaaDoorLadStep
import Derived.Test.YtnodllkfmdhhlaaDoorLadFns
namespace Go.Proofs.YtnodllkfmdhhlaaDoor
open Go.RowKit Go.Sort
set_option maxRecDepth 100000
set_option linter.unusedSimpArgs false
set_option linter.unusedVariables false

theorem exchQ_any (a b c d n a1 b1 c1 d1 : Nat) (w : World) (hq : (⟨a, b, c, d⟩ : Rung).ok) (hn : n = 0 ∨ n = 1) (hT : PrmQ w) (e : (⟨a, b, c, d⟩ : Rung).turn n = ⟨a1, b1, c1, d1⟩) :
    Calls Tryd.prog 26 #[.agg (uc (rl a b c d)), .agg (uc (limN 4 n))] w fun e w' => e = .returned (.agg (uc (rl a1 b1 c1 d1))) ∧ Below w.heap.size w w' := by
  obtain ⟨ha, hb, hc, hd⟩ := hq
  dsimp only at ha hb hc hd
  rcases hn with rfl | rfl
  · rw [turn_zero] at e
    injection e with e1 e2 e3 e4
    subst e1 e2 e3 e4
    exact exch_any a b c d 0 _ _ _ _ a b c d w ha hb hc hd (by decide) hT rfl rfl rfl rfl (exch_zero a ha _).1 (exch_zero b hb _).1 (exch_zero c hc _).2 (exch_zero d hd _).2
  · rw [turn_one] at e
    injection e with e1 e2 e3 e4
    subst e1 e2 e3 e4
    exact exch_any a b c d 1 _ _ _ _ c d a b w ha hb hc hd (by decide) hT rfl rfl rfl rfl (exch_one a c ha hc).1 (exch_one b d hb hd).1 (exch_one a c ha hc).2 (exch_one b d hb hd).2
theorem stepQ_any (a b c d u a1 b1 c1 d1 : Nat) (w : World) (hq : (⟨a, b, c, d⟩ : Rung).ok) (hu : u < pF) (hT : PrmQ w) (e : rungMid u ⟨a, b, c, d⟩ = ⟨a1, b1, c1, d1⟩) :
    Calls Tryd.prog 27 #[.agg (uc (rl a b c d)), .agg (uc (limN 4 u))] w fun e w' => e = .returned (.agg (uc (rl a1 b1 c1 d1))) ∧ Below w.heap.size w w' := by
  obtain ⟨ha, hb, hc, hd⟩ := hq
  dsimp only at ha hb hc hd
  injection e with e1 e2 e3 e4
  exact stepL_any a b c d u _ _ _ _ _ _ _ _ _ _ _ a1 _ _ b1 c1 _ d1 w ha hb hc hd hu hT rfl rfl rfl rfl rfl rfl rfl rfl rfl rfl rfl e1 rfl rfl e2 e3 rfl e4

set_option maxHeartbeats 8000000 in
theorem climbed_any (kl : List UInt8) (u : Nat) (w : World) (hk : kl.length = 32) (hu : u < pF) (hT : PrmQ w) :
    Calls Tryd.prog 12 #[.agg (bcells kl), .agg (uc (limN 4 u))] w fun e w' => e = .returned (.agg (uc (limN 4 (mulF (ladN u kl 255).a (invF (ladN u kl 255).b))))) ∧ Below w.heap.size w w' := by
  obtain ⟨hz, hi⟩ := zero_of_info infoF
  obtain ⟨hzr, hir⟩ := zero_of_info infoR
  have HT := Lib.hid hT
  have hTl := Lib.hid hT.lt
  have hb := below_new3 w (.cells (bcells kl) 39) (.cells (uc (limN 4 u)) 36) (.cells zeros4 36)
  have HK := Lib.hid (blk_old (o := .cells zeros4 36) (blk_old (o := .cells (uc (limN 4 u)) 36) (blk_new w (.cells (bcells kl) 39))))
  have HX := Lib.hid (blk_old (o := .cells zeros4 36) (blk_new2 w (.cells (bcells kl) 39) (.cells (uc (limN 4 u)) 36)))
  have HR := Lib.hid (blk_new3 w (.cells (bcells kl) 39) (.cells (uc (limN 4 u)) 36) (.cells zeros4 36))
  have I_u := Lib.hid (sizeF' u); have Z_u := Lib.hid (zerosF_size u); have O_u := Lib.hid (uc_one (limN 4 u))
  have I_1 := Lib.hid (sizeF' 1); have Z_1 := Lib.hid (zerosF_size 1); have O_1 := Lib.hid (uc_one (limN 4 1))
  have Ik := Lib.hid (sizeS kl hk)
  have C_1 : Hid (∀ W : World, Calls Tryd.prog 24 #[.int .i64 1] W fun e w' => e = .returned (.agg (uc (limN 4 1))) ∧ Below W.heap.size W w') := Lib.hid (fun W => smallPos_any 1 W (by decide))
  have CB := Lib.hid (fun (n : Nat) (hn : n < 255) (W : World) => bit_any kl n W hk hn)
  have CE := Lib.hid exchQ_any
  have CS := Lib.hid stepQ_any
  have HU := Lib.hid hu
  have HOK := Lib.hid (lad_ok u hu kl)
  clear hi hir hT hk hu
  go_enter Tryd.func12, Tryd.ntmps12
  go_wp2_with fail
  generalize (((w.alloc _).alloc _).alloc _) = W0 at *
  have hB := Lib.hid hb.size
  generalize hBB : w.heap.size = B at *
  have HBB := Lib.hid hBB
  clear hBB
  refine (C_1.out W0).mono ?_
  rintro e W1 ⟨rfl, bk⟩
  replace hb := hb.trans (bk.mono hB.out)
  replace hB := Lib.hid (Nat.le_trans hB.out bk.size)
  replace HK := Lib.hid (blk_below bk (blk_lt HK.out) HK.out)
  replace HX := Lib.hid (blk_below bk (blk_lt HX.out) HX.out)
  replace HR := Lib.hid (blk_below bk (blk_lt HR.out) HR.out)
  clear bk
  have HN := Lib.hid (blk_new W1 (.cells zeros4 36))
  have bn := below_new W1 (.cells zeros4 36)
  have q5 := Lib.hid (setRow_heap _ W1.heap.size _ (uc (limN 4 1)) _ _ HN.out)
  have hr5 := Lib.hid (blk_lt HR.out)
  go_upto_region 2 with (with_reducible refine wpList_store_row rfl 36 _ _ rfl W1.heap.size (uc (limN 4 1)) rfl rfl 36 _ HN.out I_1.out Z_1.out O_1.out ?_)
  have bk := below_setRow bn (Nat.le_refl _) (uc (limN 4 1))
  replace hb := hb.trans (bk.mono hB.out)
  replace hB := Lib.hid (Nat.le_trans hB.out bk.size)
  replace HK := Lib.hid (blk_below bk (blk_lt HK.out) HK.out)
  replace HX := Lib.hid (blk_below bk (blk_lt HX.out) HX.out)
  replace HR := Lib.hid (blk_below bk (blk_lt HR.out) HR.out)
  clear bk
  generalize (World.setRow (World.alloc _ _) _ _) = W2 at *
  generalize W1.heap.size = g5 at *
  clear bn HN C_1
  have HN := Lib.hid (blk_new W2 (.cells zeros16 53))
  have bn := below_new W2 (.cells zeros16 53)
  have q6 := Lib.hid (setRow_heap _ W2.heap.size _ (uc (rl 1 0 u 1)) _ _ HN.out)
  have hr6 := Lib.hid (blk_lt HR.out)
  go_wp2_with (first
   | (with_reducible refine wpList_load_row rfl 36 _ rfl g5 rfl 36 _ (0, 0) _ q5.out Tryd.underlying36 rfl I_1.out ?_)
   | (with_reducible refine wpList_load_row rfl 36 _ rfl (B + 1) rfl 36 _ (0, 0) _ HX.out Tryd.underlying36 rfl I_u.out ?_)
   | (with_reducible refine wpList_build_rung0 rfl _ _ _ rfl 1 u 1 rfl rfl rfl ?_)
   | (with_reducible refine wpList_store_row rfl 53 _ _ rfl W2.heap.size (uc (rl 1 0 u 1)) rfl rfl 53 _ HN.out (sizeR _ _ _ _) (zerosR_size _ _ _ _) (uc_one _) ?_))
  have bk := below_setRow bn (Nat.le_refl _) (uc (rl 1 0 u 1))
  replace hb := hb.trans (bk.mono hB.out)
  replace hB := Lib.hid (Nat.le_trans hB.out bk.size)
  replace HK := Lib.hid (blk_below bk (blk_lt HK.out) HK.out)
  replace HX := Lib.hid (blk_below bk (blk_lt HX.out) HX.out)
  replace HR := Lib.hid (blk_below bk (blk_lt HR.out) HR.out)
  clear bk
  generalize (World.setRow (World.alloc _ _) _ _) = W3 at *
  generalize W2.heap.size = g6 at *
  clear bn HN q5 hr5
  go_loopw [7] (fun iv wr => ∃ n : Nat, n ≤ 255 ∧ iv = .int .i64 (254 - (n : Int)) ∧ wr.heap[B]? = some (.cells (bcells kl) 39) ∧ wr.heap[B + 1]? = some (.cells (uc (limN 4 u)) 36) ∧ wr.heap[B + 1 + 1]? = some (.cells zeros4 36) ∧ wr.heap[g6]? = some (.cells (uc (rl (ladN u kl n).a (ladN u kl n).b (ladN u kl n).c (ladN u kl n).d)) 53) ∧ Below B w wr) (fun iv _ => (intOf iv + 1).toNat)
  case atStart => exact ⟨0, by omega, rfl, HK.out, HX.out, HR.out, q6.out, hb⟩
  case round =>
    clear HK HX HR q6 hb hB
    obtain ⟨n, hn, rfl, hvk, hvx, hvr, hvq, hb⟩ := hrel
    have HK := Lib.hid hvk; have HX := Lib.hid hvx; have HR := Lib.hid hvr; have HQ := Lib.hid hvq
    clear hvk hvx hvr hvq
    have hB : Hid (B ≤ wr.heap.size) := Lib.hid (by have := blk_lt HK.out; omega)
    have HP := Lib.hid (HT.out.below hb hTl.out)
    by_cases hlt : n < 255
    · obtain ⟨i, hi⟩ : ∃ i, i = 254 - n := ⟨_, rfl⟩
      have hii : (254 : Int) - (n : Int) = (i : Int) := by omega
      have hd : decide ((0 : Int) ≤ (i : Int)) = true := by simp
      have hi254 : i < 255 := by omega
      have HST : Hid (ladN u kl (n + 1) = rungStep u (bitL kl i) (ladN u kl n)) := Lib.hid (by rw [ladN, hi])
      have hok := HOK.out n
      have hbt := bitL_cases kl i
      have CBi := Lib.hid (CB.out i hi254)
      rw [hii]
      generalize ladN u kl n = q0 at *
      obtain ⟨a, b, c, d⟩ := q0
      dsimp only at HQ
      generalize bitL kl i = t at *
      obtain ⟨⟨a1, b1, c1, d1⟩, e1⟩ : ∃ q, (⟨a, b, c, d⟩ : Rung).turn t = q := ⟨_, rfl⟩
      obtain ⟨⟨a2, b2, c2, d2⟩, e2⟩ : ∃ q, rungMid u ⟨a1, b1, c1, d1⟩ = q := ⟨_, rfl⟩
      obtain ⟨⟨a3, b3, c3, d3⟩, e3⟩ : ∃ q, (⟨a2, b2, c2, d2⟩ : Rung).turn t = q := ⟨_, rfl⟩
      have hok1 : (⟨a1, b1, c1, d1⟩ : Rung).ok := e1 ▸ turn_ok t _ hok
      have hok2 : (⟨a2, b2, c2, d2⟩ : Rung).ok := e2 ▸ mid_ok u _
      have HS3 : Hid (ladN u kl (n + 1) = ⟨a3, b3, c3, d3⟩) := Lib.hid (by rw [HST.out, rungStep, e1, e2, e3])
      have C_1 := Lib.hid (fun (W : World) (hW : PrmQ W) => CE.out a b c d t a1 b1 c1 d1 W hok hbt hW e1)
      have C_2 := Lib.hid (fun (W : World) (hW : PrmQ W) => CS.out a1 b1 c1 d1 u a2 b2 c2 d2 W hok1 HU.out hW e2)
      have C_3 := Lib.hid (fun (W : World) (hW : PrmQ W) => CE.out a2 b2 c2 d2 t a3 b3 c3 d3 W hok2 hbt hW e3)
      have I_t := Lib.hid (sizeF' t); have Z_t := Lib.hid (zerosF_size t); have O_t := Lib.hid (uc_one (limN 4 t))
      clear e1 e2 e3 hok hok1 hok2 hbt HST hi CE CS CB HOK
      go_wp2_with (with_reducible refine wpList_load_row rfl 39 _ rfl B rfl 39 _ (0, 0) _ HK.out Tryd.underlying39 rfl Ik.out ?_)
      refine (CBi.out wr).mono ?_
      rintro e V1 ⟨rfl, bk⟩
      replace hb := hb.trans (bk.mono hB.out)
      replace HP := Lib.hid (HP.out.step bk)
      replace hB := Lib.hid (Nat.le_trans hB.out bk.size)
      replace HK := Lib.hid (blk_below bk (blk_lt HK.out) HK.out)
      replace HX := Lib.hid (blk_below bk (blk_lt HX.out) HX.out)
      replace HR := Lib.hid (blk_below bk (blk_lt HR.out) HR.out)
      replace HQ := Lib.hid (blk_below bk (blk_lt HQ.out) HQ.out)
      clear bk
      have HN := Lib.hid (blk_new V1 (.cells zeros4 36))
      have bn := below_new V1 (.cells zeros4 36)
      have H8 := Lib.hid (setRow_heap _ V1.heap.size _ (uc (limN 4 t)) _ _ HN.out)
      go_wp2_with (with_reducible refine wpList_store_row rfl 36 _ _ rfl V1.heap.size (uc (limN 4 t)) rfl rfl 36 _ HN.out I_t.out Z_t.out O_t.out ?_)
      have bk := below_setRow bn (Nat.le_refl _) (uc (limN 4 t))
      replace hb := hb.trans (bk.mono hB.out)
      replace HP := Lib.hid (HP.out.step bk)
      replace hB := Lib.hid (Nat.le_trans hB.out bk.size)
      replace HK := Lib.hid (blk_below bk (blk_lt HK.out) HK.out)
      replace HX := Lib.hid (blk_below bk (blk_lt HX.out) HX.out)
      replace HR := Lib.hid (blk_below bk (blk_lt HR.out) HR.out)
      replace HQ := Lib.hid (blk_below bk (blk_lt HQ.out) HQ.out)
      clear bk
      generalize (World.setRow (World.alloc _ _) _ _) = V2 at *
      generalize V1.heap.size = g8 at *
      clear bn HN CBi
      try simp only [Act.put]
      refine wp_region_fresh 7 34 [.val (.agg (uc (rl a b c d))) [(6, .pointer (some ⟨g6, 0, none⟩))], .val (.agg (uc (limN 4 t))) [(8, .pointer (some ⟨g8, 0, none⟩))], .val (.agg (uc (rl a1 b1 c1 d1))) [(21, .agg (uc (rl a b c d))), (22, .agg (uc (limN 4 t)))], .val (.agg (uc (limN 4 u))) [(3, .pointer (some ⟨B + 1, 0, none⟩))], .val (.agg (uc (rl a2 b2 c2 d2))) [(23, .agg (uc (rl a1 b1 c1 d1))), (24, .agg (uc (limN 4 u)))], .val (.agg (uc (limN 4 t))) [(8, .pointer (some ⟨g8, 0, none⟩))], .val (.agg (uc (rl a3 b3 c3 d3))) [(25, .agg (uc (rl a2 b2 c2 d2))), (26, .agg (uc (limN 4 t)))]] (by kernel_rfl) (by kernel_rfl) rfl ?_ ?_ ?_
      · simp only [List.take_succ_cons, List.take_zero, headObl, specObl, HeadSpec.val, HeadSpec.fresh, and_true]
        refine ⟨?_, ?_, ?_, ?_, ?_, ?_, ?_⟩
        · intro act w hb h
          have e0 := h (6, .pointer (some ⟨g6, 0, none⟩)) (by simp)
          exact sQuiet_load_row 53 (.tmp 6) rfl (g6) e0 53 _ (0, 0) _ (blk_below hb (blk_lt HQ.out) HQ.out) Tryd.underlying53 rfl (sizeR _ _ _ _)
        · intro act w hb h
          have e0 := h (8, .pointer (some ⟨g8, 0, none⟩)) (by simp)
          exact sQuiet_load_row 36 (.tmp 8) rfl (g8) e0 36 _ (0, 0) _ (blk_below hb (blk_lt H8.out) H8.out) Tryd.underlying36 rfl I_t.out
        · intro act w hb h
          have e0 := h (21, .agg (uc (rl a b c d))) (by simp)
          have e1 := h (22, .agg (uc (limN 4 t))) (by simp)
          simp only [Array.getD_eq_getD_getElem?] at e0 e1
          simp [go_sem, e0, e1, sQuiet]
          exact C_1.out w (HP.out.step hb)
        · intro act w hb h
          have e0 := h (3, .pointer (some ⟨B + 1, 0, none⟩)) (by simp)
          exact sQuiet_load_row 36 (.tmp 3) rfl (B + 1) e0 36 _ (0, 0) _ (blk_below hb (blk_lt HX.out) HX.out) Tryd.underlying36 rfl I_u.out
        · intro act w hb h
          have e0 := h (23, .agg (uc (rl a1 b1 c1 d1))) (by simp)
          have e1 := h (24, .agg (uc (limN 4 u))) (by simp)
          simp only [Array.getD_eq_getD_getElem?] at e0 e1
          simp [go_sem, e0, e1, sQuiet]
          exact C_2.out w (HP.out.step hb)
        · intro act w hb h
          have e0 := h (8, .pointer (some ⟨g8, 0, none⟩)) (by simp)
          exact sQuiet_load_row 36 (.tmp 8) rfl (g8) e0 36 _ (0, 0) _ (blk_below hb (blk_lt H8.out) H8.out) Tryd.underlying36 rfl I_t.out
        · intro act w hb h
          have e0 := h (25, .agg (uc (rl a2 b2 c2 d2))) (by simp)
          have e1 := h (26, .agg (uc (limN 4 t))) (by simp)
          simp only [Array.getD_eq_getD_getElem?] at e0 e1
          simp [go_sem, e0, e1, sQuiet]
          exact C_3.out w (HP.out.step hb)
      · simp [headReads, headPut, specV, HeadSpec.val, HeadSpec.fresh, Act.put]
      · simp only [List.take_succ_cons, List.take_zero, List.drop_succ_cons, List.drop_zero, headEnd, HeadSpec.val, HeadSpec.fresh, Act.put, List.setIfInBounds_toArray, List.set_cons_succ, List.set_cons_zero]
        intro v1 hv1 hgs
        have HN := Lib.hid (blk_below hv1 (blk_lt HQ.out) HQ.out)
        have HNN := Lib.hid (setRow_heap v1 g6 _ (uc (rl a3 b3 c3 d3)) _ _ HN.out)
        have hb2 : Below B w (v1.setRow g6 (uc (rl a3 b3 c3 d3))) := below_setRow (hb.trans (hv1.mono hB.out)) (by have := hr6.out; omega) _
        have kHK := Lib.hid ((setRow_other v1 g6 (B) (uc (rl a3 b3 c3 d3)) (by have := hr6.out; omega)).trans (blk_below hv1 (blk_lt HK.out) HK.out))
        have kHX := Lib.hid ((setRow_other v1 g6 (B + 1) (uc (rl a3 b3 c3 d3)) (by have := hr6.out; omega)).trans (blk_below hv1 (blk_lt HX.out) HX.out))
        have kHR := Lib.hid ((setRow_other v1 g6 (B + 1 + 1) (uc (rl a3 b3 c3 d3)) (by have := hr6.out; omega)).trans (blk_below hv1 (blk_lt HR.out) HR.out))
        clear hgs hv1 hb H8 HK HX HR HQ C_1 C_2 C_3 HP hB
        go_wp2_with (with_reducible refine wpList_store_row rfl 53 _ _ rfl g6 (uc (rl a3 b3 c3 d3)) rfl rfl 53 _ HN.out (sizeR _ _ _ _) ((uc_size _).trans ((rl_length _ _ _ _).trans ((rl_length _ _ _ _).symm.trans (uc_size _).symm))) (uc_one _) ?_)
        go_roundw
        case rel => exact ⟨n + 1, by omega, by go_num, kHK.out, kHX.out, kHR.out, by rw [HS3.out]; exact HNN.out, hb2⟩
        case measure => simp [intOf] <;> omega
    · have hd : decide ((0 : Int) ≤ (254 : Int) - (n : Int)) = false := by simp; omega
      obtain rfl : n = 255 := by omega
      have hok := HOK.out 255
      obtain ⟨⟨a, b, c, d⟩, hq0⟩ : ∃ q, ladN u kl 255 = q := ⟨_, rfl⟩
      rw [hq0] at HQ hok
      have HQ0 := Lib.hid hq0
      obtain ⟨r, hr⟩ : ∃ r, mulF a (invF b) = r := ⟨_, rfl⟩
      have HRR : Hid (mulF (ladN u kl 255).a (invF (ladN u kl 255).b) = r) := Lib.hid (by rw [hq0]; exact hr)
      have hl_a : a < pF := hok.1
      have hl_b : b < pF := hok.2.1
      clear hok HOK CB CE CS hq0
      dsimp only at HQ
      have C_i := Lib.hid (fun (W : World) => invF_any b W hl_b)
      have hl_v : invF b < pF := powF_lt _ _
      generalize invF b = v at *
      have C_m := Lib.hid (fun (W : World) => mulF_any a v W hl_a hl_v)
      rw [hr] at C_m
      clear hr hl_a hl_b hl_v
      have I_r := Lib.hid (sizeF' r); have Z_r := Lib.hid (zerosF_size r); have O_r := Lib.hid (uc_one (limN 4 r))
      go_wp2_with fail
      try simp only [Act.put]
      refine wp_region_fresh 6 34 [.val (.pointer (some ⟨g6, 0, none⟩)) [(6, .pointer (some ⟨g6, 0, none⟩))], .val (.agg (uc (limN 4 a))) [(28, .pointer (some ⟨g6, 0, none⟩))], .val (.pointer (some ⟨g6, 4, none⟩)) [(6, .pointer (some ⟨g6, 0, none⟩))], .val (.agg (uc (limN 4 b))) [(30, .pointer (some ⟨g6, 4, none⟩))], .val (.agg (uc (limN 4 v))) [(31, .agg (uc (limN 4 b)))], .val (.agg (uc (limN 4 r))) [(29, .agg (uc (limN 4 a))), (32, .agg (uc (limN 4 v)))]] (by kernel_rfl) (by kernel_rfl) rfl ?_ ?_ ?_
      · simp only [List.take_succ_cons, List.take_zero, headObl, specObl, HeadSpec.val, HeadSpec.fresh, and_true]
        refine ⟨?_, ?_, ?_, ?_, ?_, ?_⟩
        · intro act w hb h
          have e0 := h (6, .pointer (some ⟨g6, 0, none⟩)) (by simp)
          simp only [Array.getD_eq_getD_getElem?] at e0
          simp [go_sem, e0, sQuiet]
        · intro act w hb h
          have e0 := h (28, .pointer (some ⟨g6, 0, none⟩)) (by simp)
          exact sQuiet_load_num (.tmp 28) rfl (g6) 0 e0 53 _ _ (0, 0) (blk_below hb (blk_lt HQ.out) HQ.out) (limN_length _ _) (rl_0 _ _ _ _)
        · intro act w hb h
          have e0 := h (6, .pointer (some ⟨g6, 0, none⟩)) (by simp)
          simp only [Array.getD_eq_getD_getElem?] at e0
          simp [go_sem, e0, sQuiet]
        · intro act w hb h
          have e0 := h (30, .pointer (some ⟨g6, 4, none⟩)) (by simp)
          exact sQuiet_load_num (.tmp 30) rfl (g6) 4 e0 53 _ _ (0, 0) (blk_below hb (blk_lt HQ.out) HQ.out) (limN_length _ _) (rl_1 _ _ _ _)
        · intro act w hb h
          have e0 := h (31, .agg (uc (limN 4 b))) (by simp)
          simp only [Array.getD_eq_getD_getElem?] at e0
          simp [go_sem, e0, sQuiet]
          exact C_i.out w
        · intro act w hb h
          have e0 := h (29, .agg (uc (limN 4 a))) (by simp)
          have e1 := h (32, .agg (uc (limN 4 v))) (by simp)
          simp only [Array.getD_eq_getD_getElem?] at e0 e1
          simp [go_sem, e0, e1, sQuiet]
          exact C_m.out w
      · simp [headReads, headPut, specV, HeadSpec.val, HeadSpec.fresh, Act.put]
      · simp only [List.take_succ_cons, List.take_zero, List.drop_succ_cons, List.drop_zero, headEnd, HeadSpec.val, HeadSpec.fresh, Act.put, List.setIfInBounds_toArray, List.set_cons_succ, List.set_cons_zero]
        intro v1 hv1 hgs
        have HN := Lib.hid (blk_below hv1 (blk_lt HR.out) HR.out)
        have HNN := Lib.hid (setRow_heap v1 (B + 1 + 1) _ (uc (limN 4 r)) _ _ HN.out)
        have hb2 : Below B w (v1.setRow (B + 1 + 1) (uc (limN 4 r))) := below_setRow (hb.trans (hv1.mono hB.out)) (by omega) _
        clear hgs hv1 hb HK HX HR HQ C_i C_m HP hB
        go_wp2_with (with_reducible refine wpList_store_row rfl 36 _ _ rfl (B + 1 + 1) (uc (limN 4 r)) rfl rfl 36 _ HN.out I_r.out Z_r.out O_r.out ?_)
        exact bodyPost_ret (v := .agg (uc (limN 4 r))) (results_cell_row (by rfl) _ _ (B + 1 + 1) 36 _ (0, 0) _ rfl HNN.out Tryd.underlying36 rfl I_r.out) rfl ⟨by rw [HRR.out], by rw [HBB.out]; exact hb2⟩
end Go.Proofs.YtnodllkfmdhhlaaDoor
