/- The reference's Mul. -/
import Derived.Test.YtcpdehfmlmmgiaaDoorPrSum
namespace Go.Proofs.YtcpdehfmlmmgiaaDoor
open Go.RowKit Go.Sort
set_option maxRecDepth 100000
set_option linter.unusedSimpArgs false
set_option linter.unusedVariables false

theorem and_1p (y : Nat) (h : y < 256) : bits .and .u8 (y : Int) 1 = ((y % 2 : Nat) : Int) := by
  have h1 : (BitVec.ofInt 8 1).toNat = 2 ^ 1 - 1 := by decide
  have key : (BitVec.ofInt 8 (y : Int) &&& BitVec.ofInt 8 1).toNat = ((y : Int) % ((2 ^ 8 : Nat) : Int)).toNat % 2 ^ 1 := by
    rw [BitVec.toNat_and, BitVec.toNat_ofInt, h1, Nat.and_two_pow_sub_one_eq_mod]
  show IntKind.u8.wrap ((BitVec.ofInt 8 (y : Int) &&& BitVec.ofInt 8 1).toNat : Nat) = _
  rw [key, IntKind.wrap_u8]
  omega
theorem bitP_u8 (l : List UInt8) (i : Nat) : bits .and .u8 (((l.getD (i / 8) 0).toNat : Int) / 2 ^ (i % 8)) 1 = ((bitP l i : Nat) : Int) := by
  have h : (((l.getD (i / 8) 0).toNat : Int) / 2 ^ (i % 8)) = (((l.getD (i / 8) 0).toNat / 2 ^ (i % 8) : Nat) : Int) := by simp
  rw [h, and_1p _ (Nat.lt_of_le_of_lt (Nat.div_le_self _ _) (UInt8.toNat_lt _))]
  rfl

set_option maxHeartbeats 4000000 in
theorem rmulOk_any (vp : Value) (p : PtN) (s : ByteArray) (w : World) (hp : p.Ok) (h1 : PtAt w vp p) (hs : s.size = 32) :
    Calls Tryd.prog 21 #[vp, .string s] w fun e w' => (∃ d', e = .returned (.tuple #[d', .int .i64 0]) ∧ PtAt w' d' (mulP p s.data.toList 256)) ∧ Below w.heap.size w w' := by
  obtain ⟨hz, hi⟩ := zero_of_info infoR
  have hd : ((s.size : Int) != 32) = false := by simp [hs]
  obtain ⟨a1, b1, c1, d1, rfl⟩ := h1.four
  have hb := below_new2 w (.cells #[a1, b1, c1, d1] 34) (.cells zeroR 34)
  have HA := Lib.hid (blk_old (o := .cells zeroR 34) (blk_new w (.cells #[a1, b1, c1, d1] 34)))
  have HR := Lib.hid (blk_new2 w (.cells #[a1, b1, c1, d1] 34) (.cells zeroR 34))
  have HP := Lib.hid (h1.step hb)
  have HS := Lib.hid hs
  have C1 := Lib.hid (fun W => rtwo_any W)
  have C2 := Lib.hid (fun W => rzero_any W)
  have C3 := Lib.hid (fun v k m W g1 g3 => rtog_any v v k (mulP p s.data.toList m) (mulP p s.data.toList m) W (mulP_ok _ _ _) (mulP_ok _ _ _) g1 g1 g3)
  have C4 := Lib.hid (fun v k q W (hq : q.Ok) g1 g2 g3 => rtog_any v (.agg #[a1, b1, c1, d1]) k q p W hq hp g1 g2 g3)
  have S1 := Lib.hid (sizeR a1 b1 c1 d1)
  have HM := Lib.hid (fun m => show mulP p s.data.toList (m + 1) = if bitP s.data.toList (255 - m) = 1 then sumP (sumP (mulP p s.data.toList m) (mulP p s.data.toList m)) p else sumP (mulP p s.data.toList m) (mulP p s.data.toList m) from rfl)
  have HBit := Lib.hid (fun i => bitP_u8 s.data.toList i)
  have HB2 := Lib.hid (fun i => bitP_two s.data.toList i)
  clear hi h1 hp hs
  go_enter Tryd.func21, Tryd.ntmps21
  go_wp2_with fail
  clear hz
  generalize ((w.alloc _).alloc _) = W0 at *
  generalize hBB : w.heap.size = B at *
  have HBB := Lib.hid hBB
  clear hBB hd
  refine (C1.out W0).mono ?_
  rintro e W1 ⟨⟨vk, rfl, hk⟩, bk⟩
  have HK := Lib.hid hk
  replace HP := Lib.hid (HP.out.step bk)
  replace hb := hb.trans (bk.mono (Nat.le_of_lt (blk_lt HA.out)))
  replace HA := Lib.hid (blk_below bk (blk_lt HA.out) HA.out)
  replace HR := Lib.hid (blk_below bk (blk_lt HR.out) HR.out)
  clear hk bk C1
  go_wp2_with fail
  refine (C2.out W1).mono ?_
  rintro e W2 ⟨⟨vo, rfl, ho⟩, bk⟩
  replace HK := Lib.hid (HK.out.step bk)
  replace HP := Lib.hid (HP.out.step bk)
  replace hb := hb.trans (bk.mono (Nat.le_of_lt (blk_lt HA.out)))
  replace HA := Lib.hid (blk_below bk (blk_lt HA.out) HA.out)
  replace HR := Lib.hid (blk_below bk (blk_lt HR.out) HR.out)
  clear bk C2
  obtain ⟨x0, y0, z0, t0, rfl⟩ := ho.four
  have S0 := Lib.hid (sizeR x0 y0 z0 t0); have O0 := Lib.hid (zeroR_size x0 y0 z0 t0); have N0 := Lib.hid ho.one
  obtain ⟨hz, hi⟩ := zero_of_info infoR
  clear hi
  have HO := Lib.hid ho
  clear ho
  have HN := Lib.hid (blk_new W2 (.cells zeroR 34))
  go_wp2_with (with_reducible refine wpList_store_row rfl 34 _ _ rfl W2.heap.size #[x0, y0, z0, t0] rfl rfl 34 _ HN.out S0.out O0.out N0.out ?_)
  have hbM : Below W2.heap.size W2 ((W2.alloc (.cells zeroR 34)).setRow W2.heap.size #[x0, y0, z0, t0]) := below_setRow (below_new W2 _) (Nat.le_refl _) _
  have HMr := Lib.hid (setRow_heap _ W2.heap.size _ #[x0, y0, z0, t0] _ _ HN.out)
  replace HK := Lib.hid (HK.out.step hbM)
  replace HP := Lib.hid (HP.out.step hbM)
  replace HO := Lib.hid (HO.out.step hbM)
  have hBM : B + 1 < W2.heap.size := blk_lt HR.out
  replace hb := hb.trans (hbM.mono (by omega))
  replace HA := Lib.hid (blk_below hbM (blk_lt HA.out) HA.out)
  replace HR := Lib.hid (blk_below hbM (blk_lt HR.out) HR.out)
  clear hbM HN S0 O0 N0 hz
  generalize (W2.alloc (.cells zeroR 34)).setRow W2.heap.size #[x0, y0, z0, t0] = V0 at *
  generalize W2.heap.size = M at *
  go_loopw [8] (fun iv wr => ∃ i : Nat, i ≤ 256 ∧ iv = .int .i64 ((i : Int) - 1) ∧ (∃ x y z t, wr.heap[M]? = some (.cells #[x, y, z, t] 34) ∧ PtAt wr (.agg #[x, y, z, t]) (mulP p s.data.toList (256 - i))) ∧ PtAt wr (.agg #[a1, b1, c1, d1]) p ∧ DigAt wr vk (digN twoF) ∧ wr.heap[B]? = some (.cells #[a1, b1, c1, d1] 34) ∧ wr.heap[B + 1]? = some (.cells zeroR 34) ∧ Below B w wr) (fun iv _ => (intOf iv + 1).toNat)
  case atStart => exact ⟨256, by omega, rfl, ⟨x0, y0, z0, t0, HMr.out, HO.out⟩, HP.out, HK.out, HA.out, HR.out, hb⟩
  case round =>
    clear HMr HO HP HK HA HR hb
    obtain ⟨i, hi, rfl, ⟨x, y, z, t, hm, ho⟩, hp, hk, ha, hr, hb⟩ := hrel
    have HMr := Lib.hid hm; have HO := Lib.hid ho; have HP := Lib.hid hp; have HK := Lib.hid hk; have HA := Lib.hid ha; have HR := Lib.hid hr
    clear hm ho hp hk ha hr
    have SO := Lib.hid (sizeR x y z t)
    by_cases hi0 : i = 0
    · subst hi0
      have hd : decide ((0 : Int) ≤ ((0 : Nat) : Int) - 1) = false := by decide
      have OO := Lib.hid (zeroR_size x y z t); have NO := Lib.hid HO.out.one
      have H6 := Lib.hid (HO.out.rowed HR.out ⟨_, _, _, rfl⟩ #[x, y, z, t])
      go_wp2_with (first
        | (with_reducible refine wpList_load_row rfl 34 _ rfl M rfl 34 _ (0, 0) _ HMr.out Tryd.underlying34 rfl SO.out ?_)
        | (with_reducible refine wpList_store_row rfl 34 _ _ rfl (B + 1) #[x, y, z, t] rfl rfl 34 _ HR.out SO.out OO.out NO.out ?_))
      exact bodyPost_ret (results_row_tmpF (by rfl) _ _ (B + 1) 34 _ (0, 0) _ rfl (setRow_heap _ _ _ _ _ _ HR.out) Tryd.underlying34 rfl SO.out) rfl ⟨⟨_, rfl, H6.out⟩, by rw [HBB.out]; exact below_setRow hb (by omega) _⟩
    · obtain ⟨j, rfl⟩ : ∃ j, i = j + 1 := ⟨i - 1, by omega⟩
      have hcast : ((j + 1 : Nat) : Int) - 1 = (j : Int) := by omega
      rw [hcast]
      have hd : decide ((0 : Int) ≤ (j : Int)) = true := by simp
      have hj : j < 256 := by omega
      have hms := HM.out (256 - (j + 1))
      rw [show 256 - (j + 1) + 1 = 256 - j by omega, show 255 - (256 - (j + 1)) = j by omega] at hms
      have HMS := Lib.hid hms
      have hin : j / 8 < s.size := by rw [HS.out]; omega
      have hbit := HBit.out j
      rw [getDF_byte s _ hin] at hbit
      have hb2 := HB2.out j
      have C3' := Lib.hid (fun W g1 g3 => C3.out (.agg #[x, y, z, t]) vk (256 - (j + 1)) W g1 g3)
      have hok := Lib.hid (sumP_ok (mulP p s.data.toList (256 - (j + 1))) (mulP p s.data.toList (256 - (j + 1))))
      generalize mulP p s.data.toList (256 - (j + 1)) = o at *
      generalize sumP o o = o2 at *
      generalize bitP s.data.toList j = bt at *
      have e1 : ((j : Int) / 8).toNat = j / 8 := by omega
      have e2 : ((j : Int) % 8).toNat = j % 8 := by omega
      clear hms hcast hi
      go_wp2_with (with_reducible refine wpList_load_row rfl 34 _ rfl M rfl 34 _ (0, 0) _ HMr.out Tryd.underlying34 rfl SO.out ?_)
      refine (C3'.out wr HO.out HK.out).mono ?_
      rintro e W3 ⟨⟨v3, rfl, h3⟩, bk⟩
      obtain ⟨x3, y3, z3, t3, rfl⟩ := h3.four
      have hfir := HO.out.first
      have HM3 := Lib.hid (blk_below bk (blk_lt HMr.out) HMr.out)
      have S3 := Lib.hid (sizeR x3 y3 z3 t3); have N3 := Lib.hid h3.one; have O3 : Hid ((#[x, y, z, t] : Array Value).size = (#[x3, y3, z3, t3] : Array Value).size) := Lib.hid rfl
      have HO3 := Lib.hid (h3.rowed HM3.out hfir #[x3, y3, z3, t3])
      have HP3 := Lib.hid ((HP.out.step bk).rowed HM3.out hfir #[x3, y3, z3, t3])
      have HK3 := Lib.hid ((HK.out.step bk).rowed HM3.out hfir #[x3, y3, z3, t3])
      have HA3 : Hid ((W3.setRow M #[x3, y3, z3, t3]).heap[B]? = some (.cells #[a1, b1, c1, d1] 34)) := Lib.hid (by rw [setRow_other _ _ _ _ (by omega)]; exact blk_below bk (blk_lt HA.out) HA.out)
      have HR3 : Hid ((W3.setRow M #[x3, y3, z3, t3]).heap[B + 1]? = some (.cells zeroR 34)) := Lib.hid (by rw [setRow_other _ _ _ _ (by omega)]; exact blk_below bk (blk_lt HR.out) HR.out)
      have hb3 : Below B w (W3.setRow M #[x3, y3, z3, t3]) := below_setRow (hb.trans (bk.mono (Nat.le_of_lt (blk_lt HA.out)))) (by omega) _
      have HMq := Lib.hid (setRow_heap W3 M _ #[x3, y3, z3, t3] _ _ HM3.out)
      clear HMr HO HP HK HA HR hb bk h3 hfir C3'
      rcases hb2 with rfl | rfl
      · rw [if_neg (by decide)] at HMS
        rw [← HMS.out] at HO3
        have hbit : bits .and .u8 ((s[j / 8].toNat : Int) / 2 ^ (j % 8)) 1 = 0 := hbit
        go_wp2_with (with_reducible refine wpList_store_row rfl 34 _ _ rfl M #[x3, y3, z3, t3] rfl rfl 34 _ HM3.out S3.out O3.out N3.out ?_)
        go_roundw
        case rel => exact ⟨j, by omega, by go_num, ⟨x3, y3, z3, t3, HMq.out, HO3.out⟩, HP3.out, HK3.out, HA3.out, HR3.out, hb3⟩
        case measure => simp [intOf] <;> omega
      · rw [if_pos rfl] at HMS
        have hbit : bits .and .u8 ((s[j / 8].toNat : Int) / 2 ^ (j % 8)) 1 = 1 := hbit
        have C5 := Lib.hid (fun W g1 g2 g3 => C4.out (.agg #[x3, y3, z3, t3]) vk o2 W hok.out g1 g2 g3)
        rw [← HMS.out] at C5
        have S1' := S1
        go_wp2_with (first
          | (with_reducible refine wpList_store_row rfl 34 _ _ rfl M #[x3, y3, z3, t3] rfl rfl 34 _ HM3.out S3.out O3.out N3.out ?_)
          | (with_reducible refine wpList_load_row rfl 34 _ rfl M rfl 34 _ (0, 0) _ HMq.out Tryd.underlying34 rfl S3.out ?_)
          | (with_reducible refine wpList_load_row rfl 34 _ rfl B rfl 34 _ (0, 0) _ HA3.out Tryd.underlying34 rfl S1.out ?_))
        clear HM3 O3 N3
        generalize W3.setRow M #[x3, y3, z3, t3] = V3 at *
        refine (C5.out V3 HO3.out HP3.out HK3.out).mono ?_
        rintro e W4 ⟨⟨v4, rfl, h4⟩, bk⟩
        obtain ⟨x4, y4, z4, t4, rfl⟩ := h4.four
        have hfir := HO3.out.first
        have HM4 := Lib.hid (blk_below bk (blk_lt HMq.out) HMq.out)
        have S4 := Lib.hid (sizeR x4 y4 z4 t4); have N4 := Lib.hid h4.one; have O4 : Hid ((#[x3, y3, z3, t3] : Array Value).size = (#[x4, y4, z4, t4] : Array Value).size) := Lib.hid rfl
        have HO4 := Lib.hid (h4.rowed HM4.out hfir #[x4, y4, z4, t4])
        have HP4 := Lib.hid ((HP3.out.step bk).rowed HM4.out hfir #[x4, y4, z4, t4])
        have HK4 := Lib.hid ((HK3.out.step bk).rowed HM4.out hfir #[x4, y4, z4, t4])
        have HA4 : Hid ((W4.setRow M #[x4, y4, z4, t4]).heap[B]? = some (.cells #[a1, b1, c1, d1] 34)) := Lib.hid (by rw [setRow_other _ _ _ _ (by omega)]; exact blk_below bk (blk_lt HA3.out) HA3.out)
        have HR4 : Hid ((W4.setRow M #[x4, y4, z4, t4]).heap[B + 1]? = some (.cells zeroR 34)) := Lib.hid (by rw [setRow_other _ _ _ _ (by omega)]; exact blk_below bk (blk_lt HR3.out) HR3.out)
        have hb4 : Below B w (W4.setRow M #[x4, y4, z4, t4]) := below_setRow (hb3.trans (bk.mono (Nat.le_of_lt (blk_lt HA3.out)))) (by omega) _
        have HMq4 := Lib.hid (setRow_heap W4 M _ #[x4, y4, z4, t4] _ _ HM4.out)
        clear HMq HO3 HP3 HK3 HA3 HR3 hb3 bk h4 hfir C5
        go_wp2_with (with_reducible refine wpList_store_row rfl 34 _ _ rfl M #[x4, y4, z4, t4] rfl rfl 34 _ HM4.out S4.out O4.out N4.out ?_)
        go_roundw
        case rel => exact ⟨j, by omega, by go_num, ⟨x4, y4, z4, t4, HMq4.out, HO4.out⟩, HP4.out, HK4.out, HA4.out, HR4.out, hb4⟩
        case measure => simp [intOf] <;> omega

set_option maxHeartbeats 1000000 in
theorem rmulBad_any (vp : Value) (p : PtN) (s : ByteArray) (w : World) (h1 : PtAt w vp p) (hs : s.size ≠ 32) :
    Calls Tryd.prog 21 #[vp, .string s] w fun e w' => (∃ d', e = .returned (.tuple #[d', .int .i64 1]) ∧ PtAt w' d' zeroP) ∧ Below w.heap.size w w' := by
  obtain ⟨hz, hi⟩ := zero_of_info infoR
  have hd : ((s.size : Int) != 32) = true := by simp; omega
  obtain ⟨a1, b1, c1, d1, rfl⟩ := h1.four
  have hb := below_new2 w (.cells #[a1, b1, c1, d1] 34) (.cells zeroR 34)
  have HR := Lib.hid (blk_new2 w (.cells #[a1, b1, c1, d1] 34) (.cells zeroR 34))
  have C2 := Lib.hid (fun W => rzero_any W)
  clear hi h1 hs
  go_enter Tryd.func21, Tryd.ntmps21
  go_wp2_with fail
  clear hz
  generalize ((w.alloc _).alloc _) = W0 at *
  generalize hBB : w.heap.size = B at *
  have HBB := Lib.hid hBB
  clear hBB hd
  refine (C2.out W0).mono ?_
  rintro e W1 ⟨⟨v1, rfl, h1⟩, bk⟩
  obtain ⟨x, y, z, t, rfl⟩ := h1.four
  replace hb := hb.trans (bk.mono (by have := blk_lt HR.out; omega))
  replace HR := Lib.hid (blk_below bk (blk_lt HR.out) HR.out)
  have SO := Lib.hid (sizeR x y z t); have OO := Lib.hid (zeroR_size x y z t); have NO := Lib.hid h1.one
  have H6 := Lib.hid (h1.rowed HR.out ⟨_, _, _, rfl⟩ #[x, y, z, t])
  clear bk h1 C2
  go_wp2_with (with_reducible refine wpList_store_row rfl 34 _ _ rfl (B + 1) #[x, y, z, t] rfl rfl 34 _ HR.out SO.out OO.out NO.out ?_)
  exact bodyPost_ret (results_row_tmpF (by rfl) _ _ (B + 1) 34 _ (0, 0) _ rfl (setRow_heap _ _ _ _ _ _ HR.out) Tryd.underlying34 rfl SO.out) rfl ⟨⟨_, rfl, H6.out⟩, by rw [HBB.out]; exact below_setRow hb (by omega) _⟩
end Go.Proofs.YtcpdehfmlmmgiaaDoor
