/- The reference's base point; what its calls answer for any texts. -/
import Derived.Test.YtcpdehfmlmmgiaaDoorPrOf
import Derived.Test.YtcpdehfmlmmgiaaDoorPrMul
import Derived.Test.YtcpdehfmlmmgiaaDoorPrByt
namespace Go.Proofs.YtcpdehfmlmmgiaaDoor
open Go.RowKit Go.Sort
set_option maxRecDepth 100000
set_option linter.unusedSimpArgs false
set_option linter.unusedVariables false

set_option maxHeartbeats 2000000 in
theorem rbase_any (w : World) :
    Calls Tryd.prog 19 #[] w fun e w' => (∃ d', e = .returned d' ∧ PtAt w' d' baseP) ∧ Below w.heap.size w w' := by
  obtain ⟨hz, hi⟩ := zero_of_info infoR
  have hb := below_new w (.cells zeroR 34)
  have HR := Lib.hid (blk_new w (.cells zeroR 34))
  have C4 : Hid (∀ W : World, Calls Tryd.prog 34 #[.int .i64 4] W fun e w' => (∃ d', e = .returned d' ∧ DigAt w' d' (digN 4)) ∧ Below W.heap.size W w') := Lib.hid (fun W => smallRefPos_any 4 W (by decide))
  have C5 : Hid (∀ W : World, Calls Tryd.prog 34 #[.int .i64 5] W fun e w' => (∃ d', e = .returned d' ∧ DigAt w' d' (digN 5)) ∧ Below W.heap.size W w') := Lib.hid (fun W => smallRefPos_any 5 W (by decide))
  have CI := Lib.hid (fun d W g => invRef_any d 5 W (by decide) g)
  have CM := Lib.hid (fun d e W g1 g2 => mulRef_any d e 4 (invF 5) W (by decide) (powF_lt _ _) g1 g2)
  have CB := Lib.hid (fun d W g => bytesRef_any d (mulF 4 (invF 5)) W g)
  have CO := Lib.hid (fun W => rofOk_any ⟨(leF (mulF 4 (invF 5)) 32).toArray⟩ W (leF_length _ 32))
  have HBs : Hid (ofP (⟨(leF (mulF 4 (invF 5)) 32).toArray⟩ : ByteArray).data.toList = baseP) := Lib.hid rfl
  rw [HBs.out] at CO
  generalize baseP = bp at *
  generalize ofE (⟨(leF (mulF 4 (invF 5)) 32).toArray⟩ : ByteArray).data.toList = q at *
  generalize (⟨(leF (mulF 4 (invF 5)) 32).toArray⟩ : ByteArray) = s at *
  generalize mulF 4 (invF 5) = m at *
  generalize invF 5 = i5 at *
  clear hi HBs
  go_enter Tryd.func19, Tryd.ntmps19
  go_wp2_with fail
  generalize (w.alloc _) = W0 at *
  generalize hBB : w.heap.size = B at *
  have HBB := Lib.hid hBB
  clear hBB
  refine (C4.out W0).mono ?_
  rintro e W1 ⟨⟨d4, rfl, h⟩, bk⟩
  have H4 := Lib.hid h
  replace hb := hb.trans (bk.mono (Nat.le_of_lt (blk_lt HR.out)))
  replace HR := Lib.hid (blk_below bk (blk_lt HR.out) HR.out)
  clear bk h
  go_wp2_with fail
  refine (C5.out W1).mono ?_
  rintro e W2 ⟨⟨d5, rfl, h⟩, bk⟩
  have H5 := Lib.hid h
  replace H4 := Lib.hid (H4.out.step bk)
  replace hb := hb.trans (bk.mono (Nat.le_of_lt (blk_lt HR.out)))
  replace HR := Lib.hid (blk_below bk (blk_lt HR.out) HR.out)
  clear bk h
  go_wp2_with fail
  refine (CI.out d5 W2 H5.out).mono ?_
  rintro e W3 ⟨⟨di, rfl, h⟩, bk⟩
  have Hi := Lib.hid h
  replace H4 := Lib.hid (H4.out.step bk)
  replace hb := hb.trans (bk.mono (Nat.le_of_lt (blk_lt HR.out)))
  replace HR := Lib.hid (blk_below bk (blk_lt HR.out) HR.out)
  clear bk h H5
  go_wp2_with fail
  refine (CM.out d4 di W3 H4.out Hi.out).mono ?_
  rintro e W4 ⟨⟨dm, rfl, h⟩, bk⟩
  have Hm := Lib.hid h
  replace hb := hb.trans (bk.mono (Nat.le_of_lt (blk_lt HR.out)))
  replace HR := Lib.hid (blk_below bk (blk_lt HR.out) HR.out)
  clear bk h H4 Hi
  go_wp2_with fail
  refine (CB.out dm W4 Hm.out).mono ?_
  rintro e W5 ⟨rfl, bk⟩
  replace hb := hb.trans (bk.mono (Nat.le_of_lt (blk_lt HR.out)))
  replace HR := Lib.hid (blk_below bk (blk_lt HR.out) HR.out)
  clear bk Hm
  go_wp2_with fail
  refine (CO.out W5).mono ?_
  rintro e W6 ⟨⟨dp, rfl, hp⟩, bk⟩
  obtain ⟨x, y, z, t, rfl⟩ := hp.four
  replace hb := hb.trans (bk.mono (Nat.le_of_lt (blk_lt HR.out)))
  replace HR := Lib.hid (blk_below bk (blk_lt HR.out) HR.out)
  have SO := Lib.hid (sizeR x y z t); have OO := Lib.hid (zeroR_size x y z t); have NO := Lib.hid hp.one
  have HN := Lib.hid (blk_new W6 (.cells zeroR 34))
  have bn := below_new W6 (.cells zeroR 34)
  have HP1 := hp.step bn
  have HP2 := HP1.rowed HN.out ⟨_, _, _, rfl⟩ #[x, y, z, t]
  have HMq := Lib.hid (setRow_heap _ W6.heap.size _ #[x, y, z, t] _ _ HN.out)
  have hlt := blk_lt HR.out
  have HR2 : Hid (((W6.alloc (.cells zeroR 34)).setRow W6.heap.size #[x, y, z, t]).heap[B]? = some (.cells zeroR 34)) := Lib.hid (by rw [setRow_other _ _ _ _ (by omega)]; exact blk_below bn hlt HR.out)
  have HP3 := Lib.hid (HP2.rowed HR2.out ⟨_, _, _, rfl⟩ #[x, y, z, t])
  have hb2 : Below B w ((W6.alloc (.cells zeroR 34)).setRow W6.heap.size #[x, y, z, t]) := below_setRow (hb.trans (bn.mono (by omega))) (by omega) _
  clear bk hp bn HP1 HP2 hb HR
  go_wp2_with (first
    | (with_reducible refine wpList_store_row rfl 34 _ _ rfl W6.heap.size #[x, y, z, t] rfl rfl 34 _ HN.out SO.out OO.out NO.out ?_)
    | (with_reducible refine wpList_load_row rfl 34 _ rfl W6.heap.size rfl 34 _ (0, 0) _ HMq.out Tryd.underlying34 rfl SO.out ?_)
    | (with_reducible refine wpList_store_row rfl 34 _ _ rfl B #[x, y, z, t] rfl rfl 34 _ HR2.out SO.out OO.out NO.out ?_))
  exact bodyPost_ret (v := .agg #[x, y, z, t]) (results_cell_row (by rfl) _ _ B 34 _ (0, 0) _ rfl (setRow_heap _ _ _ _ _ _ HR2.out) Tryd.underlying34 rfl SO.out) rfl ⟨⟨_, rfl, HP3.out⟩, by rw [HBB.out]; exact below_setRow hb2 (Nat.le_refl _) _⟩

theorem rofT_any (s : ByteArray) (w : World) :
    Calls Tryd.prog 10 #[.string s] w fun e w' => (∃ d', e = .returned (.tuple #[d', .int .i64 (ofET s)]) ∧ PtAt w' d' (ofPT s)) ∧ Below w.heap.size w w' := by
  by_cases h : s.size = 32
  · rw [ofET, ofPT, if_pos h, if_pos h]; exact rofOk_any s w h
  · rw [ofET, ofPT, if_neg h, if_neg h]; exact rofBad_any s w h
theorem rmulT_any (vp : Value) (p : PtN) (s : ByteArray) (w : World) (hp : p.Ok) (h1 : PtAt w vp p) :
    Calls Tryd.prog 21 #[vp, .string s] w fun e w' => (∃ d', e = .returned (.tuple #[d', .int .i64 (mulET s)]) ∧ PtAt w' d' (mulPT p s)) ∧ Below w.heap.size w w' := by
  by_cases h : s.size = 32
  · rw [mulET, mulPT, if_pos h, if_pos h]; exact rmulOk_any vp p s w hp h1 h
  · rw [mulET, mulPT, if_neg h, if_neg h]; exact rmulBad_any vp p s w h1 h
theorem rbytesT_any (vp : Value) (p : PtN) (w : World) (hp : p.Ok) (h1 : PtAt w vp p) :
    Calls Tryd.prog 12 #[vp] w fun e w' => e = .returned (.string (txtP p)) ∧ Below w.heap.size w w' := rbytes_any vp p w hp h1
end Go.Proofs.YtcpdehfmlmmgiaaDoor
