/- The program's digest and Hash. -/
import Derived.Test.YtoejkiblampecaaDoorGcmTimes
import Derived.Test.YtoejkiblampecaaDoorAesTop
namespace Go.Proofs.YtoejkiblampecaaDoor
open Go.RowKit Go.Sort
set_option maxRecDepth 100000
set_option linter.unusedSimpArgs false
set_option linter.unusedVariables false

theorem sizePB (s : List UInt8) : (Tryd.prog.info? 51).map (·.size) = some (pB s).size := sizeP _ _
theorem pB_size (s t : List UInt8) : (pB s).size = (pB t).size := rfl
theorem pz_size (s : List UInt8) : pzero.size = (pB s).size := rfl
theorem pB_one (s : List UInt8) : (pB s).all (·.oneCell') = true := pw2_one _ _
theorem pB_zero : pB zeroB = pzero := by rw [pB, wd_zero, wd_zero]; rfl

theorem textsAt_keep {W W' : World} {ao : Option Addr} {n : Nat} {f : Nat → ByteArray} (h : TextsAt W ao n f) {B : Nat} (hb : Below B W W') (hg : ∀ g off, ao = some ⟨g, off, none⟩ → g < B) : TextsAt W' ao n f := fun j hj => by
  obtain ⟨g, off, ha, hc⟩ := h j hj
  exact ⟨g, off, ha, (hb.cell (p := ⟨g, off + j, none⟩) (hg g off ha)).trans hc⟩
theorem textsAt_lt {W : World} {ao : Option Addr} {n : Nat} {f : Nat → ByteArray} (h : TextsAt W ao n f) (hn : 0 < n) : ∀ g off, ao = some ⟨g, off, none⟩ → g < W.heap.size := fun g off ha => by
  obtain ⟨g', off', ha', hc⟩ := h 0 hn
  rw [ha] at ha'
  injection ha' with e
  injection e with e1
  subst e1
  exact block_lt_of_cell hc
theorem textsAt_from {W W' : World} {ao : Option Addr} {n : Nat} {f : Nat → ByteArray} (h : TextsAt W ao n f) (hb : Below W.heap.size W W') : TextsAt W' ao n f := h.step hb
theorem dgA_succ (key : List UInt8) (f : Nat → ByteArray) (m : Nat) : dgS key (dgA key f m) (f m).data.toList (((f m).size + 15) / 16) = dgA key f (m + 1) := by
  rw [dgA, dgT, ← Lib.size_eq]
theorem dgS_succ (key y text : List UInt8) (k : Nat) : prodG (plS (dgS key y text k) (fitB (text.drop (16 * k)))) key = dgS key y text (k + 1) := rfl
theorem dgS_len (key y text : List UInt8) (k : Nat) (h : y.length = 16) : (dgS key y text k).length = 16 := dgS_length key y text h k

set_option maxHeartbeats 2000000 in
theorem digest_any (key : List UInt8) (ao : Option Addr) (n cap : Nat) (f : Nat → ByteArray) (w : World) (hk : key.length = 16) (hn : n ≤ 1000) (hc : TextsAt w ao n f) (hs : ∀ i, i < n → (f i).size ≤ 1099511627776) :
    Calls Tryd.prog 18 #[.agg (bcells key), .slice ao n cap] w fun e w' => e = .returned (.agg (bcells (dgA key f n))) ∧ Below w.heap.size w w' := by
  obtain ⟨hz, hi⟩ := zero_of_info infoP
  obtain ⟨hzb, hib⟩ := zero_of_info infoB
  have HKb := Lib.hid (blk_old (o := .cells gzeros 35) (blk_new w (.cells (bcells key) 35)))
  have HR0 := Lib.hid (blk_new2 w (.cells (bcells key) 35) (.cells gzeros 35))
  have hb0 := below_new2 w (.cells (bcells key) 35) (.cells gzeros 35)
  have HC0 := Lib.hid hc
  have HIK := Lib.hid (sizeG key hk)
  have HPo := Lib.hid (fun W => polyOf_any key W hk)
  have HKL := Lib.hid hk
  have HS := Lib.hid hs
  have HOk := Lib.hid (pz_size key)
  have HIz := Lib.hid (show (Tryd.prog.info? 51).map (·.size) = some pzero.size from sizeP 0 0)
  have H1z := Lib.hid (show pzero.all (·.oneCell') = true from pw2_one 0 0)
  have HPZ := Lib.hid pB_zero
  clear hi hib hc hs hk
  generalize pzero = z0 at *
  go_enter Tryd.func18, Tryd.ntmps18
  go_wp2_with (with_reducible refine wpList_load_row rfl 35 _ rfl w.heap.size rfl 35 _ (0, 0) _ HKb.out Tryd.underlying35 rfl HIK.out ?_)
  clear hzb
  generalize ((w.alloc _).alloc _) = W0 at *
  refine (HPo.out W0).mono ?_
  rintro e W1 ⟨rfl, hb1⟩
  have hl0 := blk_lt HR0.out
  have HR1 := Lib.hid (blk_below hb1 hl0 HR0.out)
  have hb2 : Below w.heap.size w W1 := hb0.trans (hb1.mono (by omega))
  have hl1 := blk_lt HR1.out
  rw [show pw2 (wd key 0) (wd key 1) = pB key from rfl]
  have HK0 := blk_old (o := .cells z0 51) (blk_new W1 (.cells z0 51))
  have HY0 := blk_new2 W1 (.cells z0 51) (.cells z0 51)
  have hbn := below_new2 W1 (.cells z0 51) (.cells z0 51)
  have hb3 : Below w.heap.size w _ := hb2.trans (hbn.mono (by omega))
  have HKx := Lib.hid HK0
  have HIk := Lib.hid (sizePB key)
  have H1k := Lib.hid (pB_one key)

  have HY1 := Lib.hid (show (((W1.alloc (.cells z0 51)).alloc (.cells z0 51)).setRow W1.heap.size (pB key)).heap[W1.heap.size + 1]? = some (.cells z0 51) from by rw [setRow_other _ _ _ _ (by omega)]; exact HY0)
  have HKy := Lib.hid (show ((((W1.alloc (.cells z0 51)).alloc (.cells z0 51)).setRow W1.heap.size (pB key)).setRow (W1.heap.size + 1) z0).heap[W1.heap.size]? = some (.cells (pB key) 51) from by rw [setRow_other _ _ _ _ (by omega)]; exact setRow_heap _ _ _ _ _ _ HK0)
  have HYy := Lib.hid (setRow_heap _ (W1.heap.size + 1) _ z0 _ _ HY1.out)
  have hbs : Below W1.heap.size W1 ((((W1.alloc (.cells z0 51)).alloc (.cells z0 51)).setRow W1.heap.size (pB key)).setRow (W1.heap.size + 1) z0) := below_setRow (below_setRow hbn (Nat.le_refl _) _) (by omega) _
  have HR3 := Lib.hid (blk_below hbs hl1 HR1.out)
  have hb4 := hb2.trans (hbs.mono (by omega))
  clear hb1 HR0 hb0 HPo HR1 hb2 hl0 hbn HKb HK0 HY0 hb3 hbs
  go_wp2_with (first
    | (with_reducible refine wpList_store_row rfl 51 _ _ rfl W1.heap.size (pB key) rfl rfl 51 _ HKx.out HIk.out HOk.out H1k.out ?_)
    | (with_reducible refine wpList_store_row rfl 51 _ _ rfl (W1.heap.size + 1) z0 rfl rfl 51 _ HY1.out HIz.out rfl H1z.out ?_))
  clear HKx HY1
  generalize W1.heap.size = K at *
  generalize World.setRow (World.setRow _ _ _) _ _ = W2 at *
  rw [← HPZ.out] at HYy
  clear HPZ HIz H1z hz
  go_loopw [8, 9, 15] (fun _ _ iv wr => ∃ m : Nat, m ≤ n ∧ iv = .int .i64 (m : Int) ∧ wr.heap[K]? = some (.cells (pB key) 51) ∧ wr.heap[K + 1]? = some (.cells (pB (dgA key f m)) 51) ∧ wr.heap[w.heap.size + 1]? = some (.cells gzeros 35) ∧ Below w.heap.size w wr) (fun _ _ iv _ => n - (intOf iv).toNat)
  case atStart => exact ⟨0, by omega, rfl, HKy.out, HYy.out, HR3.out, hb4⟩
  case round =>
    clear HKy HYy HR3 hb4
    obtain ⟨m, hm, rfl, hkk, hyy, hrr, hb⟩ := hrel
    have HK := Lib.hid hkk; have HY := Lib.hid hyy; have HR := Lib.hid hrr
    clear hkk hyy hrr
    by_cases hlt : m < n
    · have hd : decide ((m : Int) < (n : Int)) = true := by simp; omega
      obtain ⟨g, off, rfl, hcell⟩ := (HC0.out.step hb) m hlt
      have hfs := HS.out m hlt
      have HNx := Lib.hid (dgA_succ key f m)
      have HYL := Lib.hid (dgA_length key f m)
      go_wp2_with fail
      generalize f m = t at *
      generalize dgA key f m = y0 at *
      have hb' : Below w.heap.size w wr := hb
      go_loopw [9] (fun av wr => ∃ k c : Nat, k ≤ (t.size + 15) / 16 ∧ Hid (c = 16 * k) ∧ av = .int .i64 (c : Int) ∧ wr.heap[K]? = some (.cells (pB key) 51) ∧ wr.heap[K + 1]? = some (.cells (pB (dgS key y0 t.data.toList k)) 51) ∧ wr.heap[w.heap.size + 1]? = some (.cells gzeros 35) ∧ Below w.heap.size w wr) (fun av _ => t.size + 16 - (intOf av).toNat)
      case atStart => exact ⟨0, 0, by omega, Lib.hid rfl, rfl, HK.out, HY.out, HR.out, hb'⟩
      case round =>
        clear HK HY HR hb' hb hcell
        obtain ⟨k, c, hk, HCk, rfl, hkk, hyy, hrr, hb⟩ := hrel
        have HK := Lib.hid hkk; have HY := Lib.hid hyy; have HR := Lib.hid hrr
        clear hkk hyy hrr
        by_cases hlc : c < t.size
        · have hd2 : decide ((c : Int) < (t.size : Int)) = true := by simp; omega
          have hck := HCk.out
          have hkx : k + 1 ≤ (t.size + 15) / 16 := by omega
          have hex : (t.extract c t.size).data.toList = t.data.toList.drop (16 * k) := by rw [Lib.extract_data, ← hck, List.take_of_length_le (by rw [List.length_drop, ← Lib.size_eq]; exact Nat.le_refl _)]
          have HBo := Lib.hid (fun W => blockOf_any (t.extract c t.size) W)
          rw [hex] at HBo
          have HPf := Lib.hid (fun W => polyOf_any (fitB (t.data.toList.drop (16 * k))) W (fitB_length _))
          have HPl := Lib.hid (fun W => gplus_any (wd (dgS key y0 t.data.toList k) 0) (wd (dgS key y0 t.data.toList k) 1) (wd (fitB (t.data.toList.drop (16 * k))) 0) (wd (fitB (t.data.toList.drop (16 * k))) 1) W (wd_lt _ _) (wd_lt _ _) (wd_lt _ _) (wd_lt _ _))
          rw [← wd_xor _ _ 0 (by omega), ← wd_xor _ _ 1 (by omega)] at HPl
          have HTm := Lib.hid (fun W => times_any (plS (dgS key y0 t.data.toList k) (fitB (t.data.toList.drop (16 * k)))) key W (plS_length _ _) HKL.out)
          rw [dgS_succ] at HTm
          rw [show pw2 (wd (fitB (t.data.toList.drop (16 * k))) 0) (wd (fitB (t.data.toList.drop (16 * k))) 1) = pB (fitB (t.data.toList.drop (16 * k))) from rfl] at HPf HPl
          rw [show pw2 (wd (dgS key y0 t.data.toList k) 0) (wd (dgS key y0 t.data.toList k) 1) = pB (dgS key y0 t.data.toList k) from rfl] at HPl
          rw [show pw2 (wd (plS (dgS key y0 t.data.toList k) (fitB (t.data.toList.drop (16 * k)))) 0) (wd (plS (dgS key y0 t.data.toList k) (fitB (t.data.toList.drop (16 * k)))) 1) = pB (plS (dgS key y0 t.data.toList k) (fitB (t.data.toList.drop (16 * k)))) from rfl] at HPl
          have HIy := Lib.hid (sizePB (dgS key y0 t.data.toList k))
          have HIn := Lib.hid (sizePB (dgS key y0 t.data.toList (k + 1)))
          have HOn := Lib.hid (pB_size (dgS key y0 t.data.toList k) (dgS key y0 t.data.toList (k + 1)))
          have H1n := Lib.hid (pB_one (dgS key y0 t.data.toList (k + 1)))
          generalize fitB (t.data.toList.drop (16 * k)) = fb at *
          generalize hpn : pB (dgS key y0 t.data.toList (k + 1)) = pn at *
          have HPN := Lib.hid hpn
          clear hpn
          generalize pB (plS (dgS key y0 t.data.toList k) fb) = ps at *
          generalize pB (dgS key y0 t.data.toList k) = py at *
          generalize pB fb = pf at *
          generalize pB key = pk at *
          clear hex hck
          go_wp2_with fail
          refine wp_region_fresh 9 37 [.val (.agg py) [(6, .pointer (some ⟨K + 1, 0, none⟩))], .val (.string t) [(8, .string t)], .val (.int .i64 (c : Int)) [(9, .int .i64 (c : Int))], .val (.string (t.extract c t.size)) [(26, .string t), (27, .int .i64 (c : Int))],
            .val (.agg (bcells fb)) [(28, .string (t.extract c t.size))], .val (.agg pf) [(29, .agg (bcells fb))], .val (.agg ps) [(25, .agg py), (30, .agg pf)], .val (.agg pk) [(5, .pointer (some ⟨K, 0, none⟩))], .val (.agg pn) [(31, .agg ps), (32, .agg pk)]]
            (by kernel_rfl) (by kernel_rfl) rfl ?_ ?_ ?_
          · simp only [List.take_succ_cons, List.take_zero, headObl, specObl, HeadSpec.val, HeadSpec.fresh, and_true]
            refine ⟨?_, ?_, ?_, ?_, ?_, ?_, ?_, ?_, ?_⟩
            · intro a w hb h
              have e0 := h (6, .pointer (some ⟨K + 1, 0, none⟩)) (by simp)
              exact sQuiet_load_row 51 (.tmp 6) rfl (K + 1) e0 51 _ (0, 0) _ (blk_below hb (blk_lt HY.out) HY.out) Tryd.underlying51 rfl HIy.out
            · intro a w hb h
              have e := h (8, .string t) (by simp)
              simp only [Array.getD_eq_getD_getElem?] at e
              simp [go_sem, e, sQuiet]
            · intro a w hb h
              have e := h (9, .int .i64 (c : Int)) (by simp)
              simp only [Array.getD_eq_getD_getElem?] at e
              simp [go_sem, e, sQuiet]
            · intro a w hb h
              have e0 := h (26, .string t) (by simp)
              have e1 := h (27, .int .i64 (c : Int)) (by simp)
              simp only [Array.getD_eq_getD_getElem?] at e0 e1
              have hcs : (c : Int) ≤ (t.size : Int) := by omega
              simp [go_sem, e0, e1, sQuiet, hcs]
            · intro a w hb h
              have e := h (28, .string (t.extract c t.size)) (by simp)
              simp only [Array.getD_eq_getD_getElem?] at e
              simp [go_sem, e, sQuiet]
              exact HBo.out w
            · intro a w hb h
              have e := h (29, .agg (bcells fb)) (by simp)
              simp only [Array.getD_eq_getD_getElem?] at e
              simp [go_sem, e, sQuiet]
              exact HPf.out w
            · intro a w hb h
              have e0 := h (25, .agg py) (by simp)
              have e1 := h (30, .agg pf) (by simp)
              simp only [Array.getD_eq_getD_getElem?] at e0 e1
              simp [go_sem, e0, e1, sQuiet]
              exact HPl.out w
            · intro a w hb h
              have e0 := h (5, .pointer (some ⟨K, 0, none⟩)) (by simp)
              exact sQuiet_load_row 51 (.tmp 5) rfl K e0 51 _ (0, 0) _ (blk_below hb (blk_lt HK.out) HK.out) Tryd.underlying51 rfl HIk.out
            · intro a w hb h
              have e0 := h (31, .agg ps) (by simp)
              have e1 := h (32, .agg pk) (by simp)
              simp only [Array.getD_eq_getD_getElem?] at e0 e1
              simp [go_sem, e0, e1, sQuiet]
              exact HTm.out w
          · simp [headReads, headPut, specV, HeadSpec.val, HeadSpec.fresh, Act.put]
          · simp only [List.take_succ_cons, List.take_zero, List.drop_succ_cons, List.drop_zero, headEnd, HeadSpec.val, HeadSpec.fresh, Act.put, List.setIfInBounds_toArray, List.set_cons_succ, List.set_cons_zero]
            intro w1 hb1 hgs
            have hlY := blk_lt HY.out; have hlR := blk_lt HR.out
            have HY1 := Lib.hid (blk_below hb1 hlY HY.out)
            have HK1 := Lib.hid (blk_below hb1 (by omega) HK.out)
            have HR1 := Lib.hid (blk_below hb1 hlR HR.out)
            have hb2 : Below w.heap.size w w1 := hb.trans (hb1.mono hb.size)
            have HY2 := Lib.hid (setRow_heap w1 (K + 1) _ pn _ _ HY1.out)
            have HK2 := Lib.hid (show (w1.setRow (K + 1) pn).heap[K]? = some (.cells pk 51) from by rw [setRow_other _ _ _ _ (by omega)]; exact HK1.out)
            have HR2 := Lib.hid (show (w1.setRow (K + 1) pn).heap[w.heap.size + 1]? = some (.cells gzeros 35) from by rw [setRow_other _ _ _ _ (by omega)]; exact HR1.out)
            have hb3 : Below w.heap.size w (w1.setRow (K + 1) pn) := below_setRow hb2 (by omega) _
            clear hgs hb1 HY HK HR hb HBo HPf HPl HTm hb2 HK1 HR1
            go_wp2_with (with_reducible refine wpList_store_row rfl 51 _ _ rfl (K + 1) pn rfl rfl 51 _ HY1.out HIn.out HOn.out H1n.out ?_)
            go_roundw
            case rel => exact ⟨k + 1, c + 16, hkx, Lib.hid (by rw [HCk.out]; omega), by go_num, HK2.out, by rw [HPN.out]; exact HY2.out, HR2.out, hb3⟩
            case measure => simp [intOf]; omega
        · have hd2 : decide ((c : Int) < (t.size : Int)) = false := by simp; omega
          have hkk : k = (t.size + 15) / 16 := by have := HCk.out; omega
          have HY2 := Lib.hid (show wr.heap[K + 1]? = some (.cells (pB (dgA key f (m + 1))) 51) from by rw [← HNx.out, ← hkk]; exact HY.out)
          clear HY hkk
          go_wp2_with fail
          go_roundw
          case rel => exact ⟨m + 1, by omega, by go_num, HK.out, HY2.out, HR.out, hb⟩
          case measure => simp [intOf]; omega
    · have hd : decide ((m : Int) < (n : Int)) = false := by simp; omega
      obtain rfl : m = n := by omega
      have hdl := dgA_length key f m
      have HBk := Lib.hid (fun W => blockBack_any (dgA key f m) W hdl)
      rw [show pw2 (wd (dgA key f m) 0) (wd (dgA key f m) 1) = pB (dgA key f m) from rfl] at HBk
      have HIy := Lib.hid (sizePB (dgA key f m))
      have HI := Lib.hid (sizeG _ hdl)
      have HO := Lib.hid (gzeros_size _ hdl)
      have H1 := Lib.hid (arr_one (dgA key f m))
      generalize pB (dgA key f m) = py at *
      generalize hrow : dgA key f m = row at *
      have HROW := Lib.hid hrow
      clear hrow hdl
      go_wp2_with (with_reducible refine wpList_load_row rfl 51 _ rfl (K + 1) rfl 51 _ (0, 0) _ HY.out Tryd.underlying51 rfl HIy.out ?_)
      refine (HBk.out wr).mono ?_
      rintro e W5 ⟨rfl, hb5⟩
      have HR5 := Lib.hid (blk_below hb5 (blk_lt HR.out) HR.out)
      have hb6 := hb.trans (hb5.mono hb.size)
      clear HBk hb5 HR
      go_wp2_with (with_reducible refine wpList_store_row rfl 35 _ _ rfl (w.heap.size + 1) (bcells row) rfl rfl 35 _ HR5.out HI.out HO.out H1.out ?_)
      exact bodyPost_ret (v := .agg (bcells row)) (results_cell_row (by rfl) _ _ (w.heap.size + 1) 35 _ (0, 0) _ rfl (setRow_heap _ _ _ _ _ _ HR5.out) Tryd.underlying35 rfl HI.out) rfl ⟨by first | (with_reducible rfl) | rw [HROW.out], below_setRow hb6 (by omega) _⟩
end Go.Proofs.YtoejkiblampecaaDoor
