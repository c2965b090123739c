/- The program's product of polynomials. -/
import Derived.Test.YtoejkiblampecaaDoorGcmBlk
namespace Go.Proofs.YtoejkiblampecaaDoor
open Go.RowKit Go.Sort
set_option maxRecDepth 100000
set_option linter.unusedSimpArgs false
set_option linter.unusedVariables false

/-- The cells of a block's polynomial. -/
def pB (s : List UInt8) : Array Value := pw2 (wd s 0) (wd s 1)
theorem infoA2 : (Tryd.prog.info? 75).map (fun i => (i.zero, i.size)) = some (some (.agg pzero), 2) := by kernel_rfl
theorem index_two (x y : Nat) (h : Nat) (hh : h < 2) (w : World) : (Instr.index 75 (.agg (pw2 x y)) (.int .i64 (h : Int))).run Tryd.prog w = .ok (.int .u64 ((if h = 0 then x else y : Nat) : Int)) w := by
  refine arr_index 75 49 2 h (pw2 x y) _ Tryd.underlying75 (by kernel_rfl) (fun w => ?_) hh ?_ w
  · unfold isAgg
    rw [Sem.run_bind, run_underlying Tryd.underlying49 w]
    rfl
  · rcases (show h = 0 ∨ h = 1 by omega) with rfl | rfl <;> rfl
theorem wd_pick (b : List UInt8) (h : Nat) (hh : h < 2) : (if h = 0 then wd b 0 else wd b 1) = wd b h := by
  rcases (show h = 0 ∨ h = 1 by omega) with rfl | rfl <;> rfl
/-- A word that has moved on by so many. -/
def wMv (b : List UInt8) (h i : Nat) : Nat := (wd b h * 2 ^ i) % 18446744073709551616
theorem wMv_lt (b : List UInt8) (h i : Nat) : wMv b h i < 18446744073709551616 := Nat.mod_lt _ (by decide)
theorem wMv_zero (b : List UInt8) (h : Nat) : wMv b h 0 = wd b h := by rw [wMv, Nat.pow_zero, Nat.mul_one]; exact Nat.mod_eq_of_lt (wd_lt b h)
theorem wMv_succ (b : List UInt8) (h i : Nat) : IntKind.u64.wrap ((wMv b h i : Nat) * 2 : Int) = ((wMv b h (i + 1) : Nat) : Int) := by
  rw [IntKind.wrap_u64, wMv, wMv, Nat.pow_succ, ← Nat.mul_assoc]
  generalize wd b h * 2 ^ i = z
  omega
theorem wMv_top (b : List UInt8) (h i : Nat) (hi : i < 64) : ((wMv b h i : Nat) : Int) / 9223372036854775808 = (((if gbit b (64 * h + i) then 1 else 0 : Nat)) : Int) := by
  have := wd_top b h i hi
  rw [← this, wMv]
  omega
theorem bit_lt2 (c : Bool) : (if c then 1 else 0 : Nat) < 2 := by split <;> omega
theorem only_list (c : Bool) (s : List UInt8) (h : Nat) : (if (if c then 1 else 0 : Nat) = 1 then wd s h else 0) = wd (onG c s) h := by
  rw [wd_on]; cases c <;> simp

set_option maxHeartbeats 2000000 in
theorem times_any (a b : List UInt8) (w : World) (ha : a.length = 16) (hb : b.length = 16) :
    Calls Tryd.prog 30 #[.agg (pB a), .agg (pB b)] w fun e w' => e = .returned (.agg (pB (prodG a b))) ∧ Below w.heap.size w w' := by
  obtain ⟨hz, hi⟩ := zero_of_info infoP
  obtain ⟨hz2, hi2⟩ := zero_of_info infoA2
  have HP0 := Lib.hid (blk_old (o := .cells pzero 51) (blk_old (o := .cells pzero 51) (blk_old (o := .cells (pB b) 51) (blk_new w (.cells (pB a) 51)))))
  have HQ0 := blk_old (o := .cells pzero 51) (blk_old (o := .cells pzero 51) (blk_new2 w (.cells (pB a) 51) (.cells (pB b) 51)))
  have HR0 := Lib.hid (blk_old (o := .cells pzero 51) (blk_new3 w (.cells (pB a) 51) (.cells (pB b) 51) (.cells pzero 51)))
  have HO0 := Lib.hid (blk_new (((w.alloc (.cells (pB a) 51)).alloc (.cells (pB b) 51)).alloc (.cells pzero 51)) (.cells pzero 51))
  have hb0 := (below_new3 w (.cells (pB a) 51) (.cells (pB b) 51) (.cells pzero 51)).alloc (by simp; omega) (.cells pzero 51)
  obtain ⟨c0, c1⟩ := pw2_cells HQ0
  have hS : (((w.alloc (.cells (pB a) 51)).alloc (.cells (pB b) 51)).alloc (.cells pzero 51)).heap.size = w.heap.size + 1 + 1 + 1 := by simp
  rw [hS] at HO0
  have hbd := pw2_build (wd b 0) (wd b 1)
  have hix := fun h hh => index_two (wd b 0) (wd b 1) h hh
  have HIx := Lib.hid hix
  clear hi hi2 hix hS HQ0
  go_enter Tryd.func30, Tryd.ntmps30
  go_wp2_with fail
  clear hz hz2 c0 c1 hbd
  generalize ((((w.alloc _).alloc _).alloc _).alloc _) = W0 at *
  generalize hBB : w.heap.size = B at *
  have HBB := Lib.hid hBB
  clear hBB
  have HAl := Lib.hid ha
  clear ha hb
  go_loopw [7, 13, 16] (fun _ j _ wr => ∃ h : Nat, h ≤ 2 ∧ j = .int .i64 (h : Int) ∧ wr.heap[B]? = some (.cells (pB (vG a (64 * h))) 51) ∧ wr.heap[B + 1 + 1]? = some (.cells pzero 51) ∧ wr.heap[B + 1 + 1 + 1]? = some (.cells (pB (oG a b (64 * h))) 51) ∧ Below B w wr) (fun _ j _ _ => 2 - (intOf j).toNat)
  case atStart => exact ⟨0, by omega, rfl, HP0.out, HR0.out, by rw [show oG a b (64 * 0) = zeroB from rfl, show pB zeroB = pzero from by rw [pB, wd_zero, wd_zero]; rfl]; exact HO0.out, hb0⟩
  case round =>
    clear HP0 HR0 HO0 hb0
    obtain ⟨h, hh, rfl, hp, hr, ho, hb⟩ := hrel
    have HP := Lib.hid hp; have HR := Lib.hid hr; have HO := Lib.hid ho
    clear hp hr ho
    by_cases hlt : h < 2
    · have hd : decide ((h : Int) < 2) = true := by simp; omega
      have ix := HIx.out h hlt
      rw [wd_pick b h hlt, ← wMv_zero b h] at ix
      go_wp2_with fail
      have hb' : Below B w wr := hb
      go_loopw [7, 16] (fun wv iv wr => ∃ i : Nat, i ≤ 64 ∧ iv = .int .i64 (i : Int) ∧ wv = .int .u64 ((wMv b h i : Nat) : Int) ∧ wr.heap[B]? = some (.cells (pB (vG a (64 * h + i))) 51) ∧ wr.heap[B + 1 + 1]? = some (.cells pzero 51) ∧ wr.heap[B + 1 + 1 + 1]? = some (.cells (pB (oG a b (64 * h + i))) 51) ∧ Below B w wr) (fun _ iv _ => 64 - (intOf iv).toNat)
      case atStart => exact ⟨0, by omega, rfl, rfl, HP.out, HR.out, HO.out, hb'⟩
      case round =>
        clear HP HR HO hb' hb ix
        obtain ⟨i, hi, rfl, rfl, hp, hr, ho, hb⟩ := hrel
        have HP := Lib.hid hp; have HR := Lib.hid hr; have HO := Lib.hid ho
        clear hp hr ho
        by_cases hli : i < 64
        · have hd2 : decide ((i : Int) < 64) = true := by simp; omega
          have htop := wMv_top b h i hli
          have hsuc := wMv_succ b h i
          have hwl := wMv_lt b h i
          have HBit : Hid ((if gbit b (64 * h + i) then 1 else 0 : Nat) < 2) := Lib.hid (bit_lt2 _)
          have HOn := Lib.hid (fun W => gonly_any (wd (vG a (64 * h + i)) 0) (wd (vG a (64 * h + i)) 1) (if gbit b (64 * h + i) then 1 else 0) W (wd_lt _ _) (wd_lt _ _) HBit.out)
          rw [only_list, only_list] at HOn
          have HPl := Lib.hid (fun W => gplus_any (wd (oG a b (64 * h + i)) 0) (wd (oG a b (64 * h + i)) 1) (wd (onG (gbit b (64 * h + i)) (vG a (64 * h + i))) 0) (wd (onG (gbit b (64 * h + i)) (vG a (64 * h + i))) 1) W (wd_lt _ _) (wd_lt _ _) (wd_lt _ _) (wd_lt _ _))
          rw [← wd_xor _ _ 0 (by omega), ← wd_xor _ _ 1 (by omega), ← oG_succ] at HPl
          have HRa := Lib.hid (fun W => raised_any (wd (vG a (64 * h + i)) 0) (wd (vG a (64 * h + i)) 1) W (wd_lt _ _) (wd_lt _ _))
          rw [show rs0 (wd (vG a (64 * h + i)) 0) (wd (vG a (64 * h + i)) 1) = wd (vG a (64 * h + i + 1)) 0 from by rw [vG, wd_sh0]; rfl, show rs1 (wd (vG a (64 * h + i)) 0) (wd (vG a (64 * h + i)) 1) = wd (vG a (64 * h + i + 1)) 1 from by rw [vG, wd_sh1]; rfl] at HRa
          rw [show pw2 (wd (vG a (64 * h + i)) 0) (wd (vG a (64 * h + i)) 1) = pB (vG a (64 * h + i)) from rfl] at HOn HRa
          rw [show pw2 (wd (oG a b (64 * h + i)) 0) (wd (oG a b (64 * h + i)) 1) = pB (oG a b (64 * h + i)) from rfl] at HPl
          have HOS := Lib.hid (show ∃ c, c = pw2 (wd (oG a b (64 * h + i + 1)) 0) (wd (oG a b (64 * h + i + 1)) 1) ∧ c = pB (oG a b (64 * h + i + 1)) ∧ pzero.size = c.size ∧ (Tryd.prog.info? 51).map (·.size) = some c.size ∧ c.all (·.oneCell') = true from ⟨_, rfl, rfl, rfl, sizeP _ _, pw2_one _ _⟩)
          have HPS := Lib.hid (show ∃ c, c = pw2 (wd (vG a (64 * h + i + 1)) 0) (wd (vG a (64 * h + i + 1)) 1) ∧ c = pB (vG a (64 * h + i + 1)) ∧ pzero.size = c.size ∧ (Tryd.prog.info? 51).map (·.size) = some c.size ∧ c.all (·.oneCell') = true from ⟨_, rfl, rfl, rfl, sizeP _ _, pw2_one _ _⟩)
          have HQS := Lib.hid (show ∃ c, c = pw2 (wd (onG (gbit b (64 * h + i)) (vG a (64 * h + i))) 0) (wd (onG (gbit b (64 * h + i)) (vG a (64 * h + i))) 1) from ⟨_, rfl⟩)
          obtain ⟨po, hpo, hpo2, hpos, hpoi, hpo1⟩ := HOS.out
          obtain ⟨pp, hpp, hpp2, hpps, hppi, hpp1⟩ := HPS.out
          obtain ⟨pq, hpq⟩ := HQS.out
          rw [← hpo] at HPl; rw [← hpp] at HRa; rw [← hpq] at HPl HOn
          have HPO := Lib.hid hpo2; have HPP := Lib.hid hpp2
          have HIO := Lib.hid hpoi; have HIP := Lib.hid hppi
          have HSO := Lib.hid hpos; have HSP := Lib.hid hpps
          have H1O := Lib.hid hpo1; have H1P := Lib.hid hpp1
          have hpvi : (Tryd.prog.info? 51).map (·.size) = some (pB (vG a (64 * h + i))).size := sizeP _ _
          have hpoi : (Tryd.prog.info? 51).map (·.size) = some (pB (oG a b (64 * h + i))).size := sizeP _ _
          have hpvs : (pB (vG a (64 * h + i))).size = pp.size := by rw [← hpps]; rfl
          have hpos2 : (pB (oG a b (64 * h + i))).size = po.size := by rw [← hpos]; rfl
          have HVI := Lib.hid hpvi; have HOI := Lib.hid hpoi; have HVS := Lib.hid hpvs; have HOS2 := Lib.hid hpos2
          clear hpo hpo2 hpos hpoi hpo1 hpp hpp2 hpps hppi hpp1 hpq HOS HPS HQS hpvi hpvs hpos2
          generalize pB (vG a (64 * h + i)) = pv at *
          generalize pB (oG a b (64 * h + i)) = pu at *
          generalize (if gbit b (64 * h + i) then 1 else 0 : Nat) = bt at *
          generalize wMv b h i = wi at *
          go_wp2_with fail
          refine wp_region_fresh 6 31 [.val (.agg pu) [(5, .pointer (some ⟨B + 1 + 1 + 1, 0, none⟩))], .val (.agg pv) [(2, .pointer (some ⟨B, 0, none⟩))], .val (.int .u64 (wi : Int)) [(7, .int .u64 (wi : Int))],
            .val (.int .u64 (bt : Int)) [(20, .int .u64 (wi : Int))], .val (.agg pq) [(19, .agg pv), (21, .int .u64 (bt : Int))], .val (.agg po) [(18, .agg pu), (22, .agg pq)]]
            (by kernel_rfl) (by kernel_rfl) rfl ?_ ?_ ?_
          · simp only [List.take_succ_cons, List.take_zero, headObl, specObl, HeadSpec.val, HeadSpec.fresh, and_true]
            refine ⟨?_, ?_, ?_, ?_, ?_, ?_⟩
            · intro a w hb h
              have e0 := h (5, .pointer (some ⟨B + 1 + 1 + 1, 0, none⟩)) (by simp)
              exact sQuiet_load_row 51 (.tmp 5) rfl (B + 1 + 1 + 1) e0 51 _ (0, 0) _ (blk_below hb (blk_lt HO.out) HO.out) Tryd.underlying51 rfl HOI.out
            · intro a w hb h
              have e0 := h (2, .pointer (some ⟨B, 0, none⟩)) (by simp)
              exact sQuiet_load_row 51 (.tmp 2) rfl B e0 51 _ (0, 0) _ (blk_below hb (blk_lt HP.out) HP.out) Tryd.underlying51 rfl HVI.out
            · intro a w hb h
              have e := h (7, .int .u64 (wi : Int)) (by simp)
              simp only [Array.getD_eq_getD_getElem?] at e
              simp [go_sem, e, sQuiet]
            · intro a w hb h
              have e := h (20, .int .u64 (wi : Int)) (by simp)
              simp only [Array.getD_eq_getD_getElem?] at e
              simp [go_sem, e, sQuiet, htop]
            · intro a w hb h
              have e0 := h (19, .agg pv) (by simp)
              have e1 := h (21, .int .u64 (bt : Int)) (by simp)
              simp only [Array.getD_eq_getD_getElem?] at e0 e1
              simp [go_sem, e0, e1, sQuiet]
              exact HOn.out w
            · intro a w hb h
              have e0 := h (18, .agg pu) (by simp)
              have e1 := h (22, .agg pq) (by simp)
              simp only [Array.getD_eq_getD_getElem?] at e0 e1
              simp [go_sem, e0, e1, sQuiet]
              exact HPl.out w
          · simp [headReads, headPut, specV, HeadSpec.val, HeadSpec.fresh, Act.put]
          · simp only [List.take_succ_cons, List.take_zero, List.drop_succ_cons, List.drop_zero, headEnd, HeadSpec.val, HeadSpec.fresh, Act.put, List.setIfInBounds_toArray, List.set_cons_succ, List.set_cons_zero]
            intro w1 hb1 hgs
            have hlO := blk_lt HO.out
            have HO1 := Lib.hid (blk_below hb1 hlO HO.out)
            have HP1 := Lib.hid (blk_below hb1 (by omega) HP.out)
            have HR1 := Lib.hid (blk_below hb1 (by omega) HR.out)
            have hb2 : Below B w w1 := hb.trans (hb1.mono (by omega))
            clear hgs hb1 HO HP HR hb HOn HPl
            have HO2 := Lib.hid (setRow_heap w1 (B + 1 + 1 + 1) _ po _ _ HO1.out)
            have HP2 := Lib.hid (show (w1.setRow (B + 1 + 1 + 1) po).heap[B]? = some (.cells pv 51) from by rw [setRow_other _ _ _ _ (by omega)]; exact HP1.out)
            have HR2 := Lib.hid (show (w1.setRow (B + 1 + 1 + 1) po).heap[B + 1 + 1]? = some (.cells pzero 51) from by rw [setRow_other _ _ _ _ (by omega)]; exact HR1.out)
            have hb3 : Below B w (w1.setRow (B + 1 + 1 + 1) po) := below_setRow hb2 (by omega) _
            go_wp2_with (first
              | (with_reducible refine wpList_store_row rfl 51 _ _ rfl (B + 1 + 1 + 1) po rfl rfl 51 _ HO1.out HIO.out HOS2.out H1O.out ?_)
              | (with_reducible refine wpList_load_row rfl 51 _ rfl B rfl 51 _ (0, 0) _ HP2.out Tryd.underlying51 rfl HVI.out ?_))
            generalize World.setRow w1 _ _ = w2 at *
            refine (HRa.out w2).mono ?_
            rintro e w3 ⟨rfl, hb4⟩
            have hl3 := blk_lt HO2.out
            have HO3 := Lib.hid (blk_below hb4 hl3 HO2.out)
            have HP3 := Lib.hid (blk_below hb4 (by omega) HP2.out)
            have HR3 := Lib.hid (blk_below hb4 (by omega) HR2.out)
            have hb5 : Below B w w3 := hb3.trans (hb4.mono (by omega))
            clear HRa hb4 hb3 HO2 HP2 HR2 HO1 HP1 HR1 hb2 hl3 hlO
            have HO4 := Lib.hid (show (w3.setRow B pp).heap[B + 1 + 1 + 1]? = some (.cells po 51) from by rw [setRow_other _ _ _ _ (by omega)]; exact HO3.out)
            have HP4 := Lib.hid (setRow_heap w3 B _ pp _ _ HP3.out)
            have HR4 := Lib.hid (show (w3.setRow B pp).heap[B + 1 + 1]? = some (.cells pzero 51) from by rw [setRow_other _ _ _ _ (by omega)]; exact HR3.out)
            have hb6 : Below B w (w3.setRow B pp) := below_setRow hb5 (Nat.le_refl _) _
            go_wp2_with (with_reducible refine wpList_store_row rfl 51 _ _ rfl B pp rfl rfl 51 _ HP3.out HIP.out HVS.out H1P.out ?_)
            go_roundw
            case rel => exact ⟨i + 1, by omega, by go_num, by rw [← hsuc], by rw [← Nat.add_assoc, ← HPP.out]; exact HP4.out, HR4.out, by rw [← Nat.add_assoc, ← HPO.out]; exact HO4.out, hb6⟩
            case measure => simp [intOf]; omega
        · have hd2 : decide ((i : Int) < 64) = false := by simp; omega
          obtain rfl : i = 64 := by omega
          go_wp2_with fail
          go_roundw
          case rel => exact ⟨h + 1, by omega, by go_num, by rw [show 64 * (h + 1) = 64 * h + 64 by omega]; exact HP.out, HR.out, by rw [show 64 * (h + 1) = 64 * h + 64 by omega]; exact HO.out, hb⟩
          case measure => simp [intOf]; omega
    · have hd : decide ((h : Int) < 2) = false := by simp; omega
      obtain rfl : h = 2 := by omega
      have HO2 : Hid (wr.heap[B + 1 + 1 + 1]? = some (.cells (pB (prodG a b)) 51)) := HO
      have HI : Hid ((Tryd.prog.info? 51).map (·.size) = some (pB (prodG a b)).size) := Lib.hid (sizeP _ _)
      have HS : Hid (pzero.size = (pB (prodG a b)).size) := Lib.hid rfl
      have H1 : Hid ((pB (prodG a b)).all (·.oneCell') = true) := Lib.hid (pw2_one _ _)
      clear HO
      generalize hrow : pB (prodG a b) = row at *
      have HROW := Lib.hid hrow
      clear hrow
      go_wp2_with (first
        | (with_reducible refine wpList_load_row rfl 51 _ rfl (B + 1 + 1 + 1) rfl 51 _ (0, 0) _ HO2.out Tryd.underlying51 rfl HI.out ?_)
        | (with_reducible refine wpList_store_row rfl 51 _ _ rfl (B + 1 + 1) row rfl rfl 51 _ HR.out HI.out HS.out H1.out ?_))
      exact bodyPost_ret (v := .agg row) (results_cell_row (by rfl) _ _ (B + 1 + 1) 51 _ (0, 0) _ rfl (setRow_heap _ _ _ _ _ _ HR.out) Tryd.underlying51 rfl HI.out) rfl ⟨by first | (with_reducible rfl) | rw [HROW.out], by rw [HBB.out]; exact below_setRow hb (by omega) _⟩
end Go.Proofs.YtoejkiblampecaaDoor
