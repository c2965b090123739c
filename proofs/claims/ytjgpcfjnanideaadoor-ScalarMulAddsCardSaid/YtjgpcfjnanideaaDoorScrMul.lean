/- The reference's MulAdd. -/
import Derived.Test.YtjgpcfjnanideaaDoorScrTop
namespace Go.Proofs.YtjgpcfjnanideaaDoor
open Go.RowKit Go.Sort
set_option maxRecDepth 100000
set_option linter.unusedSimpArgs false
set_option linter.unusedVariables false

/-- Thirty-two digits 0. -/
def noughts32 : List Nat := List.replicate 32 0
theorem pr_start (a b c : List Nat) : dcl noughts32 = dcl (prI a b c 0) := by
  rw [prI, show mkN 32 (fun _ => 0) = noughts32 by decide +kernel]
theorem makeF32 (W : World) : (Instr.makeSlice 37 (.int .i64 32) (.int .i64 32)).run Tryd.prog W = .ok (.slice (some ⟨W.heap.size, 0, none⟩) 32 32) (W.alloc (.cells (dcl noughts32) 3)) := by
  obtain ⟨i0, hi, hz0, hz1, hz2⟩ := info_parts infoF_int
  have h := run_make (P := Tryd.prog) W 37 3 i0 (.int .i64 0) Tryd.underlying37 hi hz0 .i64 .i64 32 32 (by omega) (by omega) (by rw [hz2]; omega) (by omega)
  have e : madeCells (Value.int .i64 0).cells ((32 : Int).toNat * i0.size) = dcl noughts32 := by rw [hz1, made_digits]; rfl
  rw [e] at h
  exact h
theorem rnd_small32 (v : List Nat) (hl : v.length = 32) (h : ∀ j, j < 32 → v.getD j 0 ≤ 1152921504606846976) (i : Nat) (hi : i < 32) : (rnd v i).2 ≤ 1152921504606846976 ∧ (rnd v i).1.getD i 0 = v.getD i 0 :=
  ⟨rnd_carry v _ (fun j => by
    by_cases hj : j < 32
    · exact h j hj
    · rw [List.getD_eq_getElem?_getD, List.getElem?_eq_none (by omega)]; simp) i (by omega), rnd_late v i (by omega) i (Nat.le_refl _)⟩

set_option maxHeartbeats 4000000 in
theorem rmulAddOk_any (a b c : ByteArray) (w : World) (ha : a.size = 32) (hb : b.size = 32) (hc : c.size = 32) :
    Calls Tryd.prog 15 #[.string a, .string b, .string c] w fun e w' => e = .returned (.tuple #[.string (txtN ((nV a.data.toList * nV b.data.toList + nV c.data.toList) % lF)), .int .i64 0]) ∧ Below w.heap.size w w' := by
  have d1 : ((a.size : Int) != 32) = false := by simp [ha]
  have d2 : ((b.size : Int) != 32) = false := by simp [hb]
  have d3 : ((c.size : Int) != 32) = false := by simp [hc]
  have al : a.data.toList.length = 2 * 16 := by rw [← Lib.size_eq]; exact ha
  have bl : b.data.toList.length = 2 * 16 := by rw [← Lib.size_eq]; exact hb
  have cl : c.data.toList.length = 2 * 16 := by rw [← Lib.size_eq]; exact hc
  have C1 := Lib.hid (fun W => digitsRef_any a 16 W ha (by decide) (by decide))
  have C2 := Lib.hid (fun W => digitsRef_any b 16 W hb (by decide) (by decide))
  have C3 := Lib.hid (fun W => digitsRef_any c 16 W hc (by decide) (by decide))
  have XL := Lib.hid (fun j hj => ofL_lt a.data.toList 16 j hj)
  have YL := Lib.hid (fun j hj => ofL_lt b.data.toList 16 j hj)
  have ZL := Lib.hid (fun j hj => ofL_lt c.data.toList 16 j hj)
  have HV := Lib.hid (mulAdd_digits (ofL a.data.toList 16) (ofL b.data.toList 16) (ofL c.data.toList 16) 32 16 rfl rfl XL.out YL.out ZL.out (prI_val _ _ _ 32 rfl 16 (Nat.le_refl _)) (prI_length _ _ _ 16))
  rw [ofL_val _ 16 al, ofL_val _ 16 bl, ofL_val _ 16 cl] at HV
  have HPL := Lib.hid (prI_le (ofL a.data.toList 16) (ofL b.data.toList 16) (ofL c.data.toList 16) XL.out YL.out ZL.out)
  generalize ofL a.data.toList 16 = x at *
  generalize ofL b.data.toList 16 = y at *
  generalize ofL c.data.toList 16 = z at *
  have HP0 := Lib.hid (pr_start x y z)
  have hmk := makeF32
  generalize hR : (nV a.data.toList * nV b.data.toList + nV c.data.toList) = R at *
  clear hR ha hb hc al bl cl
  go_enter Tryd.func15, Tryd.ntmps15
  go_wp2_with fail
  refine (C1.out w).mono ?_
  rintro e W1 ⟨⟨d1, rfl, hd1⟩, b1⟩
  have HX := Lib.hid hd1
  clear hd1 C1
  go_wp2_with fail
  refine (C2.out W1).mono ?_
  rintro e W2 ⟨⟨d2, rfl, hd2⟩, b2⟩
  have HY := Lib.hid hd2
  replace HX := Lib.hid (HX.out.step b2)
  replace b2 := b1.trans (b2.mono b1.size)
  clear hd2 C2 b1
  go_wp2_with fail
  refine (C3.out W2).mono ?_
  rintro e W3 ⟨⟨d3, rfl, hd3⟩, b3⟩
  have HZ := Lib.hid hd3
  replace HX := Lib.hid (HX.out.step b3)
  replace HY := Lib.hid (HY.out.step b3)
  replace b3 := b2.trans (b3.mono b2.size)
  clear hd3 C3 b2
  obtain ⟨Da, ca, rfl, hca⟩ := HX.out
  obtain ⟨Db, cb, rfl, hcb⟩ := HY.out
  obtain ⟨Dc, cc, rfl, hcc⟩ := HZ.out
  have hla := block_lt_of_cell (hca 0 (by decide)); have hlb := block_lt_of_cell (hcb 0 (by decide)); have hlc := block_lt_of_cell (hcc 0 (by decide))
  have HCA := Lib.hid hca; have HCB := Lib.hid hcb; have HCC := Lib.hid hcc
  have HO : Hid ((W3.alloc (.cells (dcl noughts32) 3)).heap[W3.heap.size]? = some (.cells (dcl (prI x y z 0)) 3)) := Lib.hid (by rw [← HP0.out]; exact blk_new W3 _)
  have hb0 := below_new W3 (.cells (dcl noughts32) 3)
  have HB3 := Lib.hid b3
  clear hca hcb hcc HX HY HZ b3
  go_wp2_with fail
  clear hmk
  generalize (W3.alloc (.cells (dcl noughts32) 3)) = V0 at *
  generalize hBB : W3.heap.size = O at *
  have HBB := Lib.hid hBB
  clear hBB
  go_loopw [12] (fun iv wr => ∃ i : Nat, i ≤ 16 ∧ iv = .int .i64 (i : Int) ∧ wr.heap[O]? = some (.cells (dcl (prI x y z i)) 3) ∧ Below O W3 wr) (fun iv _ => 16 - (intOf iv).toNat)
  case atStart => exact ⟨0, by omega, rfl, HO.out, hb0⟩
  case round =>
    clear HO hb0
    obtain ⟨i, hi, rfl, ho, hbl⟩ := hrel
    have HO := Lib.hid ho
    clear ho
    by_cases hi16 : i < 16
    · have hdi : decide ((i : Int) < 16) = true := by simp; omega
      have HN : Hid (prI x y z (i + 1) = prK x y i ((prI x y z i).set i ((prI x y z i).getD i 0 + z.getD i 0)) 16) := Lib.hid rfl
      have HM := Lib.hid (HPL.out i (by omega))
      have HMl := Lib.hid (prI_length x y z i)
      have hz16 := ZL.out i hi16
      have c1 := (hbl.cell (p := ⟨Dc, i, none⟩) hlc).trans (HCC.out i hi16)
      have c2 := dcl_cell HO.out i (by rw [HMl.out]; omega)
      have hmi := HM.out i (by omega)
      generalize prI x y z i = m at *
      have HZI : Hid (z.getD i 0 = z.getD i 0) := Lib.hid rfl
      generalize hzz : z.getD i 0 = zi at *
      generalize hmm : m.getD i 0 = mi at *
      have HMM := Lib.hid hmm
      have hs : (mi : Int) + (zi : Int) = ((mi + zi : Nat) : Int) := by omega
      have HS := Lib.hid hs
      clear hs hmm hzz HZI
      go_wp2_with fail
      have ka := cell_regrown c1; have kb := cell_regrown c2
      refine wp_region_reads_tail 12 (by kernel_rfl) (by kernel_rfl) ?_
      simp only [List.take_succ_cons, List.take_zero, List.drop_succ_cons, List.drop_zero]
      repeat (first | go_big_quiet_step (fail) | quiet_step (fail))
      refine wpQuiet_nil ?_
      intro V1 hb1
      have hO1 := blk_below hb1 (blk_lt HO.out) HO.out
      have hbl1 : Below O W3 V1 := hbl.trans (hb1.mono (Nat.le_of_lt (blk_lt HO.out)))
      have cz := dcl_cell hO1 i (by rw [HMl.out]; omega)
      have fz := frozen_of_row V1 O i _ _ hO1
      have s1 : (V1.setCell ⟨O, i, none⟩ (.int .i64 ((mi : Int) + (zi : Int)))).heap[O]? = some (.cells (dcl (m.set i (mi + zi))) 3) := by rw [HS.out]; exact dcl_set hO1 i _
      have HO2 := Lib.hid s1
      have hbl2 : Below O W3 (V1.setCell ⟨O, i, none⟩ (.int .i64 ((mi : Int) + (zi : Int)))) := hbl1.setCell (Nat.le_refl _) _
      have hml2 : (m.set i (mi + zi)).length = 32 := by rw [List.length_set]; exact HMl.out
      have HM2 : Hid (∀ j, j < 32 → (m.set i (mi + zi)).getD j 0 ≤ i * 68719542272 + 65536) := Lib.hid (fun j hj => by
        rw [nset_getD _ _ _ _ (by rw [HMl.out]; omega)]
        split
        · omega
        · exact Nat.le_trans (HM.out j hj) (Nat.le_add_right _ _))
      have HML2 := Lib.hid hml2
      clear s1 ka kb c1 c2 hb1 hO1 hbl hbl1 HO hml2 hmi hz16
      go_wp2_with fail
      generalize (V1.setCell _ _) = V2 at *
      generalize m.set i (mi + zi) = m2 at *
      clear cz fz
      go_loopw [13] (fun kv wr => ∃ k : Nat, k ≤ 16 ∧ kv = .int .i64 (k : Int) ∧ wr.heap[O]? = some (.cells (dcl (prK x y i m2 k)) 3) ∧ Below O W3 wr) (fun kv _ => 16 - (intOf kv).toNat)
      case atStart => exact ⟨0, by omega, rfl, HO2.out, hbl2⟩
      case round =>
        clear HO2 hbl2
        obtain ⟨k, hk, rfl, ho, hbl⟩ := hrel
        have HO := Lib.hid ho
        clear ho
        by_cases hk16 : k < 16
        · have hdk : decide ((k : Int) < 16) = true := by simp; omega
          have HR2 := Lib.hid (prK_le x y i m2 _ (XL.out i hi16) YL.out HML2.out hi16 HM2.out k (by omega))
          have HRl := Lib.hid (show (prK x y i m2 k).length = 32 from by rw [prK_length, HML2.out])
          have HRS : Hid (prK x y i m2 (k + 1) = (prK x y i m2 k).set (i + k) ((prK x y i m2 k).getD (i + k) 0 + x.getD i 0 * y.getD k 0)) := Lib.hid rfl
          have a1 := XL.out i hi16; have b1 := YL.out k hk16
          have p1 : x.getD i 0 * y.getD k 0 ≤ 4294836225 := Nat.mul_le_mul (show _ ≤ 65535 by omega) (show _ ≤ 65535 by omega)
          have c1 := (hbl.cell (p := ⟨Da, i, none⟩) hla).trans (HCA.out i hi16)
          have c2 := (hbl.cell (p := ⟨Db, k, none⟩) hlb).trans (HCB.out k hk16)
          have hik : i + k < 32 := by omega
          have z1 := HR2.out (i + k) hik
          generalize prK x y i m2 k = r at *
          have c3 := dcl_cell HO.out (i + k) (by rw [HRl.out]; exact hik)
          have q0 : (0 : Int) ≤ (i : Int) + (k : Int) := by omega
          have hij : ((i : Int) + (k : Int)).toNat = i + k := by omega
          generalize x.getD i 0 = p at *
          generalize y.getD k 0 = q at *
          generalize hzz : r.getD (i + k) 0 = zz at *
          have HZ0 := Lib.hid hzz
          have hpq : (p : Int) * (q : Int) = ((p * q : Nat) : Int) := by simp
          have hz : (zz : Int) + (p : Int) * (q : Int) = ((zz + p * q : Nat) : Int) := by simp
          have p0 : (0 : Int) ≤ (p : Int) * (q : Int) := by omega
          have p2 : (p : Int) * (q : Int) ≤ 4294836225 := by omega
          have hz1 : zz ≤ 45000000000000 := by omega
          have HZ2 := Lib.hid hz
          clear hz hpq p1 z1 hzz
          go_wp2_with fail
          have ka := cell_regrown c1; have kb := cell_regrown c2; have kc := cell_regrown c3
          refine wp_region_reads_tail 21 (by kernel_rfl) (by kernel_rfl) ?_
          simp only [List.take_succ_cons, List.take_zero, List.drop_succ_cons, List.drop_zero]
          repeat (first | go_big_quiet_step (fail) | quiet_step (fail))
          refine wpQuiet_nil ?_
          intro V3 hb1
          have hO1 := blk_below hb1 (blk_lt HO.out) HO.out
          have hbl1 : Below O W3 V3 := hbl.trans (hb1.mono (Nat.le_of_lt (blk_lt HO.out)))
          have cz := dcl_cell hO1 (i + k) (by rw [HRl.out]; exact hik)
          have fz := frozen_of_row V3 O (i + k) _ _ hO1
          have s1 : (V3.setCell ⟨O, i + k, none⟩ (.int .i64 ((zz : Int) + (p : Int) * (q : Int)))).heap[O]? = some (.cells (dcl (prK x y i m2 (k + 1))) 3) := by rw [HZ2.out, HRS.out]; exact dcl_set hO1 (i + k) _
          have HS1 := Lib.hid s1
          have hbl2 : Below O W3 (V3.setCell ⟨O, i + k, none⟩ (.int .i64 ((zz : Int) + (p : Int) * (q : Int)))) := hbl1.setCell (Nat.le_refl _) _
          clear s1 ka kb kc c1 c2 c3 hb1 hO1 hbl
          go_wp2_with fail
          go_roundw
          case rel => exact ⟨k + 1, by omega, by go_num, HS1.out, hbl2⟩
          case measure => simp [intOf]; omega
        · have hdk : decide ((k : Int) < 16) = false := by simp; omega
          obtain rfl : k = 16 := by omega
          rw [← HN.out] at HO
          go_wp2_with fail
          go_roundw
          case rel => exact ⟨i + 1, by omega, by go_num, HO.out, hbl⟩
          case measure => simp [intOf]; omega
    · have hdi : decide ((i : Int) < 16) = false := by simp; omega
      obtain rfl : i = 16 := by omega
      have hle : ∀ j, j < 32 → (prI x y z 16).getD j 0 ≤ 1152921504606846976 := fun j hj => by have := HPL.out 16 (by omega) j hj; omega
      have HUl := Lib.hid (prI_length x y z 16)
      have HU := Lib.hid hle
      generalize prI x y z 16 = u at *
      clear hle
      go_wp2_with fail
      go_loopw [14, 15] (fun cv iv wr => ∃ i : Nat, i ≤ 32 ∧ iv = .int .i64 (i : Int) ∧ cv = .int .i64 (((rnd u i).2 : Nat) : Int) ∧ wr.heap[O]? = some (.cells (dcl (rnd u i).1) 3) ∧ Below O W3 wr) (fun _ iv _ => 32 - (intOf iv).toNat)
      case atStart => exact ⟨0, by omega, rfl, rfl, HO.out, hbl⟩
      case round =>
        clear HO hbl
        obtain ⟨i, hi, rfl, rfl, ho, hbl⟩ := hrel
        have HD := Lib.hid ho
        clear ho
        by_cases hi32 : i < 32
        · have hdi : decide ((i : Int) < 32) = true := by simp; omega
          obtain ⟨q1, e1⟩ := rnd_small32 u HUl.out HU.out i hi32
          have b1 := HU.out i hi32
          have HRS1 : Hid ((rnd u (i + 1)).1 = (rnd u i).1.set i (((rnd u i).1.getD i 0 + (rnd u i).2) % 65536)) := Lib.hid rfl
          have HRS2 : Hid ((rnd u (i + 1)).2 = ((rnd u i).1.getD i 0 + (rnd u i).2) / 65536) := Lib.hid rfl
          have hrl : (rnd u i).1.length = 32 := by rw [rnd_length, HUl.out]
          rw [e1] at HRS1 HRS2
          have cx := dcl_cell HD.out i (by omega)
          rw [e1] at cx
          clear e1
          generalize hxx : u.getD i 0 = d at *
          generalize (rnd u i).2 = n at *
          generalize (rnd u i).1 = r at *
          clear hxx
          have fx := frozen_of_row wr O i _ _ HD.out
          have ha := and_16 (d + n) (by omega)
          rw [show ((d + n : Nat) : Int) = (n : Int) + (d : Int) by omega] at ha
          have r1 := dcl_set HD.out i ((d + n) % 65536)
          rw [← HRS1.out] at r1
          have HR2 := Lib.hid r1
          have hb2 : Below O W3 (wr.setCell ⟨O, i, none⟩ (.int .i64 (((d + n) % 65536 : Nat) : Int))) := hbl.setCell (Nat.le_refl _) _
          clear r1 HRS1 hbl
          generalize (d + n) % 65536 = lo at *
          go_wp2_with fail
          go_roundw
          case rel => exact ⟨i + 1, by omega, by go_num, by rw [HRS2.out]; go_num, HR2.out, hb2⟩
          case measure => simp [intOf]; omega
        · have hdi : decide ((i : Int) < 32) = false := by simp; omega
          obtain rfl : i = 32 := by omega
          obtain ⟨v1, v2⟩ := HV.out
          have hrl : (rnd u 32).1.length = 32 := by rw [rnd_length, HUl.out]
          generalize (rnd u 32).1 = r at *
          have HDg : Hid (DigsAt wr 32 (.slice (some ⟨O, 0, none⟩) 32 32) r) := Lib.hid ⟨O, 32, rfl, fun j hj => dcl_cell HD.out j (by omega)⟩
          have C4 := Lib.hid (restRef_any _ r 32 wr (by decide) v1 HDg.out (by decide))
          rw [v2] at C4
          have C5 := Lib.hid (fun d W hW => bytesRef10_any d (R % lF) W hW)
          have hsO : O ≤ wr.heap.size := Nat.le_of_lt (blk_lt HD.out)
          generalize hxx : R % lF = X at *
          have HXX := Lib.hid hxx
          clear hxx
          clear v1 v2 HD HDg
          go_wp2_with fail
          refine C4.out.mono ?_
          rintro e W5 ⟨⟨d5, rfl, hd5⟩, b5⟩
          have HD5 := Lib.hid hd5
          replace b5 := hbl.trans (b5.mono hsO)
          have hs5 : O ≤ W5.heap.size := by have := b5.size; rw [HBB.out] at this; exact this
          clear hd5 C4
          go_wp2_with fail
          refine (C5.out d5 W5 HD5.out).mono ?_
          rintro e W6 ⟨rfl, b6⟩
          replace b6 := b5.trans (b6.mono hs5)
          go_wp2_with fail
          go_ret2
          exact ⟨by first | rfl | (rw [HXX.out]; rfl), HB3.out.trans (b6.mono (by rw [← HBB.out]; exact HB3.out.size))⟩

set_option maxHeartbeats 1000000 in
theorem rmulAddBad_any (a b c : ByteArray) (w : World) (h : ¬ okM a b c) :
    Calls Tryd.prog 15 #[.string a, .string b, .string c] w fun e w' => e = .returned (.tuple #[.string ⟨#[]⟩, .int .i64 1]) ∧ w' = w := by
  by_cases ha : a.size = 32
  · have d1 : ((a.size : Int) != 32) = false := by simp [ha]
    by_cases hb : b.size = 32
    · have hc : c.size ≠ 32 := fun hc => h ⟨ha, hb, hc⟩
      have d2 : ((b.size : Int) != 32) = false := by simp [hb]
      have d3 : ((c.size : Int) != 32) = true := by simp; omega
      clear h ha hb hc
      go_enter Tryd.func15, Tryd.ntmps15
      go_wp2_with fail
      go_ret2
      exact ⟨rfl, rfl⟩
    · have d2 : ((b.size : Int) != 32) = true := by simp; omega
      clear h ha hb
      go_enter Tryd.func15, Tryd.ntmps15
      go_wp2_with fail
      go_ret2
      exact ⟨rfl, rfl⟩
  · have d1 : ((a.size : Int) != 32) = true := by simp; omega
    clear h ha
    go_enter Tryd.func15, Tryd.ntmps15
    go_wp2_with fail
    go_ret2
    exact ⟨rfl, rfl⟩
theorem rmulAdd_any (a b c : ByteArray) (w : World) :
    Calls Tryd.prog 15 #[.string a, .string b, .string c] w fun e w' => e = .returned (.tuple #[.string (maX a b c), .int .i64 (maE a b c)]) ∧ Below w.heap.size w w' := by
  by_cases h : okM a b c
  · rw [maX, maE, if_pos h, if_pos h]
    exact rmulAddOk_any a b c w h.1 h.2.1 h.2.2
  · rw [maX, maE, if_neg h, if_neg h]
    exact (rmulAddBad_any a b c w h).mono fun e w' ⟨h1, h2⟩ => ⟨h1, h2 ▸ Below.refl _ _⟩
end Go.Proofs.YtjgpcfjnanideaaDoor
