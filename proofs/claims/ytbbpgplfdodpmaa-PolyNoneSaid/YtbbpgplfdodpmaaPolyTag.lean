/- The reference's Tag. -/
import Derived.Test.YtbbpgplfdodpmaaPolyTagC
namespace Go.Proofs.Ytbbpgplfdodpmaa
open Go.RowKit Go.Sort
set_option maxRecDepth 100000
set_option linter.unusedSimpArgs false
set_option linter.unusedVariables false

/-- Sixteen bytes lie in block b. -/
structure BInv (W : World) (b : Nat) (l : List UInt8) : Prop where
  len : l.length = 16
  c : ∀ j, j < 16 → W.cell? ⟨b, j, none⟩ = some (.int .u8 (l.getD j 0).toNat)
  f : ∀ j, j < 16 → W.frozen? ⟨b, j, none⟩ = false
theorem BInv.lt {W : World} {b : Nat} {l : List UInt8} (i : BInv W b l) : b < W.heap.size := block_lt_of_cell (i.c 0 (by omega))
theorem BInv.set {W : World} {b : Nat} {l : List UInt8} (i : BInv W b l) (k : Nat) (hk : k < 16) (x : UInt8) : BInv (W.setCell ⟨b, k, none⟩ (.int .u8 x.toNat)) b (l.set k x) := by
  have hl := i.len
  refine ⟨by simpa using hl, fun j hj => ?_, fun j hj => by rw [World.frozen?_setCell]; exact i.f j hj⟩
  by_cases hjk : j = k
  · subst hjk
    have e : (l.set j x).getD j 0 = x := by simp [List.getD_eq_getElem?_getD, hl, hj]
    rw [e]
    exact World.cell?_setCell_same _ _ _ (i.c j hj)
  · have e : (l.set k x).getD j 0 = l.getD j 0 := by simp [List.getD_eq_getElem?_getD, List.getElem?_set, Ne.symm hjk]
    rw [e, ← i.c j hj]
    exact World.cell?_setCell_other _ _ _ _ (by first | (simp; done) | (simp; omega) | (intro e; cases e; exact hjk rfl))
theorem byteCells_get (l : List UInt8) (j : Nat) (h : j < l.length) : (Lib.byteCells l)[j]? = some (.int .u8 (l.getD j 0).toNat) := by simp [Lib.byteCells, h]

theorem index_key (s : ByteArray) (i : Int) (j : Nat) (hi : i = (j : Int)) (h : j < s.size) (w : World) : (Instr.index 9 (.string s) (.int .i64 i)).run Try.prog w = .ok (.int .u8 (s[j].toNat : Int)) w := by
  subst hi
  rw [run_index_string (P := Try.prog) w 9 s .i64 (j : Int) Try.underlying9]
  simp [h]
def strLn (v : Value) : Nat := match v with | .string s => s.size | _ => 0
set_option maxHeartbeats 6000000 in
theorem refTag_any (key data : ByteArray) (w : World) (hk : key.size = 32) (hd : data.size ≤ 1048576) :
    Calls Try.prog 9 #[.string key, .string data] w fun e w' => e = .returned (.tuple #[.string ⟨(polyTag key.data.toList data.data.toList).toArray⟩, .int .i64 0]) ∧ Below w.heap.size w w' := by
  obtain ⟨i8, hi8, hy0, hy1, hy2⟩ := info_parts info_u8
  have hd1 : ((key.size : Int) != 32) = false := by simp [hk]
  have h16 : (16 : Int) ≤ (key.size : Int) := by omega
  have hkl : (key.extract 0 16).data.toList = key.data.toList.take 16 := by rw [Lib.extract_data]; simp
  have hks : (key.extract 0 16).size = 16 := by rw [Lib.size_eq, hkl, List.length_take, ← Lib.size_eq]; omega
  obtain ⟨ao0, cap0, hcv, hown0, hb0⟩ := run_convert_string_bytes_own (key.extract 0 16) w
  rw [hks] at hcv hown0
  obtain ⟨G, cG, hvG, hoG, hGlt⟩ := hown0.some (by rw [Lib.byteCells_length, ← Lib.size_eq]; omega)
  have hlG : (Lib.byteCells (key.extract 0 16).data.toList).length = 16 := by rw [Lib.byteCells_length, ← Lib.size_eq]; exact hks
  rw [hlG] at hvG
  cases hvG
  have hGB := hoG.base
  have hI0 : BInv (Lib.bytesWorld w 5 (key.extract 0 16)) G (cl1 (key.data.toList.take 16) 0) := by
    refine ⟨?_, fun j hj => hoG.cells j _ ?_, fun j hj => (hoG.room j ?_).2⟩
    · rw [cl1, ← hkl, ← Lib.size_eq]; exact hks
    · rw [cl1, ← hkl]; exact byteCells_get _ j (by rw [← Lib.size_eq]; omega)
    · have := hoG.le; rw [hlG] at this; omega
  have HI0 := Lib.hid hI0
  have HK := Lib.hid hk
  have hsB0 := hb0.size
  clear hk hkl hoG hown0 hlG hI0 hGlt
  go_enter Try.func9, Try.ntmps9
  go_wp2_with fail
  clear hcv
  generalize Lib.bytesWorld w 5 (key.extract 0 16) = W0 at *
  generalize hBB : w.heap.size = B at *
  have HBB := Lib.hid hBB
  clear hBB
  generalize hkl : key.data.toList.take 16 = kl at *
  have HKL := Lib.hid hkl
  clear hkl
  go_loopw [7] (fun iv wr => ∃ (m a : Nat), m ≤ 4 ∧ Hid (a = 3 + 4 * m) ∧ iv = .int .i64 (a : Int) ∧ BInv wr G (cl1 kl m) ∧ Below B w wr ∧ B ≤ wr.heap.size) (fun iv _ => 20 - (intOf iv).toNat)
  case atStart => exact ⟨0, 3, by omega, Lib.hid rfl, rfl, HI0.out, hb0, hsB0⟩
  case round =>
    clear HI0 hb0 hsB0
    obtain ⟨m, a, hm, HA, rfl, hI, hb, hsz⟩ := hrel
    have HI := Lib.hid hI
    clear hI
    by_cases hm4 : m < 4
    · have ha16 : a < 16 := by have := HA.out; omega
      have hda : decide ((a : Int) < 16) = true := by simp; omega
      have HN : Hid (cl1 kl (m + 1) = (cl1 kl m).set a (andB 15 ((cl1 kl m).getD a 0))) := Lib.hid (by rw [HA.out]; rfl)
      have cx := HI.out.c a ha16
      have fx := HI.out.f a ha16
      have HX := Lib.hid (andB_toNat 15 ((cl1 kl m).getD a 0))
      have hI2 := HI.out.set a ha16 (andB 15 ((cl1 kl m).getD a 0))
      rw [← HN.out, HX.out] at hI2
      have HI2 := Lib.hid hI2
      generalize (cl1 kl m).getD a 0 = x at *
      have hb2 : Below B w (wr.setCell ⟨G, a, none⟩ (.int .u8 (bits .and .u8 (x.toNat : Int) 15))) := hb.setCell hGB _
      have hsz2 : B ≤ (wr.setCell ⟨G, a, none⟩ (.int .u8 (bits .and .u8 (x.toNat : Int) 15))).heap.size := by simpa [World.setCell] using hsz
      clear hI2 HN HX
      go_wp2_with fail
      go_roundw
      case rel => exact ⟨m + 1, a + 4, by omega, Lib.hid (by have := HA.out; omega), by go_num, HI2.out, hb2, hsz2⟩
      case measure => simp [intOf]; omega
    · obtain rfl : m = 4 := by omega
      obtain rfl : a = 19 := by have := HA.out; omega
      rw [show ((19 : Nat) : Int) = (19 : Int) from rfl]
      generalize hkl : cl1 kl 4 = k1 at *
      have HKL1 := Lib.hid hkl
      clear hkl
      go_wp2_with fail
      go_loopw [8] (fun iv wr => ∃ (m a : Nat), m ≤ 3 ∧ Hid (a = 4 + 4 * m) ∧ iv = .int .i64 (a : Int) ∧ BInv wr G (cl2 k1 m) ∧ Below B w wr ∧ B ≤ wr.heap.size) (fun iv _ => 20 - (intOf iv).toNat)
      case atStart => exact ⟨0, 4, by omega, Lib.hid rfl, rfl, HI.out, hb, hsz⟩
      case round =>
        clear HI hb hsz HA hm hm4
        obtain ⟨m, a, hm, HA, rfl, hI, hb, hsz⟩ := hrel
        have HI := Lib.hid hI
        clear hI
        by_cases hm3 : m < 3
        · have ha16 : a < 16 := by have := HA.out; omega
          have hda : decide ((a : Int) < 16) = true := by simp; omega
          have HN : Hid (cl2 k1 (m + 1) = (cl2 k1 m).set a (andB 252 ((cl2 k1 m).getD a 0))) := Lib.hid (by rw [HA.out]; rfl)
          have cx := HI.out.c a ha16
          have fx := HI.out.f a ha16
          have HX := Lib.hid (andB_toNat 252 ((cl2 k1 m).getD a 0))
          have hI2 := HI.out.set a ha16 (andB 252 ((cl2 k1 m).getD a 0))
          rw [← HN.out, HX.out] at hI2
          have HI2 := Lib.hid hI2
          generalize (cl2 k1 m).getD a 0 = x at *
          have hb2 : Below B w (wr.setCell ⟨G, a, none⟩ (.int .u8 (bits .and .u8 (x.toNat : Int) 252))) := hb.setCell hGB _
          have hsz2 : B ≤ (wr.setCell ⟨G, a, none⟩ (.int .u8 (bits .and .u8 (x.toNat : Int) 252))).heap.size := by simpa [World.setCell] using hsz
          clear hI2 HN HX
          go_wp2_with fail
          go_roundw
          case rel => exact ⟨m + 1, a + 4, by omega, Lib.hid (by have := HA.out; omega), by go_num, HI2.out, hb2, hsz2⟩
          case measure => simp [intOf]; omega
        · obtain rfl : m = 3 := by omega
          obtain rfl : a = 16 := by have := HA.out; omega
          rw [show ((16 : Nat) : Int) = (16 : Int) from rfl]
          have HCl := Lib.hid (show clampL kl = cl2 k1 3 from by rw [clampL, HKL1.out])
          have hl16 : (cl2 k1 3).length = 16 := HI.out.len
          have hcv := run_string_row wr G cap0 (cl2 k1 3) (fun j x hx => by
            have hj : j < 16 := by rw [← hl16]; exact (List.getElem?_eq_some_iff.1 hx).1
            rw [HI.out.c j hj, List.getD_eq_getElem?_getD, hx]; rfl)
          rw [hl16] at hcv
          have HR := Lib.hid (show polyR key.data.toList = (leN (cl2 k1 3) : Int) from by rw [polyR, HKL.out, HCl.out])
          have hlt := leN_lt (cl2 k1 3)
          rw [hl16] at hlt
          generalize cl2 k1 3 = rl at *
          clear HI HCl HKL1 HA hm hm3
          go_wp2_with fail
          clear hcv
          have hr130 : leN rl < 2 ^ 130 := Nat.lt_trans hlt (by decide)
          refine (digits_any ⟨rl.toArray⟩ wr (by rw [Lib.size_eq]; simp [hl16]) (by simpa using hr130)).mono ?_
          rintro e W2 ⟨Dr, rfl, hDrB, hDr, hb2⟩
          simp only [List.toList_toArray] at hDr
          have hB2 : Below B w W2 := hb.trans (hb2.mono hsz)
          have hs2 := Nat.le_trans hsz hb2.size
          have HDr := Lib.hid hDr
          have hBDr : B ≤ Dr := Nat.le_trans hsz hDrB
          clear hb hb2 hDr hDrB hsz
          have hmk := make10
          have HD0 := Lib.hid (show (W2.alloc (.cells zeros10 3)).heap[W2.heap.size]? = some (.cells (ic (List.replicate 10 0)) 3) from blk_new W2 _)
          have HDr3 := Lib.hid (blk_old (o := .cells zeros10 3) HDr.out)
          have hDrlt := blk_lt HDr.out
          have hB3 : Below B w (W2.alloc (.cells zeros10 3)) := hB2.alloc hs2 _
          have hs3 : B ≤ (W2.alloc (.cells zeros10 3)).heap.size := by simp; omega
          have HRd := Lib.hid (digL_in (leN rl)); have HRl := Lib.hid (digL_length (leN rl)); have HRv := Lib.hid (digL_V (leN rl) hr130)
          clear HDr
          go_wp2_with fail
          clear hmk hB2 hlt hr130
          generalize (W2.alloc (.cells zeros10 3)) = W3 at *
          generalize W2.heap.size = D0 at *
          generalize digL (leN rl) = rd at *
          generalize hRn : (leN rl : Int) = R at *
          clear hRn
          go_loopw [1, 10] (fun sv av wr => ∃ (m D : Nat) (va : List Int) (rem : ByteArray), 16 * m ≤ data.size + 15 ∧ sv = .string rem ∧ av = .slice (some ⟨D, 0, none⟩) 10 10 ∧ rem.data.toList = data.data.toList.drop (16 * m) ∧ wr.heap[D]? = some (.cells (ic va) 3) ∧ va.length = 10 ∧ digitsIn 8191 va ∧ polyV va % polyP = polyG R data.data.toList m ∧ wr.heap[Dr]? = some (.cells (ic rd) 3) ∧ D ≠ Dr ∧ B ≤ D ∧ Below B w wr ∧ B ≤ wr.heap.size) (fun sv _ _ => strLn sv)
          case atStart => exact ⟨0, D0, List.replicate 10 0, data, by omega, rfl, rfl, by simp, HD0.out, by simp, fun x hx => by have := List.eq_of_mem_replicate hx; omega, by rw [polyV_zeros]; rfl, HDr3.out, by omega, hs2, hB3, hs3⟩
          case round =>
            clear HD0 HDr3 hB3 hs3 hDrlt hs2
            obtain ⟨m, D, va, rem, hm, rfl, rfl, hrem, hD, hvl, hvd, hvg, hDr, hDD, hBD, hb, hsz⟩ := hrel
            have HD := Lib.hid hD; have HDr := Lib.hid hDr; have HVl := Lib.hid hvl; have HVd := Lib.hid hvd; have HVg := Lib.hid hvg; have HRem := Lib.hid hrem
            have HRS := Lib.hid (show rem.size = data.size - 16 * m from by rw [Lib.size_eq, hrem, List.length_drop, ← Lib.size_eq])
            have hrle : rem.size ≤ 1048576 := by rw [HRS.out]; omega
            clear hD hDr hvl hvd hvg hrem
            by_cases hpos : 0 < rem.size
            · have hdp : decide ((0 : Int) < (rem.size : Int)) = true := by simp; omega
              by_cases hbig : 16 ≤ rem.size
              · have hb1 : (16 : Int) ≤ (rem.size : Int) := by omega
                have HPc := Lib.hid (piece_take rem _ HRem.out 16 (by omega))
                have hps : (rem.extract 0 16 ++ (⟨#[1]⟩ : ByteArray)).size ≤ 17 := by
                  rw [Lib.size_eq, HPc.out, List.length_append, List.length_take, List.length_cons, List.length_nil]; omega
                have hp130 : leN (rem.extract 0 16 ++ (⟨#[1]⟩ : ByteArray)).data.toList < 2 ^ 130 := by
                  rw [HPc.out]; exact piece_lt _ (by rw [List.length_take]; omega)
                have HDg := Lib.hid (fun W => digits_any (rem.extract 0 16 ++ (⟨#[1]⟩ : ByteArray)) W hps hp130)
                rw [HPc.out] at HDg
                have HPn : Hid (leN ((data.data.toList.drop (16 * m)).take 16 ++ [1]) = pieceN data.data.toList m) := Lib.hid rfl
                rw [HPn.out] at HDg
                rw [HPc.out, HPn.out] at hp130
                have HDV := Lib.hid (digL_V _ hp130); have HDi := Lib.hid (digL_in (pieceN data.data.toList m)); have HDl := Lib.hid (digL_length (pieceN data.data.toList m))
                have hnx := piece_drop rem _ HRem.out 16 (by omega)
                rw [List.drop_drop, show 16 * m + 16 = 16 * (m + 1) by omega] at hnx
                have HNx := Lib.hid hnx
                clear hnx
                have HNXS := Lib.hid (show (rem.extract 16 rem.size).size < rem.size from by rw [ByteArray.size_extract]; omega)
                have HGs : Hid (polyG R data.data.toList (m + 1) = (polyG R data.data.toList m + (pieceN data.data.toList m : Int)) * R % polyP) := Lib.hid rfl
                clear hps hp130 HPc HPn
                generalize digL (pieceN data.data.toList m) = dd at *
                generalize (pieceN data.data.toList m : Int) = pn at *
                go_wp2_with fail
                refine (HDg.out wr).mono ?_
                rintro e W4 ⟨De, rfl, hDeB, hDe, hb4⟩
                have hD4 := blk_below hb4 (blk_lt HD.out) HD.out
                have hDr4 := blk_below hb4 (blk_lt HDr.out) HDr.out
                have hDDe : D ≠ De := by have := blk_lt HD.out; omega
                have hB4 : Below B w W4 := hb.trans (hb4.mono hsz)
                have hs4 := Nat.le_trans hsz hb4.size
                have HD4 := Lib.hid hD4; have HDr4 := Lib.hid hDr4; have HDe := Lib.hid hDe
                clear HDg hb4 hb hsz HD HDr hD4 hDr4 hDe hDeB
                go_wp2_with fail
                go_loopw [13] (fun iv wr => ∃ i : Nat, i ≤ 10 ∧ iv = .int .i64 i ∧ wr.heap[D]? = some (.cells (ic (sumL va dd i)) 3) ∧ But D W4 wr) (fun iv _ => 10 - (intOf iv).toNat)
                case atStart => exact ⟨0, by omega, rfl, HD4.out, But.refl _ _⟩
                case round =>
                  clear HD4
                  obtain ⟨i, hi, rfl, hd5, hbut⟩ := hrel
                  have HD5 := Lib.hid hd5
                  clear hd5
                  by_cases hi10 : i < 10
                  · have hdi : decide ((i : Int) < 10) = true := by simp; omega
                    have HSn : Hid (sumL va dd (i + 1) = (sumL va dd i).set i ((sumL va dd i).getD i 0 + dd.getD i 0)) := Lib.hid rfl
                    have HSl := Lib.hid (show (sumL va dd i).length = 10 from by rw [sumL_length, HVl.out])
                    obtain ⟨x0, x1⟩ := getD_in (sumL_in va dd HVd.out HDi.out HVl.out HDl.out i (by omega)) i (by rw [HSl.out]; exact hi10)
                    obtain ⟨y0, y1⟩ := getD_in HDi.out i (by rw [HDl.out]; exact hi10)
                    have hDe5 := (hbut.block De (blk_lt HDe.out) (Ne.symm hDDe)).trans HDe.out
                    have cx := ic_cell HD5.out i (by rw [HSl.out]; exact hi10)
                    have cy := ic_cell hDe5 i (by rw [HDl.out]; exact hi10)
                    generalize (sumL va dd i).getD i 0 = x at *
                    generalize dd.getD i 0 = y at *
                    clear hDe5
                    go_wp2_with fail
                    have kx := cell_regrown cx; have ky := cell_regrown cy
                    refine wp_region_reads_tail 12 (by kernel_rfl) (by kernel_rfl) ?_
                    simp only [List.take_succ_cons, List.take_zero, List.drop_succ_cons, List.drop_zero]
                    repeat (first | go_big_quiet_step (fail) | quiet_step (fail))
                    refine wpQuiet_nil ?_
                    intro W5 hb5
                    have hD6 := blk_below hb5 (blk_lt HD5.out) HD5.out
                    have cz := ic_cell hD6 i (by rw [HSl.out]; exact hi10)
                    have fz := frozen_of_row W5 D i _ _ hD6
                    have s1 := heap_setCell_same W5 D i _ _ (.int .i64 (x + y)) hD6
                    rw [ic_set, ← HSn.out] at s1
                    have HS1 := Lib.hid s1
                    have hbut2 := (hbut.trans (But.of_below hb5)).trans (But.setCell D W5 ⟨D, i, none⟩ (.int .i64 (x + y)) rfl)
                    clear s1 kx ky cx cy hb5 hD6 hbut HSn
                    go_wp2_with fail
                    go_roundw
                    case rel => exact ⟨i + 1, by omega, by go_num, HS1.out, hbut2⟩
                    case measure => simp [intOf]; omega
                  · have hdi : decide ((i : Int) < 10) = false := by simp; omega
                    obtain rfl : i = 10 := by omega
                    rw [show ((10 : Nat) : Int) = (10 : Int) from rfl]
                    have HSl := Lib.hid (show (sumL va dd 10).length = 10 from by rw [sumL_length, HVl.out])
                    have hsin : digitsIn 68719476736 (sumL va dd 10) := fun z hz => by
                      obtain ⟨h0, h1⟩ := sumL_in va dd HVd.out HDi.out HVl.out HDl.out 10 (by omega) z hz
                      exact ⟨h0, by omega⟩
                    have HSV := Lib.hid (sumL_V va dd HVl.out HDl.out 10 (by omega))
                    have HCd := Lib.hid (carry3_digits _ HSl.out hsin)
                    have HCl := Lib.hid (show (carry3 (sumL va dd 10)).length = 10 from by rw [carry3_length, HSl.out])
                    obtain ⟨q, hq⟩ := carry3_V (sumL va dd 10) HSl.out
                    have HCV := Lib.hid hq
                    clear hq
                    go_wp2_with fail
                    refine (carried_any D (sumL va dd 10) wr HD5.out HSl.out hsin).mono ?_
                    rintro e W6 ⟨rfl, hD6, hbut6⟩
                    have hbutA := hbut.trans hbut6
                    have hDr6 := (hbutA.block Dr (blk_lt HDr4.out) (Ne.symm hDD)).trans HDr4.out
                    have hB6 : Below B w W6 := hB4.trans (hbutA.below hBD hs4)
                    have hs6 := Nat.le_trans hs4 hbutA.size
                    have HD6 := Lib.hid hD6; have HDr6 := Lib.hid hDr6
                    clear hD6 hDr6 hbut6 hbut hbutA HD5 HDr4 HDe hB4 hs4 hsin
                    generalize carry3 (sumL va dd 10) = cs at *
                    go_wp2_with fail
                    refine (times_any D Dr cs rd W6 HD6.out HDr6.out HCl.out HRl.out HCd.out HRd.out).mono ?_
                    rintro e W7 ⟨O, rfl, hOB, hO, hb7⟩
                    obtain ⟨md, ml, mv⟩ := mul_digits cs rd HCd.out HRd.out HCl.out HRl.out
                    have HMG := Lib.hid (show polyV (carry3 (mulL cs rd 10)) % polyP = polyG R data.data.toList (m + 1) from by
                      rw [mv, HGs.out, HCV.out, HSV.out, List.take_of_length_le (show dd.length ≤ 10 by rw [HDl.out]; exact Nat.le_refl _), HDV.out, HRv.out]
                      exact step_mod _ _ _ _ _ HVg.out)
                    have hDr7 := blk_below hb7 (blk_lt HDr6.out) HDr6.out
                    have hODr : O ≠ Dr := by have := blk_lt HDr6.out; omega
                    have hB7 : Below B w W7 := hB6.trans (hb7.mono hs6)
                    have hs7 := Nat.le_trans hs6 hb7.size
                    have hBO : B ≤ O := Nat.le_trans hs6 hOB
                    have HO := Lib.hid hO; have HDr7 := Lib.hid hDr7; have HMd := Lib.hid md; have HMl := Lib.hid ml
                    clear hO hDr7 hb7 hOB hB6 hs6 HD6 HDr6 md ml mv
                    generalize carry3 (mulL cs rd 10) = vn at *
                    go_wp2_with fail
                    go_roundw
                    case rel => exact ⟨m + 1, O, vn, _, by have := HRS.out; omega, rfl, rfl, HNx.out, HO.out, HMl.out, HMd.out, HMG.out, HDr7.out, hODr, hBO, hB7, hs7⟩
                    case measure => exact HNXS.out
              · have hb1 : (rem.size : Int) < 16 := by omega
                have hb1' : ¬ (16 : Int) ≤ (rem.size : Int) := by omega
                have HPc := Lib.hid (piece_whole rem _ HRem.out (by omega))
                have hps : (rem ++ (⟨#[1]⟩ : ByteArray)).size ≤ 17 := by
                  rw [Lib.size_eq, HPc.out, List.length_append, List.length_take, List.length_cons, List.length_nil]; omega
                have hp130 : leN (rem ++ (⟨#[1]⟩ : ByteArray)).data.toList < 2 ^ 130 := by
                  rw [HPc.out]; exact piece_lt _ (by rw [List.length_take]; omega)
                have HDg := Lib.hid (fun W => digits_any (rem ++ (⟨#[1]⟩ : ByteArray)) W hps hp130)
                rw [HPc.out] at HDg
                have HPn : Hid (leN ((data.data.toList.drop (16 * m)).take 16 ++ [1]) = pieceN data.data.toList m) := Lib.hid rfl
                rw [HPn.out] at HDg
                rw [HPc.out, HPn.out] at hp130
                have HDV := Lib.hid (digL_V _ hp130); have HDi := Lib.hid (digL_in (pieceN data.data.toList m)); have HDl := Lib.hid (digL_length (pieceN data.data.toList m))
                have HNx := Lib.hid (show ByteArray.empty.data.toList = data.data.toList.drop (16 * (m + 1)) from by
                  rw [List.drop_of_length_le (show data.data.toList.length ≤ 16 * (m + 1) by rw [← Lib.size_eq]; have := HRS.out; omega)]; rfl)
                have HNXS := Lib.hid (show ByteArray.empty.size < rem.size from hpos)
                have HGs : Hid (polyG R data.data.toList (m + 1) = (polyG R data.data.toList m + (pieceN data.data.toList m : Int)) * R % polyP) := Lib.hid rfl
                clear hps hp130 HPc HPn
                generalize digL (pieceN data.data.toList m) = dd at *
                generalize (pieceN data.data.toList m : Int) = pn at *
                go_wp2_with fail
                refine (HDg.out wr).mono ?_
                rintro e W4 ⟨De, rfl, hDeB, hDe, hb4⟩
                have hD4 := blk_below hb4 (blk_lt HD.out) HD.out
                have hDr4 := blk_below hb4 (blk_lt HDr.out) HDr.out
                have hDDe : D ≠ De := by have := blk_lt HD.out; omega
                have hB4 : Below B w W4 := hb.trans (hb4.mono hsz)
                have hs4 := Nat.le_trans hsz hb4.size
                have HD4 := Lib.hid hD4; have HDr4 := Lib.hid hDr4; have HDe := Lib.hid hDe
                clear HDg hb4 hb hsz HD HDr hD4 hDr4 hDe hDeB
                go_wp2_with fail
                go_loopw [13] (fun iv wr => ∃ i : Nat, i ≤ 10 ∧ iv = .int .i64 i ∧ wr.heap[D]? = some (.cells (ic (sumL va dd i)) 3) ∧ But D W4 wr) (fun iv _ => 10 - (intOf iv).toNat)
                case atStart => exact ⟨0, by omega, rfl, HD4.out, But.refl _ _⟩
                case round =>
                  clear HD4
                  obtain ⟨i, hi, rfl, hd5, hbut⟩ := hrel
                  have HD5 := Lib.hid hd5
                  clear hd5
                  by_cases hi10 : i < 10
                  · have hdi : decide ((i : Int) < 10) = true := by simp; omega
                    have HSn : Hid (sumL va dd (i + 1) = (sumL va dd i).set i ((sumL va dd i).getD i 0 + dd.getD i 0)) := Lib.hid rfl
                    have HSl := Lib.hid (show (sumL va dd i).length = 10 from by rw [sumL_length, HVl.out])
                    obtain ⟨x0, x1⟩ := getD_in (sumL_in va dd HVd.out HDi.out HVl.out HDl.out i (by omega)) i (by rw [HSl.out]; exact hi10)
                    obtain ⟨y0, y1⟩ := getD_in HDi.out i (by rw [HDl.out]; exact hi10)
                    have hDe5 := (hbut.block De (blk_lt HDe.out) (Ne.symm hDDe)).trans HDe.out
                    have cx := ic_cell HD5.out i (by rw [HSl.out]; exact hi10)
                    have cy := ic_cell hDe5 i (by rw [HDl.out]; exact hi10)
                    generalize (sumL va dd i).getD i 0 = x at *
                    generalize dd.getD i 0 = y at *
                    clear hDe5
                    go_wp2_with fail
                    have kx := cell_regrown cx; have ky := cell_regrown cy
                    refine wp_region_reads_tail 12 (by kernel_rfl) (by kernel_rfl) ?_
                    simp only [List.take_succ_cons, List.take_zero, List.drop_succ_cons, List.drop_zero]
                    repeat (first | go_big_quiet_step (fail) | quiet_step (fail))
                    refine wpQuiet_nil ?_
                    intro W5 hb5
                    have hD6 := blk_below hb5 (blk_lt HD5.out) HD5.out
                    have cz := ic_cell hD6 i (by rw [HSl.out]; exact hi10)
                    have fz := frozen_of_row W5 D i _ _ hD6
                    have s1 := heap_setCell_same W5 D i _ _ (.int .i64 (x + y)) hD6
                    rw [ic_set, ← HSn.out] at s1
                    have HS1 := Lib.hid s1
                    have hbut2 := (hbut.trans (But.of_below hb5)).trans (But.setCell D W5 ⟨D, i, none⟩ (.int .i64 (x + y)) rfl)
                    clear s1 kx ky cx cy hb5 hD6 hbut HSn
                    go_wp2_with fail
                    go_roundw
                    case rel => exact ⟨i + 1, by omega, by go_num, HS1.out, hbut2⟩
                    case measure => simp [intOf]; omega
                  · have hdi : decide ((i : Int) < 10) = false := by simp; omega
                    obtain rfl : i = 10 := by omega
                    rw [show ((10 : Nat) : Int) = (10 : Int) from rfl]
                    have HSl := Lib.hid (show (sumL va dd 10).length = 10 from by rw [sumL_length, HVl.out])
                    have hsin : digitsIn 68719476736 (sumL va dd 10) := fun z hz => by
                      obtain ⟨h0, h1⟩ := sumL_in va dd HVd.out HDi.out HVl.out HDl.out 10 (by omega) z hz
                      exact ⟨h0, by omega⟩
                    have HSV := Lib.hid (sumL_V va dd HVl.out HDl.out 10 (by omega))
                    have HCd := Lib.hid (carry3_digits _ HSl.out hsin)
                    have HCl := Lib.hid (show (carry3 (sumL va dd 10)).length = 10 from by rw [carry3_length, HSl.out])
                    obtain ⟨q, hq⟩ := carry3_V (sumL va dd 10) HSl.out
                    have HCV := Lib.hid hq
                    clear hq
                    go_wp2_with fail
                    refine (carried_any D (sumL va dd 10) wr HD5.out HSl.out hsin).mono ?_
                    rintro e W6 ⟨rfl, hD6, hbut6⟩
                    have hbutA := hbut.trans hbut6
                    have hDr6 := (hbutA.block Dr (blk_lt HDr4.out) (Ne.symm hDD)).trans HDr4.out
                    have hB6 : Below B w W6 := hB4.trans (hbutA.below hBD hs4)
                    have hs6 := Nat.le_trans hs4 hbutA.size
                    have HD6 := Lib.hid hD6; have HDr6 := Lib.hid hDr6
                    clear hD6 hDr6 hbut6 hbut hbutA HD5 HDr4 HDe hB4 hs4 hsin
                    generalize carry3 (sumL va dd 10) = cs at *
                    go_wp2_with fail
                    refine (times_any D Dr cs rd W6 HD6.out HDr6.out HCl.out HRl.out HCd.out HRd.out).mono ?_
                    rintro e W7 ⟨O, rfl, hOB, hO, hb7⟩
                    obtain ⟨md, ml, mv⟩ := mul_digits cs rd HCd.out HRd.out HCl.out HRl.out
                    have HMG := Lib.hid (show polyV (carry3 (mulL cs rd 10)) % polyP = polyG R data.data.toList (m + 1) from by
                      rw [mv, HGs.out, HCV.out, HSV.out, List.take_of_length_le (show dd.length ≤ 10 by rw [HDl.out]; exact Nat.le_refl _), HDV.out, HRv.out]
                      exact step_mod _ _ _ _ _ HVg.out)
                    have hDr7 := blk_below hb7 (blk_lt HDr6.out) HDr6.out
                    have hODr : O ≠ Dr := by have := blk_lt HDr6.out; omega
                    have hB7 : Below B w W7 := hB6.trans (hb7.mono hs6)
                    have hs7 := Nat.le_trans hs6 hb7.size
                    have hBO : B ≤ O := Nat.le_trans hs6 hOB
                    have HO := Lib.hid hO; have HDr7 := Lib.hid hDr7; have HMd := Lib.hid md; have HMl := Lib.hid ml
                    clear hO hDr7 hb7 hOB hB6 hs6 HD6 HDr6 md ml mv
                    generalize carry3 (mulL cs rd 10) = vn at *
                    go_wp2_with fail
                    go_roundw
                    case rel => exact ⟨m + 1, O, vn, _, by have := HRS.out; omega, rfl, rfl, HNx.out, HO.out, HMl.out, HMd.out, HMG.out, HDr7.out, hODr, hBO, hB7, hs7⟩
                    case measure => exact HNXS.out
            · have hr0 : rem.size = 0 := by omega
              have hdp : decide ((0 : Int) < (rem.size : Int)) = false := decide_eq_false (by omega)
              have hmn : (data.size + 15) / 16 = m := by have := HRS.out; omega
              have hin : digitsIn 68719476736 va := fun z hz => by obtain ⟨h0, h1⟩ := HVd.out z hz; exact ⟨h0, by omega⟩
              have HCd := Lib.hid (carry3_digits va HVl.out hin)
              have HCl := Lib.hid (show (carry3 va).length = 10 from by rw [carry3_length, HVl.out])
              obtain ⟨q, hq⟩ := carry3_V va HVl.out
              have HCV := Lib.hid hq
              clear hq
              go_wp2_with fail
              refine (carried_any D va wr HD.out HVl.out hin).mono ?_
              rintro e W6 ⟨rfl, hD6, hbut6⟩
              have hB6 : Below B w W6 := hb.trans (hbut6.below hBD hsz)
              have hs6 := Nat.le_trans hsz hbut6.size
              have HD6 := Lib.hid hD6
              clear hD6 hbut6 hb hsz HD HDr hin
              generalize hcs : carry3 va = cs at *
              clear hcs
              go_wp2_with fail
              refine (rest_any D cs W6 HD6.out HCl.out HCd.out).mono ?_
              rintro e W7 ⟨D7, rfl, hD7, hb7⟩
              obtain ⟨hrv, hrd⟩ := restL_V cs HCl.out HCd.out
              have hrl := restL_length cs HCl.out
              have hT : polyV (restL cs) = polyG R data.data.toList m := by
                rw [hrv, HCV.out, Int.sub_emod, Int.mul_emod_right, Int.sub_zero, Int.emod_emod_of_dvd _ (Int.dvd_refl _)]; exact HVg.out
              have hdl := digL_of (restL cs) hrl hrd
              rw [hT] at hdl
              rw [hdl] at hD7
              obtain ⟨T, hTn⟩ : ∃ T, (polyG R data.data.toList m).toNat = T := ⟨_, rfl⟩
              rw [hTn] at hD7
              obtain ⟨S, hS⟩ : ∃ S, leN (key.data.toList.drop 16) = S := ⟨_, rfl⟩
              have HPT := Lib.hid (show polyTag key.data.toList data.data.toList = leOut (T + S) 16 from by
                rw [polyTag, HR.out, ← Lib.size_eq, hmn, hTn, hS])
              have HKb := Lib.hid (fun i (hi : i < 16) => key_byte key i HK.out hi)
              rw [hS] at HKb
              have hB7 : Below B w W7 := hB6.trans (hb7.mono hs6)
              have hs7 := Nat.le_trans hs6 hb7.size
              have HD7 := Lib.hid hD7
              have hk32 : (key.size : Int) = 32 := by have := HK.out; omega
              clear hD7 hb7 hB6 hs6 HD6 hrv hrd hrl hT hdl hTn hS
              generalize hE : W7.heap.size = E at *
              have HE := Lib.hid hE
              have hDE : D7 < E := by rw [← hE]; exact blk_lt HD7.out
              clear hE
              go_wp2_with fail
              go_loopw [14, 15, 16] (fun ov cv iv wr => ∃ (i : Nat) (ao : Option Addr) (cp : Nat), i ≤ 16 ∧ iv = .int .i64 i ∧ ov = .slice ao i cp ∧ cv = .int .i64 (carC T S i : Int) ∧ Own wr E (.slice ao i cp) (Lib.byteCells (leOut (T + S) i)) ∧ Below E W7 wr ∧ E ≤ wr.heap.size) (fun _ _ iv _ => 16 - (intOf iv).toNat)
              case atStart => exact ⟨0, none, 0, by omega, rfl, rfl, by simp [carC, Nat.mod_one], Own.nil _ _, Below.refl _ _, by rw [HE.out]; exact Nat.le_refl _⟩
              case round =>
                obtain ⟨i, ao, cp, hi, rfl, rfl, rfl, hown, hbE, hszE⟩ := hrel
                have HO := Lib.hid hown
                have HL := Lib.hid (show (Lib.byteCells (leOut (T + S) i)).length = i from by rw [Lib.byteCells_length, leOut_length])
                clear hown
                by_cases hi16 : i < 16
                · have hdi : decide ((i : Int) < 16) = true := by simp; omega
                  have hDw := blk_below hbE hDE HD7.out
                  have HDw := Lib.hid hDw
                  clear hDw
                  go_wp2_with fail
                  go_loopw [17, 18] (fun xv kv wr2 => ∃ k : Nat, k ≤ 8 ∧ kv = .int .i64 k ∧ xv = .int .i64 ((T / 256 ^ i % 2 ^ k : Nat) : Int) ∧ wr2 = wr) (fun _ kv _ => 8 - (intOf kv).toNat)
                  case atStart => exact ⟨0, by omega, rfl, by simp [Nat.mod_one], by first | rfl | trivial⟩
                  case round =>
                    obtain ⟨k, hk, rfl, rfl, rfl⟩ := hrel
                    by_cases hk8 : k < 8
                    · have hdk : decide ((k : Int) < 8) = true := by simp; omega
                      have hda := digit_and T i k hk8 hi16
                      obtain ⟨t, ht⟩ : ∃ t, (8 * i + k) / 13 = t := ⟨_, rfl⟩
                      obtain ⟨r, hr⟩ : ∃ r, (8 * i + k) % 13 = r := ⟨_, rfl⟩
                      have ht10 : t < 10 := by omega
                      have hr13 : r < 13 := by omega
                      have htz : (8 * (i : Int) + (k : Int)) / 13 = (t : Int) := by omega
                      have hrz : (8 * (i : Int) + (k : Int)) % 13 = (r : Int) := by omega
                      rw [ht, hr] at hda
                      have cd := ic_cell HDw.out t (by rw [digL_length]; exact ht10)
                      obtain ⟨d0, d1⟩ := getD_in (digL_in T) t (by rw [digL_length]; exact ht10)
                      have hxs := x_step (T / 256 ^ i) k
                      have hxl : T / 256 ^ i % 2 ^ k < 2 ^ k := Nat.mod_lt _ (Nat.pow_pos (by omega))
                      have hbl : T / 256 ^ i / 2 ^ k % 2 ≤ 1 := by omega
                      have hor := or_shift (T / 256 ^ i % 2 ^ k) (T / 256 ^ i / 2 ^ k % 2) k hxl hbl hk8
                      rw [← hxs] at hor
                      generalize (digL T).getD t 0 = d at *
                      generalize T / 256 ^ i / 2 ^ k % 2 = bt at *
                      generalize T / 256 ^ i % 2 ^ k = x at *
                      have h2k : (2 : Nat) ^ k ≤ 2 ^ 7 := Nat.pow_le_pow_right (by omega) (by omega)
                      have hsz : bt * 2 ^ k ≤ 128 := Nat.le_trans (Nat.mul_le_mul hbl h2k) (by omega)
                      have hsh : (bt : Int) * 2 ^ k = ((bt * 2 ^ k : Nat) : Int) := by simp
                      have hsw : IntKind.i64.wrap ((bt : Int) * 2 ^ k) = ((bt * 2 ^ k : Nat) : Int) := by rw [hsh]; exact IntWalk.i64_in _ (by omega)
                      generalize bt * 2 ^ k = sh at *
                      have HXs := Lib.hid hxs
                      have hn0 : (0 : Int) ≤ 8 * (i : Int) + (k : Int) := by omega
                      have hn1 : 8 * (i : Int) + (k : Int) < 128 := by omega
                      clear hxs ht hr hsh
                      go_wp2_with fail
                      go_roundw
                      case rel => exact ⟨k + 1, by omega, by go_num, by simp, by first | rfl | trivial⟩
                      case measure => simp [intOf]; omega
                    · have hdk : decide ((k : Int) < 8) = false := by simp; omega
                      obtain rfl : k = 8 := by omega
                      rw [show ((8 : Nat) : Int) = (8 : Int) from rfl]
                      obtain ⟨c1, c2⟩ := carC_step T S i
                      have hkb := HKb.out i hi16
                      have hcl := carC_le T S i
                      have hxl : T / 256 ^ i % 2 ^ 8 = T / 256 ^ i % 256 := rfl
                      rw [hkb] at c1 c2
                      have i1 := index_key key (16 + (i : Int)) (16 + i) (by omega) (by have := HK.out; omega)
                      have hkz := UInt8.toNat_lt (key[16 + i]'(by have := HK.out; omega))
                      have hx8 : T / 256 ^ i % 256 < 256 := Nat.mod_lt _ (by omega)
                      rw [hxl]
                      have HOn : Hid (leOut (T + S) (i + 1) = leOut (T + S) i ++ [UInt8.ofNat ((T + S) / 256 ^ i % 256)]) := Lib.hid rfl
                      have HBy := Lib.hid (show Lib.byteCells [UInt8.ofNat ((T + S) / 256 ^ i % 256)] = [.int .u8 (((T + S) / 256 ^ i % 256 : Nat) : Int)] from by
                        have : (UInt8.ofNat ((T + S) / 256 ^ i % 256)).toNat = (T + S) / 256 ^ i % 256 := by simp
                        simp [Lib.byteCells, this])
                      generalize (T + S) / 256 ^ i % 256 = ob at *
                      generalize T / 256 ^ i % 256 = x at *
                      generalize carC T S i = cc at *
                      generalize hcn : carC T S (i + 1) = cn at *
                      have HCn := Lib.hid hcn
                      generalize (key[16 + i]'(by have := HK.out; omega)).toNat = kz at *
                      have hob : ((cc : Int) + (x : Int) + (kz : Int)) % 256 = (ob : Int) := by omega
                      have hcz : ((cc : Int) + (x : Int) + (kz : Int)) / 256 = (cn : Int) := by omega
                      have hob8 : ob < 256 := by omega
                      clear c1 c2 hkb hxl hcn
                      go_wp2_with (at_builtin; refine wpList_append_sl rfl (.tmp 125) (.tmp 129) 27 rfl E 5 i8 (.int .u8 0) 1 Try.underlying27 hi8 hy0 hy1 hy2 rfl ao i cp _ rfl (HO.out.alloc _) HL.out ⟨_, 0, none⟩ 1 1 [.int .u8 (ob : Int)] rfl rfl (cell_one_new _ _ _) ?zb2 ?zb3 ?zb4 ?zb5 ?_)
                      case zb2 => intro u hu; simp at hu; subst hu; rfl
                      case zb3 => omega
                      case zb4 => omega
                      case zb5 => simp; omega
                      intro ao9 cp9 W9 hown9 hgrow9
                      have hb9 : Below E W7 W9 := below_append (hbE.alloc hszE _) (by simp; omega) (HO.out.alloc _) hgrow9
                      have hs9 : E ≤ W9.heap.size := by have := hgrow9.size; simp at this; omega
                      have hown8 : Own W9 E (.slice ao9 (i + 1) cp9) (Lib.byteCells (leOut (T + S) (i + 1))) := by
                        rw [HOn.out, Lib.byteCells_append, HBy.out]; exact hown9
                      clear hown9 hgrow9 HO hbE hszE i1
                      go_wp2_with fail
                      go_roundw
                      case rel => exact ⟨i + 1, ao9, cp9, by omega, by go_num, rfl, by rw [HCn.out, ← hcz], hown8, hb9, hs9⟩
                      case measure => simp [intOf]; omega
                · have hdi : decide ((i : Int) < 16) = false := by simp; omega
                  obtain rfl : i = 16 := by omega
                  obtain ⟨Ob, cpO, hvv, hoO, _⟩ := HO.out.some (by rw [HL.out]; omega)
                  rw [HL.out] at hvv
                  cases hvv
                  have hcv := run_string_row wr Ob cp (leOut (T + S) 16) (fun j x hx => hoO.cells j _ (by simp [Lib.byteCells, hx]))
                  rw [leOut_length] at hcv
                  have hBw : Below B w wr := hB7.trans (hbE.mono hs7)
                  clear hoO HO HL
                  go_wp2_with fail
                  go_ret2
                  exact ⟨by rw [HPT.out]; rfl, by rw [HBB.out]; exact hBw⟩
theorem refTagKey_any (key data : ByteArray) (w : World) (hk : key.size ≠ 32) :
    Calls Try.prog 9 #[.string key, .string data] w fun e w' => e = .returned (.tuple #[.string ⟨#[]⟩, .int .i64 21]) ∧ Below w.heap.size w w' := by
  have hd1 : ((key.size : Int) != 32) = true := by simp; omega
  go_enter Try.func9, Try.ntmps9
  go_wp2_with fail
  go_ret2
  exact ⟨rfl, Below.refl _ _⟩
/-- The chapter's example. -/
theorem poly_example : ((polyTag [0x85, 0xd6, 0xbe, 0x78, 0x57, 0x55, 0x6d, 0x33, 0x7f, 0x44, 0x52, 0xfe, 0x42, 0xd5, 0x06, 0xa8, 0x01, 0x03, 0x80, 0x8a, 0xfb, 0x0d, 0xb2, 0xfd, 0x4a, 0xbf, 0xf6, 0xaf, 0x41, 0x49, 0xf5, 0x1b] [67, 114, 121, 112, 116, 111, 103, 114, 97, 112, 104, 105, 99, 32, 70, 111, 114, 117, 109, 32, 82, 101, 115, 101, 97, 114, 99, 104, 32, 71, 114, 111, 117, 112]).take 4 == [0xa8, 0x06, 0x1d, 0xc1]) = true := by decide +kernel
end Go.Proofs.Ytbbpgplfdodpmaa
