/- The reference's scalar and salt of a seed, the base so many times, the public key, a signature. -/
import Derived.Test.YtcpnenjmbajbeaaGreatDoorSgSpec
import Derived.Test.YtcpnenjmbajbeaaGreatDoorShaR
import Derived.Test.YtcpnenjmbajbeaaGreatDoorScaR
import Derived.Test.YtcpnenjmbajbeaaGreatDoorPrR
namespace Go.Proofs.YtcpnenjmbajbeaaGreatDoor
open Go.RowKit Go.Sort
set_option maxRecDepth 100000
set_option linter.unusedSimpArgs false
set_option linter.unusedVariables false

set_option maxHeartbeats 2000000 in
theorem rtimes_any (n : ByteArray) (w : World) :
    Calls Tryz.prog 17 #[.string n] w fun e w' => e = .returned (.string (timT n)) ∧ Below w.heap.size w w' := by
  have CB := Lib.hid rbase_any
  have CM := Lib.hid (fun v W h => rmulT_any v baseP n W baseP_ok h)
  have CY := Lib.hid (fun v W h => rbytesT_any v (mulPT baseP n) W (mulPT_ok _ _) h)
  rw [show txtP (mulPT baseP n) = timT n from rfl] at CY
  generalize timT n = tn at *
  generalize mulPT baseP n = m at *
  generalize mulET n = q at *
  generalize baseP = bp at *
  have hzR := (zero_of_info infoR).1
  have hb := Below.refl w.heap.size w
  go_enter Tryz.func17, Tryz.ntmps17
  go_wp2_with fail
  refine (CB.out w).mono ?_
  rintro e W1 ⟨⟨vb, rfl, hvb⟩, bk⟩
  replace hb := hb.trans (bk.mono hb.size)
  clear bk
  have Hvb := Lib.hid hvb
  clear hvb
  go_wp2_with fail
  refine (CM.out vb W1 Hvb.out).mono ?_
  rintro e W2 ⟨⟨vm, rfl, hvm⟩, bk⟩
  replace hb := hb.trans (bk.mono hb.size)
  replace Hvb := Lib.hid (Hvb.out.step bk)
  clear bk
  have Hvm := Lib.hid hvm
  clear hvm
  clear Hvb
  obtain ⟨ma, mb, mc, md, rfl⟩ := Hvm.out.four
  have HN := Lib.hid (blk_new W2 (.cells zeroR 51))
  have bn := below_new W2 (.cells zeroR 51)
  have Sm := Lib.hid (sizeR ma mb mc md); have Om := Lib.hid (zeroR_size ma mb mc md); have Im := Lib.hid Hvm.out.one
  have Bm := Lib.hid (setRow_heap _ W2.heap.size _ #[ma, mb, mc, md] _ _ HN.out)
  have bk := below_setRow bn (Nat.le_refl _) #[ma, mb, mc, md]
  go_wp2_with (first | (with_reducible refine wpList_store_row rfl 51 _ _ rfl W2.heap.size #[ma, mb, mc, md] rfl rfl 51 _ HN.out Sm.out Om.out Im.out ?_) | (with_reducible refine wpList_load_row rfl 51 _ rfl W2.heap.size rfl 51 _ (0, 0) _ Bm.out Tryz.underlying51 rfl Sm.out ?_))
  replace hb := hb.trans (bk.mono hb.size)
  replace Hvm := Lib.hid (Hvm.out.step bk)
  clear bk
  generalize (World.setRow (World.alloc _ _) _ _) = V3 at *
  generalize W2.heap.size = g1 at *
  clear bn HN
  try simp only [Act.put]
  refine (CY.out _ V3 Hvm.out).mono ?_
  rintro e W4 ⟨rfl, bk⟩
  replace hb := hb.trans (bk.mono hb.size)
  replace Hvm := Lib.hid (Hvm.out.step bk)
  replace Bm := Lib.hid (blk_below bk (blk_lt Bm.out) Bm.out)
  clear bk
  go_wp2_with fail
  go_ret
  exact ⟨rfl, hb⟩
theorem sg_byte_and (x y : UInt8) : bits .and .u8 (x.toNat : Int) (y.toNat : Int) = ((x &&& y).toNat : Int) := byte_and x y
set_option maxHeartbeats 4000000 in
theorem rparts_any (s : ByteArray) (w : World) (hs : s.size ≤ 1048576) :
    Calls Tryz.prog 16 #[.string s] w fun e w' => e = .returned (.tuple #[.string (sclT s), .string (saltT s)]) ∧ Below w.heap.size w w' := by
  have CD := Lib.hid (fun W => refSum64_any s W hs)
  rw [show (⟨(sha512L kf hf s.data.toList).toArray⟩ : ByteArray) = digT s from rfl] at CD
  have HD := digT_size s
  have hft : ((digT s).extract 0 32).data.toList = (sha512L kf hf s.data.toList).take 32 := by
    rw [Lib.extract_data]; rfl
  have hfs : ((digT s).extract 0 32).size = 32 := by rw [ByteArray.size_extract, HD]; rfl
  have HSC : Hid (sclT s = ⟨(clamp12 ((digT s).extract 0 32).data.toList).toArray⟩) := Lib.hid (by rw [hft]; rfl)
  have HSA : Hid (saltT s = (digT s).extract 32 (digT s).size) := Lib.hid (by rw [HD]; rfl)
  have hll : ((digT s).extract 0 32).data.toList.length = 32 := by rw [← Lib.size_eq]; exact hfs
  generalize sclT s = sc at *
  generalize saltT s = sa at *
  generalize digT s = h at *
  have h64 : (32 : Int) ≤ (h.size : Int) := by omega
  have h0 : (0 : Int) ≤ (32 : Int) := by omega
  have hb := Below.refl w.heap.size w
  go_enter Tryz.func16, Tryz.ntmps16
  go_wp2_with fail
  refine (CD.out w).mono ?_
  rintro e W1 ⟨rfl, bk⟩
  replace hb := hb.trans (bk.mono hb.size)
  clear bk
  obtain ⟨cap, hcv, hown, hbo⟩ := conv_bytes (h.extract 0 32) W1
  rw [hfs] at hcv
  have hbx := hb.trans (hbo.mono hb.size)
  have hg1 : w.heap.size ≤ W1.heap.size := hb.size
  clear hb
  generalize Lib.bytesWorld _ _ _ = V1 at *
  generalize W1.heap.size = g at *
  generalize ((h.extract 0 32).data.toList) = l at *
  have e31 : ∀ x, (l.set 0 x).getD 31 0 = l.getD 31 0 := fun x => by rw [List.getD_eq_getElem?_getD, List.getElem?_set_ne (by decide), List.getD_eq_getElem?_getD]
  obtain ⟨c0, f0⟩ := own_byte hown 0 (by omega)
  have hown1 := own_byte_put hown 0 (by omega) (l.getD 0 0 &&& 248)
  obtain ⟨c31, f31⟩ := own_byte hown1 31 (by rw [List.length_set]; omega)
  have hown2 := own_byte_put hown1 31 (by rw [List.length_set]; omega) (l.getD 31 0 &&& 127 ||| 64)
  rw [e31] at c31
  rw [show (l.set 0 (l.getD 0 0 &&& 248)).set 31 (l.getD 31 0 &&& 127 ||| 64) = clamp12 l from rfl] at hown2
  have a0 := byte_and (l.getD 0 0) 248; have a1 := byte_and (l.getD 31 0) 127; have a2 := byte_ior (l.getD 31 0 &&& 127) 64
  rw [show (((248 : UInt8).toNat : Nat) : Int) = 248 from rfl] at a0
  rw [show (((127 : UInt8).toNat : Nat) : Int) = 127 from rfl] at a1
  rw [show (((64 : UInt8).toNat : Nat) : Int) = 64 from rfl] at a2
  have hb2 := (hbx.setCell (p := ⟨g, 0, none⟩) hg1 (.int .u8 ((l.getD 0 0 &&& 248).toNat : Int))).setCell (p := ⟨g, 31, none⟩) hg1 (.int .u8 ((l.getD 31 0 &&& 127 ||| 64).toNat : Int))
  have hkl : (clamp12 l).length = 32 := by rw [clamp12_length]; exact hll
  have HO := Lib.hid hown2
  have HKL := Lib.hid hkl
  clear hown hown1 hown2 hbx hbo e31 hkl hll
  generalize clamp12 l = cl at *
  generalize (l.getD 0 0 &&& 248).toNat = v0 at *
  generalize (l.getD 31 0 &&& 127 ||| 64).toNat = v1 at *
  generalize (l.getD 31 0 &&& 127).toNat = v2 at *
  generalize (l.getD 31 0).toNat = v3 at *
  generalize (l.getD 0 0).toNat = v4 at *
  have hp0 : (0 : Int) < (32 : Int) := by omega
  have hp31 : (31 : Int) < (32 : Int) := by omega
  go_wp2_with fail
  clear c0 f0 c31 f31 a0 a1 a2 hcv
  generalize (World.setCell (World.setCell _ _ _) _ _) = V2 at *
  refine wp_region_fresh 5 28 [.val (.slice (some ⟨g, 0, none⟩) 32 cap) [(5, .slice (some ⟨g, 0, none⟩) 32 cap)], .val (.string sc) [(24, .slice (some ⟨g, 0, none⟩) 32 cap)], .val (.string h) [(4, .string h)], .val (.string sa) [(26, .string h)], .val (.string sc) [(25, .string sc)]] (by kernel_rfl) (by kernel_rfl) rfl ?_ ?_ ?_
  · simp only [List.take_succ_cons, List.take_zero, headObl, specObl, HeadSpec.val, HeadSpec.fresh, and_true]
    refine ⟨?_, ?_, ?_, ?_, ?_⟩
    · intro act w hb h'
      have e0 := h' (5, .slice (some ⟨g, 0, none⟩) 32 cap) (by simp)
      simp only [Array.getD_eq_getD_getElem?] at e0
      simp [go_sem, e0, sQuiet]
    · intro act w hb h'
      have e0 := h' (24, .slice (some ⟨g, 0, none⟩) 32 cap) (by simp)
      simp only [Array.getD_eq_getD_getElem?] at e0
      have ht := conv_text_own (HO.out.stays hb) HKL.out cap
      rw [← HSC.out] at ht
      simp [go_sem, e0, sQuiet, ht]
    · intro act w hb h'
      have e0 := h' (4, .string h) (by simp)
      simp only [Array.getD_eq_getD_getElem?] at e0
      simp [go_sem, e0, sQuiet]
    · intro act w hb h'
      have e0 := h' (26, .string h) (by simp)
      simp only [Array.getD_eq_getD_getElem?] at e0
      have hx := HSA.out
      simp [go_sem, e0, sQuiet, h64, ← hx]
    · intro act w hb h'
      have e0 := h' (25, .string sc) (by simp)
      simp only [Array.getD_eq_getD_getElem?] at e0
      simp [go_sem, e0, sQuiet]
  · simp [headReads, headPut, specV, HeadSpec.val, HeadSpec.fresh, Act.put]
  · simp only [List.take_succ_cons, List.take_zero, List.drop_succ_cons, List.drop_zero, headEnd, HeadSpec.val, HeadSpec.fresh, Act.put, List.setIfInBounds_toArray, List.set_cons_succ, List.set_cons_zero]
    intro X hx _
    go_wp2_with fail
    go_ret2
    exact ⟨rfl, hb2.trans (hx.mono hb2.size)⟩
set_option maxHeartbeats 2000000 in
theorem rpublic_any (s : ByteArray) (w : World) :
    Calls Tryz.prog 7 #[.string s] w fun e w' => e = .returned (.tuple #[.string (pubX s), .int .i64 (seedE s)]) ∧ Below w.heap.size w w' := by
  have hb := Below.refl w.heap.size w
  by_cases h : s.size = 32
  · have d1 : ((s.size : Int) != 32) = false := by simp; omega
    rw [pubX, seedE, if_pos h, if_pos h]
    have CP := Lib.hid (fun W => rparts_any s W (by omega))
    have CT := Lib.hid (fun W => rtimes_any (sclT s) W)
    rw [show timT (sclT s) = pubT s from rfl] at CT
    generalize pubT s = pb at *
    generalize sclT s = sc at *
    generalize saltT s = sa at *
    clear h
    go_enter Tryz.func7, Tryz.ntmps7
    go_wp2_with fail
    refine (CP.out w).mono ?_
    rintro e W1 ⟨rfl, bk⟩
    replace hb := hb.trans (bk.mono hb.size)
    clear bk
    go_wp2_with fail
    refine (CT.out W1).mono ?_
    rintro e W2 ⟨rfl, bk⟩
    replace hb := hb.trans (bk.mono hb.size)
    clear bk
    go_wp2_with fail
    go_ret2
    exact ⟨rfl, hb⟩
  · have d1 : ((s.size : Int) != 32) = true := by simp; omega
    rw [pubX, seedE, if_neg h, if_neg h]
    go_enter Tryz.func7, Tryz.ntmps7
    go_wp2_with fail
    go_ret2
    exact ⟨rfl, hb⟩
theorem sign_sizes (s t : ByteArray) (ht : t.size ≤ 1000000) : (saltT s ++ t).size ≤ 1048576 ∧ (timT (rT s t) ++ pubT s ++ t).size ≤ 1048576 := by
  rw [ByteArray.size_append, ByteArray.size_append, ByteArray.size_append, saltT_size, timT_size, pubT_size]
  omega
set_option maxHeartbeats 4000000 in
theorem rsign_any (s t : ByteArray) (w : World) (ht : t.size ≤ 1000000) :
    Calls Tryz.prog 10 #[.string s, .string t] w fun e w' => e = .returned (.tuple #[.string (sgnX s t), .int .i64 (seedE s)]) ∧ Below w.heap.size w w' := by
  have hb := Below.refl w.heap.size w
  by_cases h : s.size = 32
  · have d1 : ((s.size : Int) != 32) = false := by simp; omega
    rw [sgnX, seedE, if_pos h, if_pos h]
    obtain ⟨z1, z2⟩ := sign_sizes s t ht
    obtain ⟨k1, k2, k3, k4⟩ := sgn_cats s t ht
    have CP := Lib.hid (fun W => rparts_any s W (by omega))
    have CD1 := Lib.hid (fun W => refSum64_any (saltT s ++ t) W z1)
    have CW1 := Lib.hid (fun W => rwide_any (digT (saltT s ++ t)) W)
    have CT1 := Lib.hid (fun W => rtimes_any (rT s t) W)
    have CT2 := Lib.hid (fun W => rtimes_any (sclT s) W)
    have CD2 := Lib.hid (fun W => refSum64_any (timT (rT s t) ++ pubT s ++ t) W z2)
    have CW2 := Lib.hid (fun W => rwide_any (digT (timT (rT s t) ++ pubT s ++ t)) W)
    have CM := Lib.hid (fun W => rmulAdd_any (kT (timT (rT s t)) (pubT s) t) (sclT s) (rT s t) W)
    rw [show (⟨(sha512L kf hf (saltT s ++ t).data.toList).toArray⟩ : ByteArray) = digT (saltT s ++ t) from rfl] at CD1
    rw [show (⟨(sha512L kf hf (timT (rT s t) ++ pubT s ++ t).data.toList).toArray⟩ : ByteArray) = digT (timT (rT s t) ++ pubT s ++ t) from rfl] at CD2
    rw [show wideX (digT (saltT s ++ t)) = rT s t from rfl] at CW1
    rw [show wideX (digT (timT (rT s t) ++ pubT s ++ t)) = kT (timT (rT s t)) (pubT s) t from rfl] at CW2
    rw [show timT (sclT s) = pubT s from rfl] at CT2
    have HS : Hid (sgnT s t = timT (rT s t) ++ maX (kT (timT (rT s t)) (pubT s) t) (sclT s) (rT s t)) := Lib.hid rfl
    generalize sgnT s t = sg at *
    generalize maX (kT (timT (rT s t)) (pubT s) t) (sclT s) (rT s t) = ma at *
    generalize maE (kT (timT (rT s t)) (pubT s) t) (sclT s) (rT s t) = me at *
    generalize kT (timT (rT s t)) (pubT s) t = kk at *
    generalize digT (saltT s ++ t) = d1' at *
    generalize digT (timT (rT s t) ++ pubT s ++ t) = d2' at *
    generalize timT (rT s t) = tr at *
    generalize rT s t = r at *
    generalize pubT s = pb at *
    generalize sclT s = sc at *
    generalize saltT s = sa at *
    generalize wideE d1' = we1 at *
    generalize wideE d2' = we2 at *
    clear h z1 z2 ht
    go_enter Tryz.func10, Tryz.ntmps10
    go_wp2_with fail
    refine (CP.out w).mono ?_
    rintro e W1 ⟨rfl, bk⟩
    replace hb := hb.trans (bk.mono hb.size)
    clear bk
    go_wp2_with fail
    refine (CD1.out W1).mono ?_
    rintro e W2 ⟨rfl, bk⟩
    replace hb := hb.trans (bk.mono hb.size)
    clear bk
    go_wp2_with fail
    refine (CW1.out W2).mono ?_
    rintro e W3 ⟨rfl, bk⟩
    replace hb := hb.trans (bk.mono hb.size)
    clear bk
    go_wp2_with fail
    refine (CT1.out W3).mono ?_
    rintro e W4 ⟨rfl, bk⟩
    replace hb := hb.trans (bk.mono hb.size)
    clear bk
    go_wp2_with fail
    refine (CT2.out W4).mono ?_
    rintro e W5 ⟨rfl, bk⟩
    replace hb := hb.trans (bk.mono hb.size)
    clear bk
    go_wp2_with fail
    refine (CD2.out W5).mono ?_
    rintro e W6 ⟨rfl, bk⟩
    replace hb := hb.trans (bk.mono hb.size)
    clear bk
    go_wp2_with fail
    refine (CW2.out W6).mono ?_
    rintro e W7 ⟨rfl, bk⟩
    replace hb := hb.trans (bk.mono hb.size)
    clear bk
    go_wp2_with fail
    refine (CM.out W7).mono ?_
    rintro e W8 ⟨rfl, bk⟩
    replace hb := hb.trans (bk.mono hb.size)
    clear bk
    go_wp2_with fail
    go_ret2
    exact ⟨by rw [HS.out]; rfl, hb⟩
  · have d1 : ((s.size : Int) != 32) = true := by simp; omega
    rw [sgnX, seedE, if_neg h, if_neg h]
    go_enter Tryz.func10, Tryz.ntmps10
    go_wp2_with fail
    go_ret2
    exact ⟨rfl, hb⟩
end Go.Proofs.YtcpnenjmbajbeaaGreatDoor
