/- Package hello: Decode; what the laws ask of the program's calls. -/
import Derived.Test.YtjemikbnncfonaaHpF
import Derived.Test.YtjemikbnncfonaaRbClone
import Derived.Test.YtjemikbnncfonaaToldG
namespace Go.Proofs.Ytjemikbnncfonaa
open Go.RowKit Go.Sort
set_option maxRecDepth 100000
set_option linter.unusedSimpArgs false
set_option linter.unusedVariables false

theorem sizeZH : (Try.prog.info? 24).map (·.size) = some zM.size := sizeMsgH _ _
theorem num_text (d : ByteArray) (h : 4 ≤ d.size) : (d.extract 1 4).size = 3 ∧ nuN (ofB (d.extract 1 4)) 3 = szH d := by
  refine ⟨by simp; omega, ?_⟩
  have hl := ofB_len d
  have e : ofB (d.extract 1 4) = ((ofB d).drop 1).take 3 := by rw [Lib.extract_eq]
  have g : ∀ i, i < 3 → (((ofB d).drop 1).take 3).getD i 0 = (ofB d).getD (1 + i) 0 := fun i hi => by
    simp only [List.getD_eq_getElem?_getD, List.getElem?_take, if_pos hi, List.getElem?_drop]
  rw [e, szH]
  show ((0 * 256 + _) * 256 + _) * 256 + _ = _
  rw [g 0 (by decide), g 1 (by decide), g 2 (by decide)]
  simp only [Nat.reduceAdd]
  omega
theorem beh_size (d : ByteArray) (h : 4 ≤ d.size) : (d.extract 4 d.size).size = d.size - 4 := by simp
theorem beh_list (d : ByteArray) : ofB (d.extract 4 d.size) = (ofB d).drop 4 := by
  rw [Lib.extract_eq, List.take_of_length_le (by rw [List.length_drop, ← Lib.size_eq]; omega)]
theorem beh_cut (d : ByteArray) (z : Nat) (hz : szH d = z) : (d.extract 4 d.size).extract 0 z = cutB d := by
  apply ofB_inj
  rw [cutB, of_toB, hz, Lib.extract_eq, List.drop_zero, Nat.sub_zero, show (d.extract 4 d.size).data.toList = ofB (d.extract 4 d.size) from rfl, beh_list]
theorem beh_rest (d : ByteArray) (z : Nat) (hz : szH d = z) : (d.extract 4 d.size).extract z (d.extract 4 d.size).size = restB d := by
  apply ofB_inj
  rw [restB, of_toB, hz, Lib.extract_eq, List.take_of_length_le (by rw [List.length_drop, ← Lib.size_eq]; omega), show (d.extract 4 d.size).data.toList = ofB (d.extract 4 d.size) from rfl, beh_list, List.drop_drop]
theorem cut_small (d : ByteArray) : (cutB d).size ≤ szH d := by rw [cutB, toB_size, List.length_take]; omega
theorem dec_goodH (d : ByteArray) (m : HMsg) (h : decE d = 0) (hm : decM d = m) (ao : Option Addr) (c : Nat) : decA d (decE d) ao c = .returned (.tuple #[.agg (msC m (.slice ao m.su.length c)), .string (restB d), .int .i64 0]) := by
  rw [decA, decR, if_pos h, hm, h]
def tMsg (m : HMsg) (n b : Nat) : Told := ⟨fun w v => ∃ ao c, v = .agg (msC m (.slice ao n c)) ∧ w.ownsRow b 3 1 (.slice ao n c) n (iCells m.su), fun w w' v hb ⟨ao, c, e, h⟩ => ⟨ao, c, e, orow_below h hb⟩⟩
def tBlk (b : Nat) : Told := ⟨fun w v => ∃ g, v = .pointer (some ⟨g, 0, none⟩) ∧ b ≤ g ∧ w.heap[g]? = some (.cells zM 24), fun w w' v hb ⟨g, e, hg, h⟩ => ⟨g, e, hg, blk_below hb (blk_lt h) h⟩⟩
set_option maxHeartbeats 4000000 in
theorem decFew (d : ByteArray) (w : World) (h : d.size < 4 ∨ 4096 < szH d ∨ d.size < 4 + szH d) (hs : d.size ≤ 100000) :
    Calls Try.prog 12 #[.string d] w fun e w' => e = decA d (decE d) none 0 ∧ Below w.heap.size w w' := by
  obtain ⟨hzz, -⟩ := zero_of_info infoMsgH
  have HR := Lib.hid (blk_new w (.cells zM 24))
  have hb := below_new w (.cells zM 24)
  by_cases h4 : d.size < 4
  · have he : decE d = 33 := by rw [decE, if_pos h4]
    have HV : Hid (decA d (decE d) none 0 = .returned (.tuple #[.agg zM, .string ⟨#[]⟩, .int .i64 33])) := Lib.hid (by rw [he]; exact dec_bad d 33 he (by decide))
    have d1 : decide ((d.size : Int) < 4) = true := by simp; omega
    clear h he
    go_enter Try.func12, Try.ntmps12
    go_wp2_with (with_reducible refine wpList_store_row rfl 24 _ _ rfl w.heap.size zM rfl rfl 24 _ HR.out sizeZH rfl oneZ ?_)
    (try simp only [Exit.inBlock, Exit.then]); exact bodyPost_ret (results_row_tmp2 (by rfl) _ _ w.heap.size 24 _ (0, 0) _ rfl (setRow_heap _ _ _ _ _ _ HR.out) Try.underlying24 rfl sizeZH) rfl ⟨by rw [HV.out]; rfl, by exact below_setRow hb (Nat.le_refl _) _⟩
  have d1 : decide ((d.size : Int) < 4) = false := by simp; omega
  have i4 : (4 : Int) ≤ (d.size : Int) := by omega
  obtain ⟨n3, nz⟩ := num_text d (by omega)
  have bs := beh_size d (by omega)
  have CN := Lib.hid (fun W => number_any (d.extract 1 4) W (by omega))
  rw [n3, nz] at CN
  obtain ⟨z, hz⟩ : ∃ z, szH d = z := ⟨_, rfl⟩
  rw [hz] at CN
  obtain ⟨nb, hnb⟩ : ∃ nb, d.extract 1 4 = nb := ⟨_, rfl⟩
  obtain ⟨bh, hbh⟩ : ∃ bh, d.extract 4 d.size = bh := ⟨_, rfl⟩
  rw [hnb] at CN
  rw [hbh] at bs
  by_cases h5 : 4096 < z
  · have he : decE d = 13 := by rw [decE, if_neg h4, if_pos (by rw [hz]; exact h5)]
    have HV : Hid (decA d (decE d) none 0 = .returned (.tuple #[.agg zM, .string ⟨#[]⟩, .int .i64 13])) := Lib.hid (by rw [he]; exact dec_bad d 13 he (by decide))
    have d2 : decide ((4096 : Int) < (z : Int)) = true := by simp; omega
    clear h he hz nz n3 bs
    go_enter Try.func12, Try.ntmps12
    go_wp2_with fail
    refine wp_region_reads (by kernel_rfl) (by kernel_rfl) ?_
    repeat (first | go_big_quiet_step (with_reducible exact Calls.regrown_of (CN.out _)) | quiet_step (with_reducible exact Calls.regrown_of (CN.out _)))
    refine wpQuiet_nil ?_
    intro W1 bk
    have hb1 := hb.trans (bk.mono hb.size)
    have HR1 := Lib.hid (blk_below bk (blk_lt HR.out) HR.out)
    clear hb HR bk CN
    have hb := hb1
    have HR := HR1
    clear hb1 HR1
    generalize hBB : w.heap.size = B at *
    go_wp2_with (with_reducible refine wpList_store_row rfl 24 _ _ rfl B zM rfl rfl 24 _ HR.out sizeZH rfl oneZ ?_)
    (try simp only [Exit.inBlock, Exit.then]); exact bodyPost_ret (results_row_tmp2 (by rfl) _ _ B 24 _ (0, 0) _ rfl (setRow_heap _ _ _ _ _ _ HR.out) Try.underlying24 rfl sizeZH) rfl ⟨by rw [HV.out]; rfl, by subst hBB; exact below_setRow hb (Nat.le_refl _) _⟩
  have d2 : decide ((4096 : Int) < (z : Int)) = false := by simp; omega
  have h6 : d.size < 4 + z := by omega
  have he : decE d = 33 := by rw [decE, if_neg h4, if_neg (by rw [hz]; omega), if_pos (by rw [hz]; exact h6)]
  have HV : Hid (decA d (decE d) none 0 = .returned (.tuple #[.agg zM, .string ⟨#[]⟩, .int .i64 33])) := Lib.hid (by rw [he]; exact dec_bad d 33 he (by decide))
  have d3 : decide ((bh.size : Int) < (z : Int)) = true := by simp; omega
  have d3n : bh.size < z := by omega
  clear h he hz nz n3 bs
  go_enter Try.func12, Try.ntmps12
  go_wp2_with fail
  refine wp_region_reads (by kernel_rfl) (by kernel_rfl) ?_
  repeat (first | go_big_quiet_step (with_reducible exact Calls.regrown_of (CN.out _)) | quiet_step (with_reducible exact Calls.regrown_of (CN.out _)))
  refine wpQuiet_nil ?_
  intro W1 bk
  have hb1 := hb.trans (bk.mono hb.size)
  have HR1 := Lib.hid (blk_below bk (blk_lt HR.out) HR.out)
  clear hb HR bk CN
  have hb := hb1
  have HR := HR1
  clear hb1 HR1
  generalize hBB : w.heap.size = B at *
  go_wp2_with (with_reducible refine wpList_store_row rfl 24 _ _ rfl B zM rfl rfl 24 _ HR.out sizeZH rfl oneZ ?_)
  (try simp only [Exit.inBlock, Exit.then]); exact bodyPost_ret (results_row_tmp2 (by rfl) _ _ B 24 _ (0, 0) _ rfl (setRow_heap _ _ _ _ _ _ HR.out) Try.underlying24 rfl sizeZH) rfl ⟨by rw [HV.out]; rfl, by subst hBB; exact below_setRow hb (Nat.le_refl _) _⟩
set_option maxHeartbeats 8000000 in
theorem decFull (d : ByteArray) (w : World) (h4 : ¬ d.size < 4) (h5 : ¬ 4096 < szH d) (h6 : ¬ d.size < 4 + szH d) (hs : d.size ≤ 100000) :
    Calls Try.prog 12 #[.string d] w fun e w' => (∃ ao c, e = decA d (decE d) ao c ∧ IntsAt w' ao (decM d).su ∧ (decM d).su.length ≤ c) ∧ Below w.heap.size w w' := by
  obtain ⟨hzz, -⟩ := zero_of_info infoMsgH
  have HR := Lib.hid (blk_new w (.cells zM 24))
  have hb := below_new w (.cells zM 24)
  have d1 : decide ((d.size : Int) < 4) = false := by simp; omega
  have i4 : (4 : Int) ≤ (d.size : Int) := by omega
  have j0 : (0 : Int) < (d.size : Int) := by omega
  have t0 := he_run d 0 (by omega)
  rw [show ((0 : Nat) : Int) = 0 from rfl] at t0
  have hkl := ((ofB d).getD 0 0).toNat_lt
  obtain ⟨kk, hkk⟩ : ∃ kk : Int, kindH d = kk := ⟨_, rfl⟩
  rw [show (((ofB d).getD 0 0).toNat : Int) = kk from hkk] at t0
  have x0 : IntKind.i64.wrap kk = kk := by rw [IntKind.wrap_i64]; rw [← hkk, kindH]; omega
  obtain ⟨n3, nz⟩ := num_text d (by omega)
  have bs := beh_size d (by omega)
  have CN := Lib.hid (fun W => number_any (d.extract 1 4) W (by omega))
  rw [n3, nz] at CN
  have hbad := @fld_bad d h4 h5 h6
  obtain ⟨z, hz⟩ : ∃ z, szH d = z := ⟨_, rfl⟩
  have q1 := beh_cut d z hz
  have q2 := head_text d z hz
  have q3 := beh_rest d z hz
  have hcs := cut_small d
  rw [hz] at CN h5 h6 hcs
  have hgood := @fld_good d
  have HFH : Hid (fldH d = fld kk (cutB d)) := Lib.hid (by rw [fldH, hkk])
  have CC := Lib.hid (fun W => clone_any (cutB d) W (by omega))
  have CF := Lib.hid (fun W => fields_any kk (cutB d) W (by omega))
  rw [← HFH.out] at CF
  have CR := Lib.hid (fun W => clone_any (restB d) W (by rw [restB, toB_size, List.length_drop, ofB_len]; omega))
  have hn1000 : (fldH d).su.length ≤ 1000000 := by
    rw [HFH.out]
    unfold fld
    split
    · exact Nat.le_trans (nmL_length _) (by rw [ofB_len]; exact Nat.le_trans (pt_size _ _ _) (by omega))
    · split
      · exact Nat.le_trans (nmL_length _) (by rw [ofB_len]; exact Nat.le_trans (pt_size _ _ _) (by omega))
      · repeat (split; · exact Nat.zero_le _)
        exact Nat.zero_le _
  clear HFH
  obtain ⟨nb, hnb⟩ : ∃ nb, d.extract 1 4 = nb := ⟨_, rfl⟩
  obtain ⟨bh, hbh⟩ : ∃ bh, d.extract 4 d.size = bh := ⟨_, rfl⟩
  rw [hnb] at CN
  rw [hbh] at bs q1 q3
  generalize fldH d = M at *
  obtain ⟨mk, rn, sh, su, da, ask⟩ := M
  dsimp only at CF hn1000
  obtain ⟨n, hn⟩ : ∃ n, su.length = n := ⟨_, rfl⟩
  rw [hn] at CF hn1000
  have hne := he_eq (encB ⟨mk, rn, sh, su, da, ask⟩) (headB d)
  have d2 : decide ((4096 : Int) < (z : Int)) = false := by simp; omega
  have d3 : decide ((bh.size : Int) < (z : Int)) = false := by simp; omega
  have z0 : (0 : Int) ≤ (z : Int) := by omega
  have z1 : (z : Int) ≤ (bh.size : Int) := by omega
  have z1n : z ≤ bh.size := by omega
  have g1 : (0 : Int) ≤ 4 + (z : Int) := by omega
  have g2 : 4 + (z : Int) ≤ (d.size : Int) := by omega
  have hw4 : IntKind.i64.wrap (4 + (z : Int)) = 4 + (z : Int) := by rw [IntKind.wrap_i64]; omega
  obtain ⟨cb, hcb⟩ : ∃ cb, cutB d = cb := ⟨_, rfl⟩
  rw [hcb] at q1 CC CF
  clear hz nz n3 bs hkl hkk hcb hcs
  go_enter Try.func12, Try.ntmps12
  go_wp2_with fail
  refine wp_region_reads (by kernel_rfl) (by kernel_rfl) ?_
  repeat (first | go_big_quiet_step (with_reducible exact Calls.regrown_of (CN.out _)) | quiet_step (with_reducible exact Calls.regrown_of (CN.out _)))
  refine wpQuiet_nil ?_
  intro W1 bk
  have hb1 := hb.trans (bk.mono hb.size)
  have HR1 := Lib.hid (blk_below bk (blk_lt HR.out) HR.out)
  clear hb HR bk CN
  have hb := hb1
  have HR := HR1
  clear hb1 HR1
  go_wp2_with fail
  generalize hBB : w.heap.size = B at *
  have HBB := Lib.hid hBB
  clear hBB
  have hB1 : B + 1 ≤ W1.heap.size := blk_lt HR.out
  replace CF := Lib.hid (fun (W : World) (hW : B + 1 ≤ W.heap.size) => (show Calls Try.prog 20 #[.int .i64 kk, .string cb] W fun e w'' => ∃ v, e = .returned v ∧ (tMsg ⟨mk, rn, sh, su, da, ask⟩ n (B + 1)).T w'' v ∧ Below W.heap.size W w'' from (CF.out W).mono (by
    rintro e w'' ⟨⟨ao, c, rfl, ho⟩, bk⟩
    exact ⟨_, rfl, ⟨ao, c, rfl, orow_base ho hW⟩, bk⟩)))
  refine wp_region_told 9 53 [(Told.val (.string d), [0]),
    (Told.val (.int .u8 kk), [27]),
    (Told.val (.int .i64 kk), [28]),
    (Told.val (.string bh), [6]),
    (Told.val (.int .i64 (z : Int)), [5]),
    (Told.val (.string cb), [30, 31]),
    (Told.val (.string cb), [32]),
    (tMsg ⟨mk, rn, sh, su, da, ask⟩ n (B + 1), [29, 33]),
    (tBlk (B + 1), [])]
    (by kernel_rfl) (by kernel_rfl) rfl ?_ ?_
  · simp only [List.take_succ_cons, List.take_zero, toldObl, and_true]
    refine And.intro ?_ (And.intro ?_ (And.intro ?_ (And.intro ?_ (And.intro ?_ (And.intro ?_ (And.intro ?_ (And.intro ?_ (?_))))))))
    · intro a w hb h
      have e0 : a.tmps.getD 0 undef = .string d := h 0 (by simp)
      simp only [Array.getD_eq_getD_getElem?] at e0
      refine told_q ?_
      simp [go_sem, e0, sQuiet]
    · intro a w hb h
      have e0 : a.tmps.getD 27 undef = .string d := h 27 (by simp)
      simp only [Array.getD_eq_getD_getElem?] at e0
      refine told_q ?_
      simp [go_sem, e0, sQuiet, t0, j0]
    · intro a w hb h
      have e0 : a.tmps.getD 28 undef = .int .u8 kk := h 28 (by simp)
      simp only [Array.getD_eq_getD_getElem?] at e0
      refine told_q ?_
      simp [go_sem, e0, sQuiet, x0]
    · intro a w hb h
      have e0 : a.tmps.getD 6 undef = .string bh := h 6 (by simp)
      simp only [Array.getD_eq_getD_getElem?] at e0
      refine told_q ?_
      simp [go_sem, e0, sQuiet]
    · intro a w hb h
      have e0 : a.tmps.getD 5 undef = .int .i64 (z : Int) := h 5 (by simp)
      simp only [Array.getD_eq_getD_getElem?] at e0
      refine told_q ?_
      simp [go_sem, e0, sQuiet]
    · intro a w hb h
      have e0 : a.tmps.getD 30 undef = .string bh := h 30 (by simp)
      have e1 : a.tmps.getD 31 undef = .int .i64 (z : Int) := h 31 (by simp)
      simp only [Array.getD_eq_getD_getElem?] at e0 e1
      refine told_q ?_
      simp [go_sem, e0, e1, sQuiet, z0, z1, q1]
    · intro a w hb h
      have e0 : a.tmps.getD 32 undef = .string cb := h 32 (by simp)
      simp only [Array.getD_eq_getD_getElem?] at e0
      refine told_q ?_
      simp [go_sem, e0, sQuiet]
      exact CC.out _
    · intro a w hb h
      have e0 : a.tmps.getD 29 undef = .int .i64 kk := h 29 (by simp)
      have e1 : a.tmps.getD 33 undef = .string cb := h 33 (by simp)
      simp only [Array.getD_eq_getD_getElem?] at e0 e1
      have hsw := Nat.le_trans hB1 hb.size
      simp [go_sem, e0, e1, toldQuiet]
      exact CF.out _ hsw
    · intro a w hb h
      have hsw := Nat.le_trans hB1 hb.size
      simp [go_sem, toldQuiet, hzz]
      exact ⟨below_new _ _, _, rfl, hsw, blk_new _ _⟩
  simp only [List.take_succ_cons, List.take_zero, List.drop_succ_cons, List.drop_zero, toldEnd, Act.put, List.setIfInBounds_toArray, List.set_cons_succ, List.set_cons_zero]
  rintro X bk v27 q27 v28 q28 v29 q29 v30 q30 v31 q31 v32 q32 v33 q33 v34 q34 v7 q7
  obtain rfl := q27.symm
  obtain rfl := q28.symm
  obtain rfl := q29.symm
  obtain rfl := q30.symm
  obtain rfl := q31.symm
  obtain rfl := q32.symm
  obtain rfl := q33.symm
  clear q27 q28 q29 q30 q31 q32 q33
  obtain ⟨ao, c, rfl, hown⟩ := q34
  obtain ⟨g, rfl, hgB, hgX⟩ := q7
  have HGX := Lib.hid hgX
  have hRX := blk_below bk (blk_lt HR.out) HR.out
  have hbX := hb.trans (bk.mono (Nat.le_of_lt (blk_lt HR.out)))
  have hgb : B ≠ g := by omega
  have HG2 := Lib.hid (setRow_heap _ g _ (msC ⟨mk, rn, sh, su, da, ask⟩ (.slice ao n c)) _ _ hgX)
  have HR2 := Lib.hid ((setRow_other X g B (msC ⟨mk, rn, sh, su, da, ask⟩ (.slice ao n c)) hgb).trans hRX)
  have hb2 := below_setRow hbX (show B ≤ g by omega) (msC ⟨mk, rn, sh, su, da, ask⟩ (.slice ao n c))
  have HO2 := Lib.hid (orow_low (W' := X.setRow g (msC ⟨mk, rn, sh, su, da, ask⟩ (.slice ao n c))) hown (fun k row fr _ hr => setRow_other _ _ _ _ (fun e => by rw [e, hgX] at hr; cases hr)))
  clear bk hgX hRX hbX HR hb CC CF
  go_wp2_with (with_reducible refine wpList_store_row rfl 24 _ _ rfl g (msC ⟨mk, rn, sh, su, da, ask⟩ (.slice ao n c)) rfl rfl 24 _ HGX.out (sizeMsgH _ _) rfl (oneMsg _ _ _ _) ?_)
  generalize hX2 : X.setRow g (msC ⟨mk, rn, sh, su, da, ask⟩ (.slice ao n c)) = X2 at *
  clear hX2 HGX
  obtain ⟨c0, c1, c2, c3, c4, c5⟩ := ms_cells HG2.out
  dsimp only at c0 c1 c2 c3 c4 c5
  have HI2 := Lib.hid (orow_ints HO2.out)
  have CV := Lib.hid (fun d os => Calls.regrown_of (validL mk rn sh su da ask ao n c (grow (redrawn X2 d) os) hn hn1000 (HI2.out.step (below_regrown X2 d os))))
  cases ho : okM ⟨mk, rn, sh, su, da, ask⟩ with
  | false =>
    rw [ho] at CV
    have he : decE d = 11 := hbad (fun h => by rw [ho] at h; exact absurd h.1 (by decide))
    have HV : Hid (decA d (decE d) none 0 = .returned (.tuple #[.agg zM, .string ⟨#[]⟩, .int .i64 11]) ∧ (decM d).su = []) := Lib.hid ⟨by rw [he]; exact dec_bad d 11 he (by decide), dec_none d (by rw [he]; decide)⟩
    have CE : True := trivial
    clear ho he hbad hgood hne hn
    have k0 := cell_regrown c0; have k1 := cell_regrown c1; have k2 := cell_regrown c2; have k3 := cell_regrown c3; have k4 := cell_regrown c4; have k5 := cell_regrown c5
    refine wp_region_reads (by kernel_rfl) (by kernel_rfl) ?_
    repeat (first | go_big_quiet_step ((with_reducible exact CV.out _ _)) | quiet_step ((with_reducible exact CV.out _ _)))
    refine wpQuiet_nil ?_
    intro W3 bk
    clear k0 k1 k2 k3 k4 k5 c0 c1 c2 c3 c4 c5
    have HR3 := Lib.hid (blk_below bk (blk_lt HR2.out) HR2.out)
    have HG3 := Lib.hid (blk_below bk (blk_lt HG2.out) HG2.out)
    have HO3 := Lib.hid (orow_below HO2.out bk)
    have hb3 := hb2.trans (bk.mono (Nat.le_of_lt (blk_lt HR2.out)))
    clear CV HR2 HG2 HO2 hb2 bk HI2
    go_wp2_with (with_reducible refine wpList_store_row rfl 24 _ _ rfl B zM rfl rfl 24 _ HR3.out sizeZH rfl oneZ ?_)
    (try simp only [Exit.inBlock, Exit.then]); exact bodyPost_ret (results_row_tmp2 (by rfl) _ _ B 24 _ (0, 0) _ rfl (setRow_heap _ _ _ _ _ _ HR3.out) Try.underlying24 rfl sizeZH) rfl ⟨⟨none, 0, by rw [HV.out.1]; rfl, by rw [HV.out.2]; exact IntsAt.nil _ _, by rw [HV.out.2]; exact Nat.le_refl 0⟩, by rw [HBB.out]; exact below_setRow hb3 (Nat.le_refl _) _⟩
  | true =>
    rw [ho] at CV
    have CE := Lib.hid (fun d os => Calls.regrown_of (encodingL mk rn sh su da ask ao n c (grow (redrawn X2 d) os) ho hn (HI2.out.step (below_regrown X2 d os))))
    by_cases hh : encB ⟨mk, rn, sh, su, da, ask⟩ = headB d
    case neg =>
      have he : decE d = 11 := hbad (fun h => hh h.2)
      have HV : Hid (decA d (decE d) none 0 = .returned (.tuple #[.agg zM, .string ⟨#[]⟩, .int .i64 11]) ∧ (decM d).su = []) := Lib.hid ⟨by rw [he]; exact dec_bad d 11 he (by decide), dec_none d (by rw [he]; decide)⟩
      rw [decide_eq_false hh] at hne
      clear ho he hbad hgood hh hn
      generalize encB ⟨mk, rn, sh, su, da, ask⟩ = en at *
      have k0 := cell_regrown c0; have k1 := cell_regrown c1; have k2 := cell_regrown c2; have k3 := cell_regrown c3; have k4 := cell_regrown c4; have k5 := cell_regrown c5
      refine wp_region_reads (by kernel_rfl) (by kernel_rfl) ?_
      repeat (first | go_big_quiet_step ((first | with_reducible exact CV.out _ _ | with_reducible exact CE.out _ _)) | quiet_step ((first | with_reducible exact CV.out _ _ | with_reducible exact CE.out _ _)))
      refine wpQuiet_nil ?_
      intro W3 bk
      clear k0 k1 k2 k3 k4 k5 c0 c1 c2 c3 c4 c5
      have HR3 := Lib.hid (blk_below bk (blk_lt HR2.out) HR2.out)
      have HG3 := Lib.hid (blk_below bk (blk_lt HG2.out) HG2.out)
      have HO3 := Lib.hid (orow_below HO2.out bk)
      have hb3 := hb2.trans (bk.mono (Nat.le_of_lt (blk_lt HR2.out)))
      clear CV HR2 HG2 HO2 hb2 bk HI2
      go_wp2_with (with_reducible refine wpList_store_row rfl 24 _ _ rfl B zM rfl rfl 24 _ HR3.out sizeZH rfl oneZ ?_)
      (try simp only [Exit.inBlock, Exit.then]); exact bodyPost_ret (results_row_tmp2 (by rfl) _ _ B 24 _ (0, 0) _ rfl (setRow_heap _ _ _ _ _ _ HR3.out) Try.underlying24 rfl sizeZH) rfl ⟨⟨none, 0, by rw [HV.out.1]; rfl, by rw [HV.out.2]; exact IntsAt.nil _ _, by rw [HV.out.2]; exact Nat.le_refl 0⟩, by rw [HBB.out]; exact below_setRow hb3 (Nat.le_refl _) _⟩
    case pos =>
      obtain ⟨he, hM⟩ := hgood ho hh
      have HV := Lib.hid (fun ao c => dec_goodH d ⟨mk, rn, sh, su, da, ask⟩ he hM ao c)
      have HS : Hid ((decM d).su = su) := Lib.hid (by rw [hM])
      have HL := Lib.hid hn
      rw [decide_eq_true hh] at hne
      clear he ho hh hM hbad hgood hn
      generalize encB ⟨mk, rn, sh, su, da, ask⟩ = en at *
      obtain ⟨rb, hrb⟩ : ∃ rb, restB d = rb := ⟨_, rfl⟩
      rw [hrb] at HV q3 CR
      clear hrb
      have k0 := cell_regrown c0; have k1 := cell_regrown c1; have k2 := cell_regrown c2; have k3 := cell_regrown c3; have k4 := cell_regrown c4; have k5 := cell_regrown c5
      refine wp_region_reads (by kernel_rfl) (by kernel_rfl) ?_
      repeat (first | go_big_quiet_step ((first | with_reducible exact CV.out _ _ | with_reducible exact CE.out _ _)) | quiet_step ((first | with_reducible exact CV.out _ _ | with_reducible exact CE.out _ _)))
      refine wpQuiet_nil ?_
      intro W3 bk
      clear k0 k1 k2 k3 k4 k5 c0 c1 c2 c3 c4 c5
      have HR3 := Lib.hid (blk_below bk (blk_lt HR2.out) HR2.out)
      have HG3 := Lib.hid (blk_below bk (blk_lt HG2.out) HG2.out)
      have HO3 := Lib.hid (orow_below HO2.out bk)
      have hb3 := hb2.trans (bk.mono (Nat.le_of_lt (blk_lt HR2.out)))
      clear CV HR2 HG2 HO2 hb2 bk HI2
      go_wp2_with fail
      obtain ⟨ROW, hrow⟩ : ∃ r, r = msC ⟨mk, rn, sh, su, da, ask⟩ (.slice ao n c) := ⟨_, rfl⟩
      have HROW : Hid (ROW = msC ⟨mk, rn, sh, su, da, ask⟩ (.slice ao n c)) := Lib.hid hrow
      have HSZ : Hid ((Try.prog.info? 24).map (·.size) = some ROW.size ∧ ROW.all (·.oneCell') = true) := Lib.hid (by rw [hrow]; exact ⟨sizeMsgH _ _, oneMsg _ _ _ _⟩)
      have hg3 := HG3.out
      rw [← hrow] at hg3
      clear hrow HG3
      refine wp_region_stored 5 53 [.val (.agg ROW) [(7, .pointer (some ⟨g, 0, none⟩))], .val (.string bh) [(6, .string bh)], .val (.int .i64 (z : Int)) [(5, .int .i64 (z : Int))], .val (.string rb) [(49, .string bh), (50, .int .i64 (z : Int))], .val (.string rb) [(51, .string rb)]]
        [(2, .pointer (some ⟨B, 0, none⟩)), (48, .agg ROW)]
        (fun w' => Below B w w' ∧ w'.heap[B]? = some (.cells zM 24) ∧ w'.heap[g]? = some (.cells ROW 24) ∧ w'.ownsRow (B + 1) 3 1 (.slice ao n c) n (iCells su))
        (fun w' => Below B w w' ∧ w'.heap[B]? = some (.cells ROW 24) ∧ w'.heap[g]? = some (.cells ROW 24) ∧ w'.ownsRow (B + 1) 3 1 (.slice ao n c) n (iCells su))
        _ rfl rfl (by kernel_rfl) rfl ?_ ?_ ?_ ?_ ?_ ?_ ?_ ?_
      · exact ⟨hb3.trans ⟨rfl, rfl, rfl, Nat.le_refl _, fun _ _ => rfl⟩, HR3.out, hg3, HO3.out⟩
      · rintro w1 w2 ⟨k1, k2, k3, k4⟩ hb
        exact ⟨k1.trans (hb.mono (Nat.le_of_lt (blk_lt k2))), blk_below hb (blk_lt k2) k2, blk_below hb (blk_lt k3) k3, orow_below k4 hb⟩
      · rintro w1 w2 ⟨k1, k2, k3, k4⟩ hb
        exact ⟨k1.trans (hb.mono (Nat.le_of_lt (blk_lt k2))), blk_below hb (blk_lt k2) k2, blk_below hb (blk_lt k3) k3, orow_below k4 hb⟩
      · simp only [List.take_succ_cons, List.take_zero, storedObl, HeadSpec.val, and_true]
        refine ⟨?_, ?_, ?_, ?_, ?_⟩
        · intro act w' hk h
          have e0 := h (7, .pointer (some ⟨g, 0, none⟩)) (by simp)
          have hk3 : w'.heap[g]? = some (.cells ROW 24) := by rcases hk with hk | hk <;> exact hk.2.2.1
          exact sQuiet_load_row 24 (.tmp 7) rfl g e0 24 _ (0, 0) _ hk3 Try.underlying24 rfl HSZ.out.1
        · intro act w' hk h
          have e0 := h (6, .string bh) (by simp)
          simp only [Array.getD_eq_getD_getElem?] at e0
          simp [go_sem, e0, sQuiet]
        · intro act w' hk h
          have e0 := h (5, .int .i64 (z : Int)) (by simp)
          simp only [Array.getD_eq_getD_getElem?] at e0
          simp [go_sem, e0, sQuiet]
        · intro act w' hk h
          have e0 := h (49, .string bh) (by simp)
          have e1 := h (50, .int .i64 (z : Int)) (by simp)
          simp only [Array.getD_eq_getD_getElem?] at e0 e1
          simp [go_sem, e0, e1, sQuiet, z0, z1, z1n, q3]
        · intro act w' hk h
          have e0 := h (51, .string rb) (by simp)
          simp only [Array.getD_eq_getD_getElem?] at e0
          simp [go_sem, e0, sQuiet]
          exact CR.out _
      · rintro act w' ⟨k1, k2, k3, k4⟩ h
        have e0 : act.eval (.tmp 2) = .pointer (some ⟨B, 0, none⟩) := h (2, .pointer (some ⟨B, 0, none⟩)) (by simp)
        have e1 : act.eval (.tmp 48) = .agg ROW := h (48, .agg ROW) (by simp)
        refine ⟨w'.setRow B ROW, ?_, below_setRow k1 (Nat.le_refl _) _, setRow_heap _ _ _ _ _ _ k2, by rw [setRow_other _ _ _ _ (by omega)]; exact k3, orow_low k4 (fun k _ _ hk _ => setRow_other _ _ _ _ (by omega))⟩
        have hrun := run_storeVar_row (P := Try.prog) w' B 24 24 zM ROW k2 HSZ.out.1 (by rw [HROW.out]; rfl) HSZ.out.2
        unfold execOp
        simp only [e0, e1, Instr.storeAt, Instr.sureAddr, Sem.run_bind, Sem.run_pure, Result.andThen_ok, hrun]
      · simp [headReads, headPut, specV, HeadSpec.val, Act.put]
      · simp [headReads, headPut, specV, HeadSpec.val, Act.put]
      · rintro w' ⟨k1, k2, k3, k4⟩
        have HN := Lib.hid k2
        have HK4 := Lib.hid k4
        clear k2 k3 k4 HR3 hg3 hb3
        simp only [List.take_succ_cons, List.take_zero, List.drop_succ_cons, List.drop_zero, headPut, specV, HeadSpec.val, Act.put, List.setIfInBounds_toArray, List.set_cons_succ, List.set_cons_zero, List.getElem?_cons_succ, List.getElem?_cons_zero, Option.map_some, Option.getD_some]
        go_wp2_with fail
        exact bodyPost_ret (results_row_tmp2 (by rfl) _ _ B 24 _ (0, 0) _ rfl HN.out Try.underlying24 rfl HSZ.out.1) rfl ⟨⟨ao, c, by rw [HV.out, HROW.out]; dsimp only; rw [HL.out]; rfl, by rw [HS.out]; exact orow_ints HK4.out, by rw [HS.out, HL.out]; exact orow_cap HK4.out⟩, by rw [HBB.out]; exact k1⟩
theorem decode_any (d : ByteArray) (w : World) (hs : d.size ≤ 100000) :
    Calls Try.prog 12 #[.string d] w fun e w' => (∃ ao c, e = decA d (decE d) ao c ∧ IntsAt w' ao (decM d).su ∧ (decM d).su.length ≤ c) ∧ Below w.heap.size w w' := by
  have hfew : (d.size < 4 ∨ 4096 < szH d ∨ d.size < 4 + szH d) → (decM d).su = [] := fun h => dec_none d (by
    unfold decE
    split
    · decide
    · split
      · decide
      · split
        · decide
        · omega)
  by_cases h : d.size < 4 ∨ 4096 < szH d ∨ d.size < 4 + szH d
  · refine (decFew d w h hs).mono ?_
    rintro e w' ⟨he, hb⟩
    exact ⟨⟨none, 0, he, by rw [hfew h]; exact IntsAt.nil _ _, by rw [hfew h]; exact Nat.le_refl 0⟩, hb⟩
  · exact decFull d w (by omega) (by omega) (by omega) hs
theorem heCalls : HeCalls := ⟨fun m ao n c w hn hm _ _ _ _ hI => encode_any m.k m.rn m.sh m.su m.da m.ask ao n c w hn hm hI, decode_any⟩
end Go.Proofs.Ytjemikbnncfonaa
