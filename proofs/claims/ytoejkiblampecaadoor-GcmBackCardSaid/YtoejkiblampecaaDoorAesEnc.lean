/- The program's block, encrypted. -/
import Derived.Test.YtoejkiblampecaaDoorAesKey
namespace Go.Proofs.YtoejkiblampecaaDoor
open Go.RowKit Go.Sort
set_option maxRecDepth 100000
set_option linter.unusedSimpArgs false
set_option linter.unusedVariables false

theorem keys_sliced (a : Nat) (w : World) :
    (Instr.sliceAt 70 (.pointer (some ⟨a, 0, none⟩)) (some (.int .i64 1)) (some (.int .i64 10)) none).run Tryd.prog w = .ok (.slice (some ⟨a, 16, none⟩) 9 10) w := by
  have hsz : ∀ w, (sizeOf (Tryd.prog.elem 70)).run Tryd.prog w = .ok 16 w := fun w => by
    have hi : (Tryd.prog.info? (Tryd.prog.elem 70)).map (·.size) = some 16 := by kernel_rfl
    cases hq : Tryd.prog.info? (Tryd.prog.elem 70) with
    | none => simp [hq] at hi
    | some i => simp [hq] at hi; simp [sizeOf, typeInfo, hq, hi]
  have hn : Tryd.prog.arrayLen 70 = 11 := by kernel_rfl
  rw [run_sliceAt_array_lh w 70 ⟨a, 0, none⟩ (by kernel_rfl) .i64 .i64 1 10 (by omega) (by omega) (by rw [hn]; omega), hsz, hn]
  simp [slicedAt, Addr.add]

set_option maxHeartbeats 2000000 in
theorem encrypted_any (key blk : List UInt8) (w : World) (hk : key.length = 16) (hs : blk.length = 16) (hT : TabQ w) :
    Calls Tryd.prog 45 #[.agg (bcells blk), .agg (bcells (ksL key 11))] w fun e w' => e = .returned (.agg (bcells (enL key blk))) ∧ Below w.heap.size w w' := by
  obtain ⟨hz, hi⟩ := zero_of_info infoAes
  have HG0 := Lib.hid (blk_old (o := .cells szeros 68) (blk_old (o := .cells (bcells (ksL key 11)) 70) (blk_new w (.cells (bcells blk) 68))))
  have HK0 := Lib.hid (blk_old (o := .cells szeros 68) (blk_new2 w (.cells (bcells blk) 68) (.cells (bcells (ksL key 11)) 70)))
  have HR0 := Lib.hid (blk_new3 w (.cells (bcells blk) 68) (.cells (bcells (ksL key 11)) 70) (.cells szeros 68))
  have hb0 := below_new3 w (.cells (bcells blk) 68) (.cells (bcells (ksL key 11)) 70) (.cells szeros 68)
  have hTl := hT.lt
  have HT0 := Lib.hid (hT.step hb0)
  have HKL := Lib.hid hk; have HS := Lib.hid hs
  have HIb := Lib.hid (sizeAes blk hs)
  have HI16 := Lib.hid (zero_of_info infoAes).2
  have HLs0 := Lib.hid (show 0 + 16 ≤ (ksL key 11).length from by rw [ksL_length]; omega)
  have HSub0 := Lib.hid (ksL_sub key 11 0 (by omega) (by omega) hk)
  rw [show 16 * 0 = 0 from rfl, show rk key 0 = key from rfl] at HSub0
  have HP := Lib.hid (fun W => stPlus_any blk key W hs hk)
  have sl := keys_sliced (w.heap.size + 1)
  clear hi hk hs hT
  go_enter Tryd.func45, Tryd.ntmps45
  go_wp2_with (first
    | (with_reducible refine wpList_load_row rfl 68 _ rfl w.heap.size rfl 68 _ (0, 0) _ HG0.out Tryd.underlying68 rfl HIb.out ?_)
    | (with_reducible refine wpList_load_sub rfl 68 _ rfl (w.heap.size + 1) 0 rfl 70 (ksL key 11) 16 (0, 0) _ HK0.out Tryd.underlying68 rfl HI16.out HLs0.out ?_))
  rw [HSub0.out]
  generalize (((w.alloc _).alloc _).alloc _) = W0 at *
  generalize hBB : w.heap.size = B at *
  have HBB := Lib.hid hBB
  clear hBB
  refine (HP.out W0).mono ?_
  rintro e W1 ⟨rfl, hb1⟩
  have hl0 := blk_lt HR0.out
  have HG1 := Lib.hid (blk_below hb1 (by omega) HG0.out)
  have HK1 := Lib.hid (blk_below hb1 (by omega) HK0.out)
  have HR1 := Lib.hid (blk_below hb1 hl0 HR0.out)
  have HT1 := Lib.hid (HT0.out.step hb1)
  have hb2 : Below B w W1 := hb0.trans (hb1.mono (by omega))
  have hl1 := blk_lt HR1.out
  rw [show plS blk key = roS key blk 0 from rfl]
  have hrl := roS_length key blk 0
  have HIr := Lib.hid (sizeAes _ hrl)
  have HOr := Lib.hid (bsize_eq HS.out hrl)
  have H1r := Lib.hid (arr_one (roS key blk 0))
  clear HG0 HK0 HR0 HT0 hb0 hb1 hl0 HP HIb HLs0 HSub0
  have HG2 := Lib.hid (setRow_heap W1 B _ (bcells (roS key blk 0)) _ _ HG1.out)
  have HK2 := Lib.hid (show (W1.setRow B (bcells (roS key blk 0))).heap[B + 1]? = some (.cells (bcells (ksL key 11)) 70) from by rw [setRow_other _ _ _ _ (by omega)]; exact HK1.out)
  have HR2 := Lib.hid (show (W1.setRow B (bcells (roS key blk 0))).heap[B + 1 + 1]? = some (.cells szeros 68) from by rw [setRow_other _ _ _ _ (by omega)]; exact HR1.out)
  have hb3 : Below B w (W1.setRow B (bcells (roS key blk 0))) := below_setRow hb2 (by omega) _
  have HT2 := Lib.hid (show TabQ (W1.setRow B (bcells (roS key blk 0))) from HT1.out.below (B := B) (below_setRow (Below.refl _ _) (by omega) _) hTl)
  go_wp2_with (with_reducible refine wpList_store_row rfl 68 _ _ rfl B (bcells (roS key blk 0)) rfl rfl 68 _ HG1.out HIr.out HOr.out H1r.out ?_)
  clear HG1 HK1 HR1 HT1 hb2 hrl HIr HOr H1r hl1
  generalize W1.setRow _ _ = W2 at *
  go_loopw [13] (fun i wr => ∃ c : Nat, c ≤ 9 ∧ i = .int .i64 (c : Int) ∧ wr.heap[B]? = some (.cells (bcells (roS key blk c)) 68) ∧ wr.heap[B + 1]? = some (.cells (bcells (ksL key 11)) 70) ∧ wr.heap[B + 1 + 1]? = some (.cells szeros 68) ∧ Below B w wr ∧ TabQ wr) (fun i _ => 9 - (intOf i).toNat)
  case atStart => exact ⟨0, by omega, rfl, HG2.out, HK2.out, HR2.out, hb3, HT2.out⟩
  case round =>
    clear HG2 HK2 HR2 hb3 HT2
    obtain ⟨c, hc, rfl, hg, hkk, hr, hb, hT⟩ := hrel
    have HG := Lib.hid hg; have HR := Lib.hid hr; have HT := Lib.hid hT; have HK := Lib.hid hkk
    clear hg hr hT hkk
    have hl0 := blk_lt HR.out
    by_cases hlt : c < 9
    · have hd : decide ((c : Int) < 9) = true := by simp; omega
      have HLs := Lib.hid (show 16 + c * 16 + 16 ≤ (ksL key 11).length from by rw [ksL_length]; omega)
      have hsub : subL (ksL key 11) (16 + c * 16) 16 = rk key (c + 1) := by rw [show 16 + c * 16 = 16 * (c + 1) by omega]; exact ksL_sub key 11 (c + 1) (by omega) (by omega) HKL.out
      have HKN := Lib.hid hsub
      have hkn : (subL (ksL key 11) (16 + c * 16) 16).length = 16 := by rw [hsub]; exact rk_length key HKL.out (c + 1)
      have HIk := Lib.hid (sizeAes _ hkn)
      have HOk := Lib.hid (szeros_size _ hkn)
      have H1k := Lib.hid (arr_one (subL (ksL key 11) (16 + c * 16) 16))
      have HX0 := Lib.hid (blk_new wr (.cells szeros 68))
      have HX := Lib.hid (setRow_heap (wr.alloc (.cells szeros 68)) wr.heap.size _ (bcells (subL (ksL key 11) (16 + c * 16) 16)) _ _ HX0.out)
      have hneq : ∀ k, k < wr.heap.size → ((wr.alloc (.cells szeros 68)).setRow wr.heap.size (bcells (subL (ksL key 11) (16 + c * 16) 16))).heap[k]? = (wr.alloc (.cells szeros 68)).heap[k]? := fun k hk => setRow_other _ _ _ _ (by omega)
      have HG1 := Lib.hid ((hneq B (by omega)).trans (blk_old HG.out))
      have HK1 := Lib.hid ((hneq (B + 1) (by omega)).trans (blk_old HK.out))
      have HR1 := Lib.hid ((hneq (B + 1 + 1) (by omega)).trans (blk_old HR.out))
      have hb1 : Below wr.heap.size wr ((wr.alloc (.cells szeros 68)).setRow wr.heap.size (bcells (subL (ksL key 11) (16 + c * 16) 16))) := below_setRow (below_new _ _) (Nat.le_refl _) _
      have HT1 := Lib.hid (HT.out.step hb1)
      have hb2 : Below B w ((wr.alloc (.cells szeros 68)).setRow wr.heap.size (bcells (subL (ksL key 11) (16 + c * 16) 16))) := hb.trans (hb1.mono (by omega))
      have HKNL := Lib.hid hkn
      clear hsub hkn
      go_wp2_with (first
        | (with_reducible refine wpList_load_sub rfl 68 _ rfl (B + 1) (16 + c * 16) rfl 70 (ksL key 11) 16 (0, 0) _ HK.out Tryd.underlying68 rfl HI16.out HLs.out ?_)
        | (with_reducible refine wpList_store_row rfl 68 _ _ rfl wr.heap.size (bcells (subL (ksL key 11) (16 + c * 16) 16)) rfl rfl 68 _ HX0.out HIk.out HOk.out H1k.out ?_))
      clear HG HK HR HT hb hb1 hneq HX0 HOk H1k HLs
      have hkn := HKNL.out
      generalize subL (ksL key 11) (16 + c * 16) 16 = kn at *
      generalize wr.heap.size = X at *
      generalize World.setRow (World.alloc wr _) _ _ = W3 at *
      have HS0 := Lib.hid (roS_length key blk c)
      have HS1 := Lib.hid (show (swS (roS key blk c)).length = 16 from by rw [swS_length, HS0.out])
      have HS2 := Lib.hid (shS_length (swS (roS key blk c)))
      have HS3 := Lib.hid (mxS_length (shS (swS (roS key blk c))))
      have HE : Hid (plS (mxS (shS (swS (roS key blk c)))) (rk key (c + 1)) = roS key blk (c + 1)) := Lib.hid rfl
      rw [← HKN.out] at HE
      have HI0 := Lib.hid (sizeAes _ HS0.out)
      have C1 := Lib.hid (fun d os => Calls.regrown_of (stSwapped_any (roS key blk c) (grow (redrawn W3 d) os) HS0.out (HT1.out.step (below_regrown W3 d os))))
      have C2 := Lib.hid (fun W => stShifted_any (swS (roS key blk c)) W HS1.out)
      have C3 := Lib.hid (fun W => stMixed_any (shS (swS (roS key blk c))) W HS2.out)
      have C4 := Lib.hid (fun W => stPlus_any (mxS (shS (swS (roS key blk c)))) kn W HS3.out hkn)
      rw [HE.out] at C4
      have hrl := roS_length key blk (c + 1)
      have HIn := Lib.hid (sizeAes _ hrl)
      have HOn := Lib.hid (bsize_eq HS0.out hrl)
      have H1n := Lib.hid (arr_one (roS key blk (c + 1)))
      clear hrl hkn HS0 HS1 HS2 HS3 HE HKN
      generalize mxS (shS (swS (roS key blk c))) = s3 at *
      generalize shS (swS (roS key blk c)) = s2 at *
      generalize swS (roS key blk c) = s1 at *
      have hl3 := blk_lt HR1.out
      refine wp_region_reads_tail 6 (by kernel_rfl) (by kernel_rfl) ?_
      simp only [List.take_succ_cons, List.take_zero, List.drop_succ_cons, List.drop_zero]
      refine arr_quiet_load rfl 68 _ rfl ⟨B, 0, none⟩ rfl _ (arr_row_regrown 68 B 68 _ (0, 0) _ HG1.out Tryd.underlying68 rfl HI0.out) ?_
      simp only [Act.put, List.setIfInBounds_toArray, List.set_cons_succ, List.set_cons_zero]
      repeat (first | go_big_quiet_step ((first | exact C1.out _ _ | exact Calls.regrown_of (C2.out _) | exact Calls.regrown_of (C3.out _) | exact Calls.regrown_of (C4.out _))) | quiet_step ((first | exact C1.out _ _ | exact Calls.regrown_of (C2.out _) | exact Calls.regrown_of (C3.out _) | exact Calls.regrown_of (C4.out _))))
      refine arr_quiet_load rfl 68 _ rfl ⟨X, 0, none⟩ rfl _ (arr_row_regrown 68 X 68 _ (0, 0) _ HX.out Tryd.underlying68 rfl HIk.out) ?_
      simp only [Act.put, List.setIfInBounds_toArray, List.set_cons_succ, List.set_cons_zero]
      repeat (first | go_big_quiet_step ((first | exact C1.out _ _ | exact Calls.regrown_of (C2.out _) | exact Calls.regrown_of (C3.out _) | exact Calls.regrown_of (C4.out _))) | quiet_step ((first | exact C1.out _ _ | exact Calls.regrown_of (C2.out _) | exact Calls.regrown_of (C3.out _) | exact Calls.regrown_of (C4.out _))))
      refine wpQuiet_nil ?_
      intro Y hY
      have HG2 := Lib.hid (blk_below hY (by omega) HG1.out)
      have HK2 := Lib.hid (blk_below hY (by omega) HK1.out)
      have HR2 := Lib.hid (blk_below hY hl3 HR1.out)
      have HT2 := Lib.hid (HT1.out.step hY)
      have hb3 : Below B w Y := hb2.trans (hY.mono (by omega))
      have hl4 := blk_lt HR2.out
      clear HG1 HK1 HR1 HT1 hb2 hY C1 C2 C3 C4 HX HIk hl3
      have HG3 := Lib.hid (setRow_heap Y B _ (bcells (roS key blk (c + 1))) _ _ HG2.out)
      have HK3 := Lib.hid (show (Y.setRow B (bcells (roS key blk (c + 1)))).heap[B + 1]? = some (.cells (bcells (ksL key 11)) 70) from by rw [setRow_other _ _ _ _ (by omega)]; exact HK2.out)
      have HR3 := Lib.hid (show (Y.setRow B (bcells (roS key blk (c + 1)))).heap[B + 1 + 1]? = some (.cells szeros 68) from by rw [setRow_other _ _ _ _ (by omega)]; exact HR2.out)
      have hb4 : Below B w (Y.setRow B (bcells (roS key blk (c + 1)))) := below_setRow hb3 (by omega) _
      have HT3 := Lib.hid (show TabQ (Y.setRow B (bcells (roS key blk (c + 1)))) from HT2.out.below (B := B) (below_setRow (Below.refl _ _) (by omega) _) hTl)
      go_wp2_with (with_reducible refine wpList_store_row rfl 68 _ _ rfl B (bcells (roS key blk (c + 1))) rfl rfl 68 _ HG2.out HIn.out HOn.out H1n.out ?_)
      clear HG2 HK2 HR2 HT2 hb3 hl4
      go_roundw
      case rel => exact ⟨c + 1, by omega, by go_num, HG3.out, HK3.out, HR3.out, hb4, HT3.out⟩
      case measure => simp [intOf]; omega
    · have hd : decide ((c : Int) < 9) = false := by simp; omega
      obtain rfl : c = 9 := by omega
      have HI16k := HI16
      have HS0 := Lib.hid (roS_length key blk 9)
      have HS1 := Lib.hid (show (swS (roS key blk 9)).length = 16 from by rw [swS_length, HS0.out])
      have HS2 := Lib.hid (shS_length (swS (roS key blk 9)))
      have HE : Hid (plS (shS (swS (roS key blk 9))) (rk key 10) = enL key blk) := Lib.hid rfl
      have HKN := Lib.hid (ksL_sub key 11 10 (by omega) (by omega) HKL.out)
      have HLs := Lib.hid (show 160 + 16 ≤ (ksL key 11).length from by rw [ksL_length]; omega)
      rw [show 16 * 10 = 160 from rfl] at HKN
      have hkn := rk_length key HKL.out 10
      have HI0 := Lib.hid (sizeAes _ HS0.out)
      have HTr := Lib.hid HT.out
      have C1 := Lib.hid (fun d os => Calls.regrown_of (stSwapped_any (roS key blk 9) (grow (redrawn wr d) os) HS0.out (HT.out.step (below_regrown wr d os))))
      have C2 := Lib.hid (fun W => stShifted_any (swS (roS key blk 9)) W HS1.out)
      have C4 := Lib.hid (fun W => stPlus_any (shS (swS (roS key blk 9))) (rk key 10) W HS2.out hkn)
      rw [HE.out] at C4
      have HQ := Lib.hid (fun n os => sub_regrown 68 (B + 1) 160 70 (ksL key 11) 16 (0, 0) _ HK.out Tryd.underlying68 rfl HI16.out HLs.out n os)
      rw [HKN.out] at HQ
      have hrl := enL_length key blk
      have HIn := Lib.hid (sizeAes _ hrl)
      have HOn := Lib.hid (szeros_size _ hrl)
      have H1n := Lib.hid (arr_one (enL key blk))
      clear hrl hkn HS0 HS1 HS2 HE HKN HLs
      generalize shS (swS (roS key blk 9)) = s2 at *
      generalize swS (roS key blk 9) = s1 at *
      generalize rk key 10 = kn at *
      generalize hrow : enL key blk = row at *
      have HROW := Lib.hid hrow
      clear hrow
      go_wp2_with fail
      refine wp_region_reads_tail 6 (by kernel_rfl) (by kernel_rfl) ?_
      simp only [List.take_succ_cons, List.take_zero, List.drop_succ_cons, List.drop_zero]
      refine arr_quiet_load rfl 68 _ rfl ⟨B, 0, none⟩ rfl _ (arr_row_regrown 68 B 68 _ (0, 0) _ HG.out Tryd.underlying68 rfl HI0.out) ?_
      simp only [Act.put, List.setIfInBounds_toArray, List.set_cons_succ, List.set_cons_zero]
      repeat (first | go_big_quiet_step ((first | exact C1.out _ _ | exact Calls.regrown_of (C2.out _) | exact Calls.regrown_of (C4.out _))) | quiet_step ((first | exact C1.out _ _ | exact Calls.regrown_of (C2.out _) | exact Calls.regrown_of (C4.out _))))
      refine arr_quiet_load rfl 68 _ rfl ⟨B + 1, 160, none⟩ rfl _ HQ.out ?_
      simp only [Act.put, List.setIfInBounds_toArray, List.set_cons_succ, List.set_cons_zero]
      repeat (first | go_big_quiet_step ((first | exact C1.out _ _ | exact Calls.regrown_of (C2.out _) | exact Calls.regrown_of (C4.out _))) | quiet_step ((first | exact C1.out _ _ | exact Calls.regrown_of (C2.out _) | exact Calls.regrown_of (C4.out _))))
      refine wpQuiet_nil ?_
      intro Y hY
      have HR2 := Lib.hid (blk_below hY hl0 HR.out)
      have hb3 : Below B w Y := hb.trans (hY.mono (by omega))
      clear HG HK HR HT HTr hb hY C1 C2 C4 HQ
      go_wp2_with (with_reducible refine wpList_store_row rfl 68 _ _ rfl (B + 1 + 1) (bcells row) rfl rfl 68 _ HR2.out HIn.out HOn.out H1n.out ?_)
      exact bodyPost_ret (v := .agg (bcells row)) (results_cell_row (by rfl) _ _ (B + 1 + 1) 68 _ (0, 0) _ rfl (setRow_heap _ _ _ _ _ _ HR2.out) Tryd.underlying68 rfl HIn.out) rfl ⟨by first | (with_reducible rfl) | rw [HROW.out], by rw [HBB.out]; exact below_setRow hb3 (by omega) _⟩
end Go.Proofs.YtoejkiblampecaaDoor
