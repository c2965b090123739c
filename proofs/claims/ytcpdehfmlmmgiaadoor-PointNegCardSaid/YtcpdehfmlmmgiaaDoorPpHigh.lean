/- The program's height of bytes, and whether they encode it as it is. -/
import Derived.Test.YtcpdehfmlmmgiaaDoorPpRow
import Derived.Test.YtcpdehfmlmmgiaaDoorConvS
import Derived.Test.YtcpdehfmlmmgiaaDoorStored
namespace Go.Proofs.YtcpdehfmlmmgiaaDoor
open Go.RowKit Go.Sort
set_option maxRecDepth 100000
set_option linter.unusedSimpArgs false
set_option linter.unusedVariables false

theorem without_top (x : UInt8) : bits .andNot .u8 (x.toNat : Int) 128 = ((x &&& 127).toNat : Int) := by
  show IntKind.u8.wrap ((BitVec.ofInt 8 (x.toNat : Int) &&& ~~~BitVec.ofInt 8 128).toNat : Nat) = _
  have hx : BitVec.ofInt 8 (x.toNat : Int) = x.toBitVec := by apply BitVec.eq_of_toNat_eq; simp
  rw [hx]
  have h := (x &&& 127).toNat_lt
  have e : (x.toBitVec &&& ~~~BitVec.ofInt 8 128).toNat = (x &&& 127).toNat := rfl
  rw [e, IntKind.wrap_u8]
  omega
theorem low_set (l : List UInt8) (h : l.length = 32) : l.set 31 (l.getD 31 0 &&& 127) = lowL l := by
  have hb : ∀ x : UInt8, x &&& 127 = UInt8.ofNat (x.toNat % 128) := fun x => by
    apply UInt8.toNat_inj.1
    rw [UInt8.toNat_and, UInt8.toNat_ofNat', show (127 : UInt8).toNat = 2 ^ 7 - 1 from rfl, Nat.and_two_pow_sub_one_eq_mod]
    omega
  rw [lowL, hb, List.set_eq_take_append_cons_drop, if_pos (by omega), List.drop_of_length_le (by omega)]
theorem txt_eq (a b : List UInt8) : ((⟨a.toArray⟩ : ByteArray).toList == (⟨b.toArray⟩ : ByteArray).toList) = (a == b) := by
  rw [ByteArray.toList_eq, ByteArray.toList_eq]

set_option maxHeartbeats 4000000 in
theorem heightOf_any (s : ByteArray) (w : World) (hs : s.size = 32) :
    Calls Tryd.prog 24 #[.string s] w fun e w' => e = .returned (.tuple #[.agg (uc (limN 4 (lowP s.data.toList % pF))), .bool (decide (lowP s.data.toList < pF))]) ∧ Below w.heap.size w w' := by
  obtain ⟨hz, hi⟩ := zero_of_info infoF
  have hl : s.data.toList.length = 32 := by rw [← Lib.size_eq]; exact hs
  have HR0 := blk_new w (.cells zeros4 26)
  have hb0 := below_new w (.cells zeros4 26)
  have hsz : (w.alloc (.cells zeros4 26)).heap.size = w.heap.size + 1 := by simp
  obtain ⟨cap, hcv, hown, hbo⟩ := conv_bytes s (w.alloc (.cells zeros4 26))
  rw [hsz] at hcv hown hbo
  rw [hs] at hcv
  have HR1 := blk_below hbo (by omega) HR0
  have hb1 : Below w.heap.size w _ := hb0.trans (hbo.mono (by omega))
  clear hbo hb0 HR0 hsz hi
  generalize Lib.bytesWorld _ _ _ = V1 at *
  generalize s.data.toList = l at *
  have hkl := lowL_length l hl
  have hls := low_set l hl
  have HOF := Lib.hid (fun W => of_any (⟨(lowL l).toArray⟩ : ByteArray) W (by show (lowL l).toArray.size = 32; simp [hkl]))
  have HOF : Hid (∀ W, Calls Tryd.prog 50 #[.string (⟨(lowL l).toArray⟩ : ByteArray)] W fun e w' => e = .returned (.tuple #[.agg (uc (limN 4 (leV (lowL l) 32 % pF))), .int .i64 0]) ∧ Below W.heap.size W w') := HOF
  have hn := nV_leV (lowL l)
  rw [hkl] at hn
  rw [hn] at HOF
  have HEQ := Lib.hid ((txt_eq (leF (nV (lowL l) % pF) 32) (lowL l)).trans (low_same (lowL l) pF hkl pF_pos (by decide)))
  have CB := Lib.hid (fun W => bytesF_any (nV (lowL l) % pF) W)
  rw [show lowP l = nV (lowL l) from rfl]
  clear hn
  generalize decide (nV (lowL l) < pF) = bb at *
  generalize nV (lowL l) % pF = y at *
  obtain ⟨c0, f0⟩ := own_byte hown 31 (by rw [hl]; decide)
  have hown1 := own_byte_put hown 31 (by rw [hl]; decide) (l.getD 31 0 &&& 127)
  rw [hls] at hown1
  have ht := conv_text_own hown1 hkl cap
  have a0 := without_top (l.getD 31 0)
  have HR := Lib.hid ((heap_setCell_other V1 ⟨w.heap.size + 1, 31, none⟩ w.heap.size (.int .u8 ((l.getD 31 0 &&& 127).toNat : Int)) (by simp)).trans HR1)
  have hb2 := hb1.setCell (p := ⟨w.heap.size + 1, 31, none⟩) (by simp) (.int .u8 ((l.getD 31 0 &&& 127).toNat : Int))
  have HO := Lib.hid hown1
  have HKL := Lib.hid hkl
  clear hown hown1 HR1 hb1 hkl hl hls
  generalize (l.getD 31 0 &&& 127).toNat = v1 at *
  generalize (l.getD 31 0).toNat = v2 at *
  generalize lowL l = tl at *
  generalize htx : (⟨tl.toArray⟩ : ByteArray) = tx at *
  have HTX := Lib.hid htx
  clear htx
  generalize hty : (⟨(leF y 32).toArray⟩ : ByteArray) = ty at *
  clear hty
  have hp32 : (31 : Int) < (32 : Int) := by omega
  go_enter Tryd.func24, Tryd.ntmps24
  go_wp2_with fail
  clear ht c0 f0 a0 hcv
  generalize (World.setCell _ _ _) = W0 at *
  have hB := hb2.size
  generalize hBB : w.heap.size = B at *
  have HBB := Lib.hid hBB
  clear hBB
  refine (HOF.out W0).mono ?_
  rintro e W1 ⟨rfl, bk⟩
  have HR1 := Lib.hid (blk_below bk (blk_lt HR.out) HR.out)
  have HO1 := Lib.hid (HO.out.stays bk)
  have hb3 := hb2.trans (bk.mono hB)
  have hlt := blk_lt HR1.out
  have HN := Lib.hid (blk_new W1 (.cells zeros4 26))
  have HNN := Lib.hid (setRow_heap _ W1.heap.size _ (uc (limN 4 y)) _ _ HN.out)
  have bk2 := below_setRow (below_new W1 (.cells zeros4 26)) (Nat.le_refl _) (uc (limN 4 y))
  have HR2 := Lib.hid (blk_below bk2 (blk_lt HR1.out) HR1.out)
  have HO2 := Lib.hid (HO1.out.stays bk2)
  have hb4 := hb3.trans (bk2.mono (Nat.le_of_lt hlt))
  have hgB : B < W1.heap.size := hlt
  clear HOF HR HR1 HO HO1 hb2 hb3 bk bk2 hlt
  go_wp2_with (with_reducible refine wpList_store_row rfl 26 _ _ rfl W1.heap.size (uc (limN 4 y)) rfl rfl 26 _ HN.out (sizeF' _) (zerosF_size _) (uc_one _) ?_)
  clear HN
  generalize (World.setRow (World.alloc _ _) _ _) = W2 at *
  generalize W1.heap.size = g5 at *
  clear hB
  refine wp_region_stored 6 26 [.val (.agg (uc (limN 4 y))) [(5, .pointer (some ⟨g5, 0, none⟩))], .val (.agg (uc (limN 4 y))) [(5, .pointer (some ⟨g5, 0, none⟩))], .val (.string ty) [(21, .agg (uc (limN 4 y)))],
      .val (.slice (some ⟨B + 1, 0, none⟩) 32 cap) [(4, .slice (some ⟨B + 1, 0, none⟩) 32 cap)], .val (.string tx) [(23, .slice (some ⟨B + 1, 0, none⟩) 32 cap)], .val (.bool bb) [(22, .string ty), (24, .string tx)]]
    [(2, .pointer (some ⟨B, 0, none⟩)), (20, .agg (uc (limN 4 y)))]
    (fun w' => Below B w w' ∧ w'.heap[B]? = some (.cells zeros4 26) ∧ w'.heap[g5]? = some (.cells (uc (limN 4 y)) 26) ∧ OwnS w' (B + 1) (B + 1) cap (Lib.byteCells tl))
    (fun w' => Below B w w' ∧ w'.heap[B]? = some (.cells (uc (limN 4 y)) 26) ∧ w'.heap[g5]? = some (.cells (uc (limN 4 y)) 26) ∧ OwnS w' (B + 1) (B + 1) cap (Lib.byteCells tl))
    _ rfl rfl (by kernel_rfl) rfl ?_ ?_ ?_ ?_ ?_ ?_ ?_ ?_
  · exact ⟨hb4.trans ⟨rfl, rfl, rfl, Nat.le_refl _, fun _ _ => rfl⟩, HR2.out, HNN.out, HO2.out.keep rfl⟩
  · rintro w1 w2 ⟨k1, k2, k3, k4⟩ hb
    exact ⟨k1.trans (hb.mono (Nat.le_of_lt (blk_lt k2))), blk_below hb (blk_lt k2) k2, blk_below hb (blk_lt k3) k3, k4.stays hb⟩
  · rintro w1 w2 ⟨k1, k2, k3, k4⟩ hb
    exact ⟨k1.trans (hb.mono (Nat.le_of_lt (blk_lt k2))), blk_below hb (blk_lt k2) k2, blk_below hb (blk_lt k3) k3, k4.stays hb⟩
  · simp only [List.take_succ_cons, List.take_zero, storedObl, HeadSpec.val, and_true]
    have hK : ∀ w' : World, ((Below B w w' ∧ w'.heap[B]? = some (.cells zeros4 26) ∧ w'.heap[g5]? = some (.cells (uc (limN 4 y)) 26) ∧ OwnS w' (B + 1) (B + 1) cap (Lib.byteCells tl)) ∨ (Below B w w' ∧ w'.heap[B]? = some (.cells (uc (limN 4 y)) 26) ∧ w'.heap[g5]? = some (.cells (uc (limN 4 y)) 26) ∧ OwnS w' (B + 1) (B + 1) cap (Lib.byteCells tl))) → w'.heap[g5]? = some (.cells (uc (limN 4 y)) 26) ∧ OwnS w' (B + 1) (B + 1) cap (Lib.byteCells tl) := by
      rintro w' (⟨_, _, h1, h2⟩ | ⟨_, _, h1, h2⟩)
      · exact ⟨h1, h2⟩
      · exact ⟨h1, h2⟩
    refine ⟨?_, ?_, ?_, ?_, ?_, ?_⟩
    · intro act w' hk h
      have e0 := h (5, .pointer (some ⟨g5, 0, none⟩)) (by simp)
      exact sQuiet_load_row 26 (.tmp 5) rfl g5 e0 26 _ (0, 0) _ (hK w' hk).1 Tryd.underlying26 rfl (sizeF' _)
    · intro act w' hk h
      have e0 := h (5, .pointer (some ⟨g5, 0, none⟩)) (by simp)
      exact sQuiet_load_row 26 (.tmp 5) rfl g5 e0 26 _ (0, 0) _ (hK w' hk).1 Tryd.underlying26 rfl (sizeF' _)
    · intro act w' hk h
      have e0 := h (21, .agg (uc (limN 4 y))) (by simp)
      simp only [Array.getD_eq_getD_getElem?] at e0
      simp [go_sem, e0, sQuiet]
      exact CB.out w'
    · intro act w' hk h
      have e0 := h (4, .slice (some ⟨B + 1, 0, none⟩) 32 cap) (by simp)
      simp only [Array.getD_eq_getD_getElem?] at e0
      simp [go_sem, e0, sQuiet]
    · intro act w' hk h
      have e0 := h (23, .slice (some ⟨B + 1, 0, none⟩) 32 cap) (by simp)
      simp only [Array.getD_eq_getD_getElem?] at e0
      have ht := conv_text_own (hK w' hk).2 HKL.out cap
      rw [HTX.out] at ht
      simp [go_sem, e0, sQuiet, ht]
    · intro act w' hk h
      have e0 := h (22, .string ty) (by simp)
      have e1 := h (24, .string tx) (by simp)
      simp only [Array.getD_eq_getD_getElem?] at e0 e1
      have := HEQ.out
      simp [go_sem, e0, e1, sQuiet, this]
  · rintro act w' ⟨k1, k2, k3, k4⟩ h
    have e0 : act.eval (.tmp 2) = .pointer (some ⟨B, 0, none⟩) := h (2, .pointer (some ⟨B, 0, none⟩)) (by simp)
    have e1 : act.eval (.tmp 20) = .agg (uc (limN 4 y)) := h (20, .agg (uc (limN 4 y))) (by simp)
    refine ⟨w'.setRow B (uc (limN 4 y)), ?_, below_setRow k1 (Nat.le_refl _) _, setRow_heap _ _ _ _ _ _ k2, by rw [setRow_other _ _ _ _ (by omega)]; exact k3, k4.keep (setRow_other _ _ _ _ (by omega))⟩
    have hrun := run_storeVar_row (P := Tryd.prog) w' B 26 26 zeros4 (uc (limN 4 y)) k2 (sizeF' _) (zerosF_size _) (uc_one _)
    unfold execOp
    simp only [e0, e1, Instr.storeAt, Instr.sureAddr, Sem.run_bind, Sem.run_pure, Result.andThen_ok, hrun]
  · simp [headReads, headPut, specV, HeadSpec.val, Act.put]
  · simp [headReads, headPut, specV, HeadSpec.val, Act.put]
  · rintro w' ⟨k1, k2, k3, k4⟩
    have HN := Lib.hid k2
    clear k2 k3 k4 HR2 HNN HO2 hb4
    simp only [List.take_succ_cons, List.take_zero, List.drop_succ_cons, List.drop_zero, headPut, specV, HeadSpec.val, Act.put, List.setIfInBounds_toArray, List.set_cons_succ, List.set_cons_zero, List.getElem?_cons_succ, List.getElem?_cons_zero, Option.map_some, Option.getD_some]
    go_wp2_with fail
    exact bodyPost_ret (results_row_tmpF (by rfl) _ _ B 26 _ (0, 0) _ rfl HN.out Tryd.underlying26 rfl (sizeF' _)) rfl ⟨rfl, by rw [HBB.out]; exact k1⟩
end Go.Proofs.YtcpdehfmlmmgiaaDoor
