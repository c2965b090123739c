/- The program's bytes of a point. -/
import Derived.Test.YtcpdehfmlmmgiaaDoorPpFns
import Derived.Test.YtcpdehfmlmmgiaaDoorPrSum
import Derived.Test.YtcpdehfmlmmgiaaDoorPrByt
namespace Go.Proofs.YtcpdehfmlmmgiaaDoor
open Go.RowKit Go.Sort
set_option maxRecDepth 100000
set_option linter.unusedSimpArgs false
set_option linter.unusedVariables false

/-- What is known of new bytes. -/
def tBytes (base : Nat) (n : Nat) (l : List UInt8) : Told := ⟨fun w v => ∃ g cap : Nat, v = .slice (some ⟨g, 0, none⟩) n cap ∧ OwnS w base g cap (Lib.byteCells l), fun w w' v hb ⟨g, cap, h1, h2⟩ => ⟨g, cap, h1, h2.stays hb⟩⟩
theorem byte_at (s : ByteArray) (i : Nat) (b : UInt8) (h : s.data.toList.getD i 0 = b) (hi : i < s.size) : ∀ k : i < s.size, ((s[i]'k).toNat : Int) = (b.toNat : Int) := fun k => by
  rw [← h, getDF_byte s i k]
/-- The last byte with the sign. -/
theorem top_or (x y : Nat) (hy : y < 57896044618658097711785492504343953926634992332820282019728792003956564819968) :
    bits .or .u8 (((leF y 32).getD 31 0).toNat : Int) ((((leF x 32).getD 0 0).toNat : Int) * 128 % 256) = ((UInt8.ofNat (((leF y 32).getD 31 0).toNat + 128 * (x % 2))).toNat : Int) := by
  obtain ⟨t1, _⟩ := leF_top y (x % 2) hy (by omega)
  have h0 : ((leF x 32).getD 0 0).toNat = x % 256 := by rw [leF_get _ _ _ (by decide), UInt8.toNat_ofNat', Nat.pow_zero, Nat.div_one]
  have e : (((leF x 32).getD 0 0).toNat : Int) * 128 % 256 = ((x % 2 : Nat) : Int) * 128 := by
    rw [h0]
    omega
  rw [e, or_bit7 _ _ t1 (by omega), UInt8.toNat_ofNat']
  omega

set_option maxHeartbeats 8000000 in
theorem ptBytes_any (p : PtN) (w : World) (hp : p.Ok) (hT : PrmQ w) :
    Calls Tryd.prog 11 #[.agg (uc (ptL p))] w fun e w' => e = .returned (.string (txtP p)) ∧ Below w.heap.size w w' := by
  have l_i : invF p.z < pF := powF_lt _ _
  have C_n := Lib.hid (fun (W : World) (hW : PrmQ W) => numbers_any p W hp hW)
  have C_i := Lib.hid (fun (W : World) (hW : PrmQ W) => invF_any p.z W hp.2.2.1)
  have C_xa := Lib.hid (fun (W : World) (hW : PrmQ W) => mulF_any p.x (invF p.z) W hp.1 l_i)
  have C_ya := Lib.hid (fun (W : World) (hW : PrmQ W) => mulF_any p.y (invF p.z) W hp.2.1 l_i)
  have hyl : mulF p.y (invF p.z) < 57896044618658097711785492504343953926634992332820282019728792003956564819968 := Nat.lt_trans (mulF_lt _ _) (by decide)
  have HT2 : Hid (txtP p = ⟨(leF (mulF p.y (invF p.z) + mulF p.x (invF p.z) % 2 * 57896044618658097711785492504343953926634992332820282019728792003956564819968) 32).toArray⟩) := Lib.hid rfl
  have hn : numL p = row4 p.x p.y p.z p.t := rfl
  rw [hn] at C_n
  clear hn hp l_i
  generalize invF p.z = i at *
  skip
  have Lp := Lib.hid (ptL_length p)
  generalize ptL p = pl at *
  generalize txtP p = tp at *
  obtain ⟨a, b, c, d⟩ := p
  dsimp only at C_n C_i C_xa C_ya hyl HT2
  generalize mulF a i = xa at *
  generalize mulF b i = ya at *
  have C_xb := Lib.hid (fun (W : World) => bytesF_any xa W)
  have C_yb := Lib.hid (fun (W : World) => bytesF_any ya W)
  obtain ⟨_, ht2⟩ := leF_top ya (xa % 2) hyl (by omega)
  have hto := top_or xa ya hyl
  rw [← ht2] at HT2
  clear ht2 hyl
  have hlx : (leF xa 32).length = 32 := leF_length _ _
  have hly : (leF ya 32).length = 32 := leF_length _ _
  have hb0 := byte_at (⟨(leF xa 32).toArray⟩ : ByteArray) 0 _ rfl (by show 0 < (leF xa 32).toArray.size; simp [hlx])
  have hsx : (⟨(leF xa 32).toArray⟩ : ByteArray).size = 32 := by show (leF xa 32).toArray.size = 32; simp [hlx]
  have hsy : (⟨(leF ya 32).toArray⟩ : ByteArray).size = 32 := by show (leF ya 32).toArray.size = 32; simp [hly]
  have hdx : (⟨(leF xa 32).toArray⟩ : ByteArray).data.toList = leF xa 32 := rfl
  have hdy : (⟨(leF ya 32).toArray⟩ : ByteArray).data.toList = leF ya 32 := rfl
  rw [hdx] at hb0
  generalize (⟨(leF xa 32).toArray⟩ : ByteArray) = tx at *
  generalize (⟨(leF ya 32).toArray⟩ : ByteArray) = ty at *
  generalize leF ya 32 = ly at *
  generalize ((leF xa 32).getD 0 0).toNat = x0 at *
  clear hdx hlx
  have HSY := Lib.hid hsy; have HDY := Lib.hid hdy; have HLY := Lib.hid hly; have HTO := Lib.hid hto; have HB0 := Lib.hid hb0; have HSX := Lib.hid hsx
  clear hsy hdy hly hto hb0 hsx
  obtain ⟨hz, hi⟩ := zero_of_info infoF
  obtain ⟨hzn, hin⟩ := zero_of_info infoNs
  obtain ⟨hzp, hip⟩ := zero_of_info infoPt
  have hb := below_new w (.cells (uc pl) 28)
  have HP := Lib.hid (hT.step hb)
  have HQ := Lib.hid (blk_new w (.cells (uc pl) 28))
  clear hi hin hip hT
  go_enter Tryd.func11, Tryd.ntmps11
  go_wp2_with (with_reducible refine wpList_load_row rfl 28 _ rfl w.heap.size rfl 28 _ (0, 0) _ HQ.out Tryd.underlying28 rfl (sizePt _ Lp.out) ?_)
  generalize (w.alloc _) = W0 at *
  have hB := Lib.hid hb.size
  generalize hBB : w.heap.size = B at *
  have HBB := Lib.hid hBB
  clear hBB
  refine (C_n.out W0 HP.out).mono ?_
  rintro e W1 ⟨rfl, bk⟩
  replace hb := hb.trans (bk.mono hB.out)
  replace HP := Lib.hid (HP.out.step bk)
  replace hB := Lib.hid (Nat.le_trans hB.out bk.size)
  replace HQ := Lib.hid (blk_below bk (blk_lt HQ.out) HQ.out)
  clear bk
  have HN := Lib.hid (blk_new W1 (.cells zrow4 57))
  have bn := below_new W1 (.cells zrow4 57)
  have q_g3 := Lib.hid (setRow_heap _ W1.heap.size _ (uc (row4 a b c d)) _ _ HN.out)
  go_wp2_with (first | (with_reducible refine wpList_store_row rfl 57 _ _ rfl W1.heap.size (uc (row4 a b c d)) rfl rfl 57 _ HN.out (sizeNs _ (row4_length _ _ _ _)) (zrow4_size _ (row4_length _ _ _ _)) (uc_one _) ?_) | (with_reducible refine wpList_load_in4 rfl _ rfl W1.heap.size 8 rfl 57 _ _ (0, 0) q_g3.out (limN_length _ _) (row4_2 _ _ _ _) ?_))
  have bk := below_setRow bn (Nat.le_refl _) (uc (row4 a b c d))
  have b_g3 := Lib.hid hB.out
  replace hb := hb.trans (bk.mono hB.out)
  replace HP := Lib.hid (HP.out.step bk)
  replace hB := Lib.hid (Nat.le_trans hB.out bk.size)
  replace HQ := Lib.hid (blk_below bk (blk_lt HQ.out) HQ.out)
  clear bk
  have H_g3 := q_g3
  generalize (World.setRow (World.alloc _ _) _ _) = W2 at *
  generalize W1.heap.size = g3 at *
  clear bn HN q_g3
  try simp only [Act.put]
  refine (C_i.out W2 HP.out).mono ?_
  rintro e W3 ⟨rfl, bk⟩
  replace hb := hb.trans (bk.mono hB.out)
  replace HP := Lib.hid (HP.out.step bk)
  replace hB := Lib.hid (Nat.le_trans hB.out bk.size)
  replace HQ := Lib.hid (blk_below bk (blk_lt HQ.out) HQ.out)
  replace H_g3 := Lib.hid (blk_below bk (blk_lt H_g3.out) H_g3.out)
  clear bk
  have HN := Lib.hid (blk_new W3 (.cells zeros4 26))
  have bn := below_new W3 (.cells zeros4 26)
  have q_g4 := Lib.hid (setRow_heap _ W3.heap.size _ (uc (limN 4 i)) _ _ HN.out)
  go_wp2_with (first | (with_reducible refine wpList_store_row rfl 26 _ _ rfl W3.heap.size (uc (limN 4 i)) rfl rfl 26 _ HN.out (sizeF' _) (zerosF_size _) (uc_one _) ?_))
  have bk := below_setRow bn (Nat.le_refl _) (uc (limN 4 i))
  have b_g4 := Lib.hid hB.out
  replace hb := hb.trans (bk.mono hB.out)
  replace HP := Lib.hid (HP.out.step bk)
  replace hB := Lib.hid (Nat.le_trans hB.out bk.size)
  replace HQ := Lib.hid (blk_below bk (blk_lt HQ.out) HQ.out)
  replace H_g3 := Lib.hid (blk_below bk (blk_lt H_g3.out) H_g3.out)
  clear bk
  have H_g4 := q_g4
  generalize (World.setRow (World.alloc _ _) _ _) = W4 at *
  generalize W3.heap.size = g4 at *
  clear bn HN q_g4
  try simp only [Act.put]
  refine wp_region_told 12 33 [(Told.val (.pointer (some ⟨g3, 0, none⟩)), [3]),
    (Told.val (.agg (uc (limN 4 a))), [12]),
    (Told.val (.agg (uc (limN 4 i))), [4]),
    (Told.val (.agg (uc (limN 4 xa))), [13, 14]),
    (Told.val (.string tx), [15]),
    (Told.val (.pointer (some ⟨g3, 4, none⟩)), [3]),
    (Told.val (.agg (uc (limN 4 b))), [17]),
    (Told.val (.agg (uc (limN 4 i))), [4]),
    (Told.val (.agg (uc (limN 4 ya))), [18, 19]),
    (Told.val (.string ty), [20]),
    (tBytes W4.heap.size 32 ly, [21]),
    (Told.val (.string tx), [16])]
    (by kernel_rfl) (by kernel_rfl) rfl ?_ ?_
  · simp only [List.take_succ_cons, List.take_zero, toldObl, and_true]
    refine ⟨?_, ?_, ?_, ?_, ?_, ?_, ?_, ?_, ?_, ?_, ?_, ?_⟩
    · intro act w hb h
      have e0 : act.tmps.getD 3 undef = .pointer (some ⟨g3, 0, none⟩) := h 3 (by simp)
      simp only [Array.getD_eq_getD_getElem?] at e0
      refine told_of_sQuiet ?_
      simp [go_sem, e0, sQuiet]
    · intro act w hb h
      have e0 : act.tmps.getD 12 undef = .pointer (some ⟨g3, 0, none⟩) := h 12 (by simp)
      exact told_of_sQuiet (sQuiet_load_in4 (.tmp 12) rfl (g3) 0 e0 57 _ _ (0, 0) (blk_below hb (blk_lt H_g3.out) H_g3.out) (limN_length _ _) (row4_0 _ _ _ _))
    · intro act w hb h
      have e0 : act.tmps.getD 4 undef = .pointer (some ⟨g4, 0, none⟩) := h 4 (by simp)
      exact told_of_sQuiet (sQuiet_load_row 26 (.tmp 4) rfl (g4) e0 26 _ (0, 0) _ (blk_below hb (blk_lt H_g4.out) H_g4.out) Tryd.underlying26 rfl (sizeF' _))
    · intro act w hb h
      have e0 : act.tmps.getD 13 undef = .agg (uc (limN 4 a)) := h 13 (by simp)
      have e1 : act.tmps.getD 14 undef = .agg (uc (limN 4 i)) := h 14 (by simp)
      simp only [Array.getD_eq_getD_getElem?] at e0 e1
      refine told_of_sQuiet ?_
      simp [go_sem, e0, e1, sQuiet]
      exact C_xa.out w (HP.out.step hb)
    · intro act w hb h
      have e0 : act.tmps.getD 15 undef = .agg (uc (limN 4 xa)) := h 15 (by simp)
      simp only [Array.getD_eq_getD_getElem?] at e0
      refine told_of_sQuiet ?_
      simp [go_sem, e0, sQuiet]
      exact C_xb.out w
    · intro act w hb h
      have e0 : act.tmps.getD 3 undef = .pointer (some ⟨g3, 0, none⟩) := h 3 (by simp)
      simp only [Array.getD_eq_getD_getElem?] at e0
      refine told_of_sQuiet ?_
      simp [go_sem, e0, sQuiet]
    · intro act w hb h
      have e0 : act.tmps.getD 17 undef = .pointer (some ⟨g3, 4, none⟩) := h 17 (by simp)
      exact told_of_sQuiet (sQuiet_load_in4 (.tmp 17) rfl (g3) 4 e0 57 _ _ (0, 0) (blk_below hb (blk_lt H_g3.out) H_g3.out) (limN_length _ _) (row4_1 _ _ _ _))
    · intro act w hb h
      have e0 : act.tmps.getD 4 undef = .pointer (some ⟨g4, 0, none⟩) := h 4 (by simp)
      exact told_of_sQuiet (sQuiet_load_row 26 (.tmp 4) rfl (g4) e0 26 _ (0, 0) _ (blk_below hb (blk_lt H_g4.out) H_g4.out) Tryd.underlying26 rfl (sizeF' _))
    · intro act w hb h
      have e0 : act.tmps.getD 18 undef = .agg (uc (limN 4 b)) := h 18 (by simp)
      have e1 : act.tmps.getD 19 undef = .agg (uc (limN 4 i)) := h 19 (by simp)
      simp only [Array.getD_eq_getD_getElem?] at e0 e1
      refine told_of_sQuiet ?_
      simp [go_sem, e0, e1, sQuiet]
      exact C_ya.out w (HP.out.step hb)
    · intro act w hb h
      have e0 : act.tmps.getD 20 undef = .agg (uc (limN 4 ya)) := h 20 (by simp)
      simp only [Array.getD_eq_getD_getElem?] at e0
      refine told_of_sQuiet ?_
      simp [go_sem, e0, sQuiet]
      exact C_yb.out w
    · intro act w hb h
      have e0 : act.tmps.getD 21 undef = .string ty := h 21 (by simp)
      simp only [Array.getD_eq_getD_getElem?] at e0
      obtain ⟨cap, hcv, hown, hbo⟩ := conv_bytes ty w
      rw [HSY.out] at hcv
      rw [HDY.out] at hown
      simp [go_sem, e0, toldQuiet, hcv]
      exact ⟨hbo, _, _, rfl, ⟨hb.size, hown.le, hown.cells, hown.room⟩⟩
    · intro act w hb h
      have e0 : act.tmps.getD 16 undef = .string tx := h 16 (by simp)
      simp only [Array.getD_eq_getD_getElem?] at e0
      refine told_of_sQuiet ?_
      simp [go_sem, e0, sQuiet]
  · simp only [List.take_succ_cons, List.take_zero, List.drop_succ_cons, List.drop_zero, toldEnd, Act.put, List.setIfInBounds_toArray, List.set_cons_succ, List.set_cons_zero]
    rintro X bk v12 q12 v13 q13 v14 q14 v15 q15 v16 q16 v17 q17 v18 q18 v19 q19 v20 q20 v21 q21 v22 ⟨g, cap, q22, how⟩ v5 q5
    obtain rfl := q12.symm
    obtain rfl := q13.symm
    obtain rfl := q14.symm
    obtain rfl := q15.symm
    obtain rfl := q16.symm
    obtain rfl := q17.symm
    obtain rfl := q18.symm
    obtain rfl := q19.symm
    obtain rfl := q20.symm
    obtain rfl := q21.symm
    obtain rfl := q22.symm
    obtain rfl := q5.symm
    replace hb := hb.trans (bk.mono hB.out)
    have hBg : B ≤ g := Nat.le_trans hB.out how.base
    clear bk HP H_g3 H_g4 HQ C_n C_i C_xa C_ya C_xb C_yb hB
    go_wp2_with fail
    obtain ⟨c31, f31⟩ := own_byte how 31 (by rw [HLY.out]; decide)
    have ka := cell_regrown c31
    have hi31 : (31 : Int) < (32 : Int) := by omega
    have hb0 := HB0.out
    have hsx := HSX.out
    have hl0 : 0 < tx.size := by omega
    have hi0 : (0 : Int) < (tx.size : Int) := by omega
    generalize ly.getD 31 0 = b31 at *
    refine wp_region_reads_tail 7 (by kernel_rfl) (by kernel_rfl) ?_
    simp only [List.take_succ_cons, List.take_zero, List.drop_succ_cons, List.drop_zero]
    repeat (first | go_big_quiet_step (fail) | quiet_step (fail))
    refine wpQuiet_nil ?_
    intro X1 hb1
    have how1 := how.stays hb1
    replace hb := hb.trans (hb1.mono (Nat.le_trans (by omega) (Nat.le_of_lt (block_lt_of_cell c31))))
    obtain ⟨c1, f1⟩ := own_byte how1 31 (by rw [HLY.out]; decide)
    have how2 := own_byte_put how1 31 (by rw [HLY.out]; decide) (UInt8.ofNat (b31.toNat + 128 * (xa % 2)))
    have ht := conv_text_own how2 (n := 32) (by rw [List.length_set]; exact HLY.out) cap
    have hb2 := hb.setCell (p := ⟨g, 31, none⟩) hBg (.int .u8 ((UInt8.ofNat (b31.toNat + 128 * (xa % 2))).toNat : Int))
    rw [← HT2.out] at ht
    have hto := HTO.out
    clear HTO HT2
    generalize UInt8.ofNat (b31.toNat + 128 * (xa % 2)) = cb at *
    clear hb hb1 how how1 how2 ka c31 f31
    go_wp2_with fail
    go_ret
    exact ⟨rfl, by rw [HBB.out]; exact hb2⟩
end Go.Proofs.YtcpdehfmlmmgiaaDoor
