/- The reference's Under: a block under a key that is made ready. -/
import Derived.Test.YtoejkiblampecaaDoorAesRkey
import Derived.Test.YtoejkiblampecaaDoorAesLin
namespace Go.Proofs.YtoejkiblampecaaDoor
open Go.RowKit Go.Sort
set_option maxRecDepth 100000
set_option linter.unusedSimpArgs false
set_option linter.unusedVariables false

/-- The state behind so many of the rounds. -/
def stR (key blk : List UInt8) (m : Nat) : List UInt8 := if m < 10 then roS key blk m else enL key blk
theorem stR_length (key blk : List UInt8) (m : Nat) : (stR key blk m).length = 16 := by
  unfold stR
  split
  · exact roS_length _ _ _
  · exact enL_length _ _
/-- The bytes swapped and shifted, the reference's way. -/
def ssF (s : List UInt8) (i : Nat) : UInt8 := sb (s.getD ((i + 4 * (i % 4)) % 16) 0)
theorem ss_eq (s : List UInt8) (h : s.length = 16) : genL (ssF s) 16 = shS (swS s) := bytes_ext (genL_length _ _) (shS_length _) fun i hi => by
  rw [genL, range_getD _ _ _ hi, shS, range_getD _ _ _ hi, ssF, swS_getD _ _ (by rw [h]; exact Nat.mod_lt _ (by omega))]
def mxF (t : List UInt8) (i : Nat) : UInt8 := mxB (t.getD (i / 4 * 4 + i % 4) 0) (t.getD (i / 4 * 4 + (i % 4 + 1) % 4) 0) (t.getD (i / 4 * 4 + (i % 4 + 2) % 4) 0) (t.getD (i / 4 * 4 + (i % 4 + 3) % 4) 0)
theorem mx_eq (t : List UInt8) : genL (mxF t) 16 = mxS t := rfl
theorem stR_mid (key blk : List UInt8) (m : Nat) (h : m + 1 < 10) : plS (mxS (shS (swS (stR key blk m)))) (rk key (m + 1)) = stR key blk (m + 1) := by
  rw [stR, if_pos (by omega), stR, if_pos h]; rfl
theorem stR_end (key blk : List UInt8) : plS (shS (swS (stR key blk 9))) (rk key (9 + 1)) = stR key blk (9 + 1) := by
  rw [stR, if_pos (by omega), stR, if_neg (by omega)]; rfl
/-- What the reference adds up for a byte of a column. -/
theorem mix_ref (a b c d : UInt8) : ((mxB a b c d).toNat : Int) = bits .xor .i64 (bits .xor .i64 (bits .xor .i64 ((tm a.toNat 2 : Nat) : Int) ((tm b.toNat 3 : Nat) : Int)) (c.toNat : Int)) (d.toNat : Int) % 256 := by
  have ha := UInt8.toNat_lt a; have hb := UInt8.toNat_lt b; have hc := UInt8.toNat_lt c; have hd := UInt8.toNat_lt d
  have h1 := tm_lt a.toNat 2 ha
  have h2 := tm_lt b.toNat 3 hb
  have h3 := xor_lt8 h1 h2
  have h4 := xor_lt8 h3 hc
  have h5 := xor_lt8 h4 hd
  rw [ax_xor _ _ (by omega) (by omega), ax_xor _ _ (by omega) (by omega), ax_xor _ _ (by omega) (by omega)]
  rw [mxB_toNat, tm2 _ ha, tm3 _ hb]
  have hlin : dbl1 (a.toNat ^^^ b.toNat) = dbl1 a.toNat ^^^ dbl1 b.toNat := dbl_lin _ _ ha hb
  rw [hlin]
  rw [tm2 _ ha, tm3 _ hb] at h5
  rw [← Nat.xor_assoc (dbl1 a.toNat)] at *
  omega
theorem refTimesB (a b : Nat) (w : World) (ha : a < 256) (hb : b < 256) :
    Calls Tryd.prog 51 #[.int .i64 (a : Int), .int .i64 (b : Int)] w fun e w' => e = .returned (.int .i64 ((tm a b : Nat) : Int)) ∧ Below w.heap.size w w' :=
  (refTimes_any a b w ha hb).mono fun e w' ⟨h, hw⟩ => ⟨h, hw ▸ Below.refl _ _⟩
/-- The slice of the round keys. -/
def KeysAt (W : World) (K : Nat) (key : List UInt8) : Prop := ∀ j, j < 11 → W.cell? ⟨K, j, none⟩ = some (.string ⟨(rk key j).toArray⟩)
theorem KeysAt.below {W W' : World} {K B : Nat} {key : List UInt8} (h : KeysAt W K key) (hb : Below B W W') (hK : K < B) : KeysAt W' K key := fun j hj => (hb.cell (p := ⟨K, j, none⟩) hK).trans (h j hj)
theorem KeysAt.lt {W : World} {K : Nat} {key : List UInt8} (h : KeysAt W K key) : K < W.heap.size := block_lt_of_cell (h 0 (by omega))
theorem arr_size (l : List UInt8) : (⟨l.toArray⟩ : ByteArray).size = l.length := rfl

def sheetC (K kc S sc : Nat) : Array Value := #[.slice (some ⟨K, 0, none⟩) 11 kc, .slice (some ⟨S, 0, none⟩) 256 sc]
theorem sheet_cells {W : World} {B K kc S sc : Nat} (h : W.heap[B]? = some (.cells (sheetC K kc S sc) 43)) : W.cell? ⟨B, 0, none⟩ = some (.slice (some ⟨K, 0, none⟩) 11 kc) ∧ W.cell? ⟨B, 1, none⟩ = some (.slice (some ⟨S, 0, none⟩) 256 sc) := by
  rw [cell_of_row _ _ _ _ _ _ h, cell_of_row _ _ _ _ _ _ h]; exact ⟨rfl, rfl⟩

set_option maxHeartbeats 2000000 in
theorem under_any (key : List UInt8) (block : ByteArray) (K kc S sc : Nat) (w : World) (hk : key.length = 16) (hs : block.size = 16) (hK : KeysAt w K key) (hT : TabB w S) :
    Calls Tryd.prog 39 #[.agg #[.slice (some ⟨K, 0, none⟩) 11 kc, .slice (some ⟨S, 0, none⟩) 256 sc], .string block] w fun e w' => e = .returned (.string ⟨(enL key block.data.toList).toArray⟩) ∧ Below w.heap.size w w' := by
  obtain ⟨i0, hi, hz0, hz1, hz2⟩ := info_parts info_u8
  have hX0 := blk_new w (.cells #[.slice (some ⟨K, 0, none⟩) 11 kc, .slice (some ⟨S, 0, none⟩) 256 sc] 43)
  have hbX := below_new w (.cells #[.slice (some ⟨K, 0, none⟩) 11 kc, .slice (some ⟨S, 0, none⟩) 256 sc] 43)
  have hKl := hK.lt; have hTl := hT.lt
  have HK0 := Lib.hid hK; have HT0 := Lib.hid hT
  have hKX := hK.below hbX hKl; have hTX := hT.below hbX hTl
  have hbl : block.data.toList.length = 16 := by rw [← Lib.size_eq]; exact hs
  have hXs : (w.alloc (.cells #[.slice (some ⟨K, 0, none⟩) 11 kc, .slice (some ⟨S, 0, none⟩) 256 sc] 43)).heap.size = w.heap.size + 1 := by simp
  obtain ⟨ao0, cap0, hcv, hown0, hb0⟩ := run_convert_string_bytes_own block (w.alloc (.cells #[.slice (some ⟨K, 0, none⟩) 11 kc, .slice (some ⟨S, 0, none⟩) 256 sc] 43))
  rw [hs] at hcv hown0
  rw [hXs] at hb0 hown0
  have hX1 := blk_below hb0 (by omega) hX0
  have hb1 := hbX.trans (hb0.mono (by omega))
  have hK1 := hKX.below hb0 (by omega)
  have hT1 := hTX.below hb0 (by omega)
  have hsz1 := hb0.size
  rw [hXs] at hsz1
  have hX2 : (Lib.bytesWorld (w.alloc (.cells #[.slice (some ⟨K, 0, none⟩) 11 kc, .slice (some ⟨S, 0, none⟩) 256 sc] 43)) 5 block).heap[w.heap.size]? = some (.cells (sheetC K kc S sc) 43) := hX1
  have hx0 := (sheet_cells hX2).1
  have hk0 := hK1 0 (by omega)
  have hg0 : ∃ g, ao0 = some ⟨g, 0, none⟩ ∧ BytesAt (Lib.bytesWorld (w.alloc (.cells #[.slice (some ⟨K, 0, none⟩) 11 kc, .slice (some ⟨S, 0, none⟩) 256 sc] 43)) 5 block) g 16 block.data.toList := own_bytes hown0 hbl (by omega)
  obtain ⟨g, rfl, hby⟩ := hg0
  have HWi := Lib.hid (fun W (h : BytesAt W g 16 block.data.toList) => with_any g cap0 block.data.toList ⟨key.toArray⟩ W (by rw [arr_size]; exact hk) h)
  rw [show (⟨(rk key 0).toArray⟩ : ByteArray) = ⟨key.toArray⟩ from rfl] at hk0
  generalize Lib.bytesWorld _ 5 block = W0 at *
  have HX1 := Lib.hid hX2; have HK1 := Lib.hid hK1; have HT1 := Lib.hid hT1
  have HBY := Lib.hid hby
  clear hX0 hbX hKX hTX hXs hX1 hX2 hK1 hT1 hb0 hown0 hK hT hs hby
  go_enter Tryd.func39, Tryd.ntmps39
  go_wp2_with fail
  generalize hBB : w.heap.size = B at *
  have HBB := Lib.hid hBB
  clear hBB
  refine (HWi.out _ HBY.out).mono ?_
  rintro e W2 ⟨⟨G, gc, rfl, hG⟩, hb2⟩
  have hG' : BytesAt W2 G 16 (stR key block.data.toList 0) := by rw [stR, if_pos (by omega)]; exact hG
  have HG := Lib.hid hG'
  have hbw := hb1.trans (hb2.mono (by omega))
  have HX2 := Lib.hid (blk_below hb2 (by omega) HX1.out)
  have hBw : B < W2.heap.size := Nat.lt_of_lt_of_le (by omega) hb2.size
  have HKL := Lib.hid hk
  clear hG hG' hb1 hb2 HX1 HK1 HT1 HBY HWi hcv hsz1 hx0 hk0 hk
  generalize hblk : block.data.toList = blk at *
  have HBLK := Lib.hid hblk
  clear hblk
  go_wp2_with fail
  go_loopw [5, 6] (fun sv nv wr => ∃ (n G gc : Nat), 1 ≤ n ∧ n ≤ 11 ∧ nv = .int .i64 (n : Int) ∧ sv = .slice (some ⟨G, 0, none⟩) 16 gc ∧ BytesAt wr G 16 (stR key blk (n - 1)) ∧ Below B w wr ∧ wr.heap[B]? = some (.cells (sheetC K kc S sc) 43) ∧ B < wr.heap.size) (fun _ nv _ => 11 - (intOf nv).toNat)
  case atStart => exact ⟨1, G, gc, by omega, by omega, rfl, rfl, HG.out, hbw, HX2.out, hBw⟩
  case round =>
    clear HG hbw HX2 hBw
    obtain ⟨n, G, gc, hn1, hn11, rfl, rfl, hG, hb, hX, hBr⟩ := hrel
    by_cases hlt : n ≤ 10
    · have hd : decide ((n : Int) ≤ 10) = true := by simp; omega
      have HSL := Lib.hid (stR_length key blk (n - 1))
      have HG := Lib.hid hG; have HX := Lib.hid hX; have HB := Lib.hid hb
      have hBr0 := hBr
      have HMid := Lib.hid (fun (h : n < 10) => show plS (mxS (shS (swS (stR key blk (n - 1))))) (rk key n) = stR key blk n from by
        have := stR_mid key blk (n - 1) (by omega)
        rwa [show n - 1 + 1 = n by omega] at this)
      have HEnd := Lib.hid (fun (h : n = 10) => show plS (shS (swS (stR key blk (n - 1)))) (rk key n) = stR key blk n from by
        subst h; exact stR_end key blk)
      clear hG hX
      generalize stR key blk (n - 1) = sl at *
      obtain ⟨F, hF⟩ : ∃ F, wr.heap.size = F := ⟨_, rfl⟩
      have hFw : F ≤ wr.heap.size := by omega
      have hBF : B < F := by omega
      have hGF : G < F := by rw [← hF]; exact block_lt_of_cell (HG.out 0 (by omega))
      have hown0 := Own.nil wr F
      have hbF : Below F wr wr := Below.refl _ _
      have hbb : Below B w wr := hb
      go_wp2_with fail
      go_loopw [7, 8] (fun tv iv wt => ∃ (k : Nat) (ao : Option Addr) (cp : Nat), k ≤ 16 ∧ iv = .int .i64 (k : Int) ∧ tv = .slice ao k cp ∧ Own wt F (.slice ao k cp) (Lib.byteCells (genL (ssF sl) k)) ∧ Below F wr wt ∧ F ≤ wt.heap.size) (fun _ iv _ => 16 - (intOf iv).toNat)
      case atStart => exact ⟨0, none, 0, by omega, rfl, rfl, hown0, hbF, hFw⟩
      case round =>
        clear hown0 hbF
        obtain ⟨k, ao, cp, hk, rfl, rfl, hown, hbt, hszt⟩ := hrel
        have HO := Lib.hid hown
        have HLo := Lib.hid (bcs_length _ _ (genL_length (ssF sl) k))
        have hbz : Below B w wr := hbb.trans (hbt.mono (by omega))
        have HXz := Lib.hid (blk_below hbt hBF HX.out)
        clear hown
        by_cases hlk : k < 16
        · have hd2 : decide ((k : Int) < 16) = true := by simp; omega
          have hsw := (sheet_cells HXz.out).2
          have hm16 : (k + 4 * (k % 4)) % 16 < 16 := Nat.mod_lt _ (by omega)
          have cs := (HG.out.below hbt hGF) ((k + 4 * (k % 4)) % 16) hm16
          have ct := (HT0.out.below hbz hTl) (sl.getD ((k + 4 * (k % 4)) % 16) 0)
          have lx := UInt8.toNat_lt (sl.getD ((k + 4 * (k % 4)) % 16) 0)
          have HNk := Lib.hid (show Lib.byteCells (genL (ssF sl) k) ++ [.int .u8 ((sb (sl.getD ((k + 4 * (k % 4)) % 16) 0)).toNat : Int)] = Lib.byteCells (genL (ssF sl) (k + 1)) from by rw [bcs_snoc, ← genL_succ]; rfl)
          have hme : (((k + 4 * (k % 4)) % 16 : Nat) : Int) = ((k : Int) + 4 * ((k : Int) % 4)) % 16 := by omega
          have e1 : IntKind.i64.wrap (4 * ((k : Int) % 4)) = 4 * ((k : Int) % 4) := IntWalk.i64_in _ (by omega)
          have e2 : IntKind.i64.wrap ((k : Int) + 4 * ((k : Int) % 4)) = (k : Int) + 4 * ((k : Int) % 4) := IntWalk.i64_in _ (by omega)
          have tt1 : (k : Int).tmod 4 = (k : Int) % 4 := Int.tmod_eq_emod_of_nonneg (by omega)
          have tt2 : ((k : Int) + 4 * ((k : Int) % 4)).tmod 16 = (((k + 4 * (k % 4)) % 16 : Nat) : Int) := by rw [Int.tmod_eq_emod_of_nonneg (by omega), hme]
          have tt3 : ((k : Int) + 4 * ((k : Int) % 4)) % 16 = (((k + 4 * (k % 4)) % 16 : Nat) : Int) := hme.symm
          clear hme
          generalize (k + 4 * (k % 4)) % 16 = mi at *
          generalize sl.getD mi 0 = x at *
          generalize Lib.byteCells (genL (ssF sl) k) = cu at *
          go_wp2_with fail
          have q1 := cell_regrown cs
          have q2 := cell_regrown ct
          have q3 := cell_regrown hsw
          refine wp_region_moves_tail 14 _ rfl rfl rfl (by kernel_rfl) (by kernel_rfl) (fun _ _ _ _ h => h) ?_
          simp only [Nat.reduceSub, List.take_succ_cons, List.take_zero, List.drop_succ_cons, List.drop_zero]
          dsimp only [Act.put, Act.eval]
          repeat (first | go_big_quiet_step (fail) | quiet_step (fail))
          refine wpQuiet_nil ?_
          intro W4 hb4
          have HO4 := Lib.hid (HO.out.below hb4)
          have hbB := hbt.trans (hb4.mono hszt)
          have hsz4 := Nat.le_trans hszt hb4.size
          clear HO hbt hb4 q1 q2 q3 cs ct hsw hbz HXz
          go_wp2_with (at_builtin; refine wpList_append_sl rfl (.tmp 28) (.tmp 42) 31 rfl F 5 i0 (.int .u8 0) 1 Tryd.underlying31 hi hz0 hz1 hz2 rfl ao k cp _ rfl (HO4.out.alloc _) HLo.out ⟨W4.heap.size, 0, none⟩ 1 1 [.int .u8 _] rfl rfl (cell_one_new _ _ _) ?b2 ?b3 ?b4 ?b5 ?_)
          case b2 => intro u hu; simp at hu; subst hu; rfl
          case b3 => omega
          case b4 => omega
          case b5 => simp; omega
          intro ao5 cp5 W5 hown5 hgrow5
          have hb5 : Below F _ W5 := below_append (hbB.alloc hsz4 _) (by simp; omega) (HO4.out.alloc _) hgrow5
          have hsz5 : F ≤ W5.heap.size := by have := hgrow5.size; simp at this; omega
          rw [HNk.out] at hown5
          clear hgrow5 HO4 hbB hsz4
          go_wp2_with fail
          go_roundw
          case rel => exact ⟨k + 1, ao5, cp5, by omega, by go_num, rfl, hown5, hb5, hsz5⟩
          case measure => simp [intOf]; omega
        · have hd2 : decide ((k : Int) < 16) = false := by simp; omega
          obtain rfl : k = 16 := by omega
          rw [show ((16 : Nat) : Int) = (16 : Int) from rfl]
          obtain ⟨T, rfl, hTb⟩ := own_bytes HO.out (genL_length (ssF sl) 16) (by omega)
          rw [ss_eq sl HSL.out] at hTb
          have HTb := Lib.hid hTb
          have hBz : B < wr.heap.size := by omega
          clear hTb HO HX HG hbt
          by_cases hn10 : n < 10
          · have hd3 : decide ((n : Int) < 10) = true := by simp; omega
            obtain ⟨F2, hF2⟩ : ∃ F2, wr.heap.size = F2 := ⟨_, rfl⟩
            have hF2w : F2 ≤ wr.heap.size := by omega
            have hBF2 : B < F2 := by omega
            have hTF : T < F2 := by rw [← hF2]; exact block_lt_of_cell (HTb.out 0 (by omega))
            have hown0 := Own.nil wr F2
            have hbF : Below F2 wr wr := Below.refl _ _
            have hbz0 : Below B w wr := hbz
            generalize shS (swS sl) = tl at *
            go_wp2_with fail
            go_loopw [9, 10] (fun uv cv wt => ∃ (q c : Nat) (ao : Option Addr) (cp : Nat), q ≤ 4 ∧ Hid (c = 4 * q) ∧ cv = .int .i64 (c : Int) ∧ uv = .slice ao c cp ∧ Own wt F2 (.slice ao c cp) (Lib.byteCells (genL (mxF tl) c)) ∧ Below F2 wr wt ∧ F2 ≤ wt.heap.size) (fun _ cv _ => 16 - (intOf cv).toNat)
            case atStart => exact ⟨0, 0, none, 0, by omega, Lib.hid rfl, rfl, rfl, hown0, hbF, hF2w⟩
            case round =>
              clear hown0 hbF
              obtain ⟨q, c, ao, cp, hq, HC4, rfl, rfl, hown, hbt, hszt⟩ := hrel
              have HO := Lib.hid hown
              clear hown
              have hc4 := HC4.out
              by_cases hlq : c < 16
              · have hd4 : decide ((c : Int) < 16) = true := by simp; omega
                have hbt0 := hbt
                clear hc4
                go_wp2_with fail
                go_loopw [9, 11] (fun uv rv wt => ∃ (r m : Nat) (ao : Option Addr) (cp : Nat), r ≤ 4 ∧ Hid (m = c + r) ∧ rv = .int .i64 (r : Int) ∧ uv = .slice ao m cp ∧ Own wt F2 (.slice ao m cp) (Lib.byteCells (genL (mxF tl) m)) ∧ Below F2 wr wt ∧ F2 ≤ wt.heap.size) (fun _ rv _ => 4 - (intOf rv).toNat)
                case atStart => exact ⟨0, c, ao, cp, by omega, Lib.hid rfl, rfl, rfl, HO.out, Below.refl _ _, hszt⟩
                case round =>
                  clear HO
                  obtain ⟨r, m, ao, cp, hr4, HM, rfl, rfl, hown, hbr, hszr⟩ := hrel
                  have HO := Lib.hid hown
                  have HLo := Lib.hid (bcs_length _ _ (genL_length (mxF tl) m))
                  have hbt2 := hbt0.trans hbr
                  clear hown
                  have hmm := HM.out
                  have hcc := HC4.out
                  by_cases hlr : r < 4
                  · have hd5 : decide ((r : Int) < 4) = true := by simp; omega
                    have hTr := HTb.out.below hbt2 hTF
                    have hr1 : (r + 1) % 4 < 4 := Nat.mod_lt _ (by omega)
                    have hr2 : (r + 2) % 4 < 4 := Nat.mod_lt _ (by omega)
                    have hr3 : (r + 3) % 4 < 4 := Nat.mod_lt _ (by omega)
                    have c0 := hTr (c + r) (by omega)
                    have c1 := hTr (c + (r + 1) % 4) (by omega)
                    have c2 := hTr (c + (r + 2) % 4) (by omega)
                    have c3 := hTr (c + (r + 3) % 4) (by omega)
                    have HMix := Lib.hid (mix_ref (tl.getD (c + r) 0) (tl.getD (c + (r + 1) % 4) 0) (tl.getD (c + (r + 2) % 4) 0) (tl.getD (c + (r + 3) % 4) 0))
                    have HNm := Lib.hid (show Lib.byteCells (genL (mxF tl) m) ++ [.int .u8 ((mxB (tl.getD (c + r) 0) (tl.getD (c + (r + 1) % 4) 0) (tl.getD (c + (r + 2) % 4) 0) (tl.getD (c + (r + 3) % 4) 0)).toNat : Int)] = Lib.byteCells (genL (mxF tl) (m + 1)) from by
                      rw [bcs_snoc, ← genL_succ, mxF, show m / 4 * 4 = c by omega, show m % 4 = r by omega])
                    have l0 := UInt8.toNat_lt (tl.getD (c + r) 0)
                    have l1 := UInt8.toNat_lt (tl.getD (c + (r + 1) % 4) 0)
                    have HT2 := Lib.hid (fun W => refTimesB (tl.getD (c + r) 0).toNat 2 W l0 (by omega))
                    have HT3 := Lib.hid (fun W => refTimesB (tl.getD (c + (r + 1) % 4) 0).toNat 3 W l1 (by omega))
                    have z1 : ((r : Int) + 1) % 4 = (((r + 1) % 4 : Nat) : Int) := by omega
                    have z2 : ((r : Int) + 2) % 4 = (((r + 2) % 4 : Nat) : Int) := by omega
                    have z3 : ((r : Int) + 3) % 4 = (((r + 3) % 4 : Nat) : Int) := by omega
                    have y1 : ((r : Int) + 1).tmod 4 = (((r + 1) % 4 : Nat) : Int) := by rw [Int.tmod_eq_emod_of_nonneg (by omega)]; omega
                    have y2 : ((r : Int) + 2).tmod 4 = (((r + 2) % 4 : Nat) : Int) := by rw [Int.tmod_eq_emod_of_nonneg (by omega)]; omega
                    have y3 : ((r : Int) + 3).tmod 4 = (((r + 3) % 4 : Nat) : Int) := by rw [Int.tmod_eq_emod_of_nonneg (by omega)]; omega
                    have w1 : IntKind.i64.wrap ((r : Int) + 1) = (r : Int) + 1 := IntWalk.i64_in _ (by omega)
                    have w2 : IntKind.i64.wrap ((r : Int) + 2) = (r : Int) + 2 := IntWalk.i64_in _ (by omega)
                    have w3 : IntKind.i64.wrap ((r : Int) + 3) = (r : Int) + 3 := IntWalk.i64_in _ (by omega)
                    have hcb : c ≤ 12 := by omega
                    clear hmm hcc hTr
                    generalize (r + 1) % 4 = r1 at *
                    generalize (r + 2) % 4 = r2 at *
                    generalize (r + 3) % 4 = r3 at *
                    generalize tl.getD (c + r) 0 = x0 at *
                    generalize tl.getD (c + r1) 0 = x1 at *
                    generalize tl.getD (c + r2) 0 = x2 at *
                    generalize tl.getD (c + r3) 0 = x3 at *
                    have f0 : IntKind.i64.wrap ((c : Int) + (r : Int)) = (c : Int) + (r : Int) := IntWalk.i64_in _ (by omega)
                    have f1 : IntKind.i64.wrap ((c : Int) + (r1 : Int)) = (c : Int) + (r1 : Int) := IntWalk.i64_in _ (by omega)
                    have f2 : IntKind.i64.wrap ((c : Int) + (r2 : Int)) = (c : Int) + (r2 : Int) := IntWalk.i64_in _ (by omega)
                    have f3 : IntKind.i64.wrap ((c : Int) + (r3 : Int)) = (c : Int) + (r3 : Int) := IntWalk.i64_in _ (by omega)
                    have k0 : IntKind.i64.wrap (x0.toNat : Int) = (x0.toNat : Int) := IntWalk.i64_in _ (by omega)
                    have k1 : IntKind.i64.wrap (x1.toNat : Int) = (x1.toNat : Int) := IntWalk.i64_in _ (by omega)
                    have k2 : IntKind.i64.wrap (x2.toNat : Int) = (x2.toNat : Int) := IntWalk.i64_in _ (by have := UInt8.toNat_lt x2; omega)
                    have k3 : IntKind.i64.wrap (x3.toNat : Int) = (x3.toNat : Int) := IntWalk.i64_in _ (by have := UInt8.toNat_lt x3; omega)
                    go_wp2_with fail
                    have q0 := cell_regrown c0
                    have q1 := cell_regrown c1
                    have q2 := cell_regrown c2
                    have q3 := cell_regrown c3
                    refine wp_region_reads (by kernel_rfl) (by kernel_rfl) ?_
                    repeat (first | go_big_quiet_step ((first | with_reducible exact Calls.regrown_of (HT2.out _) | with_reducible exact Calls.regrown_of (HT3.out _))) | quiet_step ((first | with_reducible exact Calls.regrown_of (HT2.out _) | with_reducible exact Calls.regrown_of (HT3.out _))))
                    refine wpQuiet_nil ?_
                    intro W4 hb4
                    have HO4 := Lib.hid (HO.out.below hb4)
                    have hbB := hbr.trans (hb4.mono hszr)
                    have hsz4 := Nat.le_trans hszr hb4.size
                    clear HO hbr hb4 q0 q1 q2 q3 c0 c1 c2 c3 hbt2 HT2 HT3
                    go_wp2_with (at_builtin; refine wpList_append_sl rfl (.tmp 93) (.tmp 96) 31 rfl F2 5 i0 (.int .u8 0) 1 Tryd.underlying31 hi hz0 hz1 hz2 rfl ao m cp _ rfl (HO4.out.alloc _) HLo.out ⟨W4.heap.size, 0, none⟩ 1 1 [.int .u8 _] rfl rfl (cell_one_new _ _ _) ?b2 ?b3 ?b4 ?b5 ?_)
                    case b2 => intro u hu; simp at hu; subst hu; rfl
                    case b3 => have := HM.out; omega
                    case b4 => have := HM.out; omega
                    case b5 => simp; omega
                    intro ao5 cp5 W5 hown5 hgrow5
                    have hb5 : Below F2 _ W5 := below_append (hbB.alloc hsz4 _) (by simp; omega) (HO4.out.alloc _) hgrow5
                    have hsz5 : F2 ≤ W5.heap.size := by have := hgrow5.size; simp at this; omega
                    rw [← HMix.out, HNm.out] at hown5
                    clear hgrow5 HO4 hbB hsz4
                    go_wp2_with fail
                    go_roundw
                    case rel => exact ⟨r + 1, m + 1, ao5, cp5, by omega, Lib.hid (by have := HM.out; omega), by go_num, rfl, hown5, hb5, hsz5⟩
                    case measure => simp [intOf]; omega
                  · have hd5 : decide ((r : Int) < 4) = false := by simp; omega
                    obtain rfl : r = 4 := by omega
                    go_wp2_with fail
                    go_roundw
                    case rel => exact ⟨q + 1, m, ao, cp, by omega, Lib.hid (by omega), by rw [show m = c + 4 by omega]; go_num, rfl, HO.out, hbt2, hszr⟩
                    case measure => simp [intOf]; omega
              · have hd4 : decide ((c : Int) < 16) = false := by simp; omega
                obtain rfl : c = 16 := by omega
                clear hc4
                obtain ⟨U, rfl, hUb⟩ := own_bytes HO.out (genL_length (mxF tl) 16) (by omega)
                rw [mx_eq] at hUb
                have HXB := Lib.hid hUb
                have hbz : Below B w wr := hbz0.trans (hbt.mono (by omega))
                have HXz2 := Lib.hid (blk_below hbt hBF2 HXz.out)
                clear HXz
                have HXz := HXz2
                have hBz : B < wr.heap.size := by omega
                clear HXz2 hUb HO hbt
                have hKn := (HK0.out.below hbz hKl) n (by omega)
                have HWn := Lib.hid (with_any U cp (mxS tl) ⟨(rk key n).toArray⟩ wr (by rw [arr_size]; exact rk_length key HKL.out n) HXB.out)
                have hx0 := (sheet_cells HXz.out).1
                go_wp2_with fail
                refine HWn.out.mono ?_
                rintro e W9 ⟨⟨G9, gc9, rfl, hG9⟩, hb9⟩
                have HG9 := Lib.hid hG9
                have hbf := hbz.trans (hb9.mono (by omega))
                have HXf := Lib.hid (blk_below hb9 hBz HXz.out)
                have hBf : B < W9.heap.size := Nat.lt_of_lt_of_le hBz hb9.size
                clear HWn hx0 hKn hG9 hbz hb9 HXz HXB hBz
                go_wp2_with fail
                go_roundw
                case rel => exact ⟨n + 1, G9, gc9, by omega, by omega, by go_num, rfl, by rw [show n + 1 - 1 = n by omega, ← HMid.out hn10]; exact HG9.out, hbf, HXf.out, hBf⟩
                case measure => simp [intOf]; omega
          · have hd3 : decide ((n : Int) < 10) = false := by simp; omega
            have HN10 := Lib.hid (show n = 10 by omega)
            have HXB := HTb
            have hKn := (HK0.out.below hbz hKl) n (by omega)
            have HWn := Lib.hid (with_any T cp (shS (swS sl)) ⟨(rk key n).toArray⟩ wr (by rw [arr_size]; exact rk_length key HKL.out n) HXB.out)
            have hx0 := (sheet_cells HXz.out).1
            go_wp2_with fail
            refine HWn.out.mono ?_
            rintro e W9 ⟨⟨G9, gc9, rfl, hG9⟩, hb9⟩
            have HG9 := Lib.hid hG9
            have hbf := hbz.trans (hb9.mono (by omega))
            have HXf := Lib.hid (blk_below hb9 hBz HXz.out)
            have hBf : B < W9.heap.size := Nat.lt_of_lt_of_le hBz hb9.size
            clear HWn hx0 hKn hG9 hbz hb9 HXz HXB hBz
            go_wp2_with fail
            go_roundw
            case rel => exact ⟨n + 1, G9, gc9, by omega, by omega, by go_num, rfl, by rw [show n + 1 - 1 = n by omega, ← HEnd.out HN10.out]; exact HG9.out, hbf, HXf.out, hBf⟩
            case measure => simp [intOf]; omega
    · have hd : decide ((n : Int) ≤ 10) = false := by simp; omega
      obtain rfl : n = 11 := by omega
      have hrow : stR key blk (11 - 1) = enL key blk := by rw [stR, if_neg (by omega)]
      rw [hrow] at hG
      have hel := enL_length key blk
      have hcv := run_string_at wr G 0 gc 16 (enL key blk) hel (fun j x hx => by
        have hj : j < 16 := by have := (List.getElem?_eq_some_iff.1 hx).1; omega
        rw [Nat.zero_add, hG j hj, List.getD_eq_getElem?_getD, hx]; rfl)
      clear hrow hG hel
      go_wp2_with fail
      go_ret
      exact ⟨by rw [HBLK.out]; rfl, by rw [HBB.out]; exact hb⟩
end Go.Proofs.YtoejkiblampecaaDoor
