/- The program's states: mixed, and the next round's key. -/
import Derived.Test.YtoejkiblampecaaDoorAesSt2
namespace Go.Proofs.YtoejkiblampecaaDoor
open Go.RowKit Go.Sort
set_option maxRecDepth 100000
set_option linter.unusedSimpArgs false
set_option linter.unusedVariables false

theorem mxB_toNat (a b c d : UInt8) : (mxB a b c d).toNat = dbl1 (a.toNat ^^^ b.toNat) ^^^ b.toNat ^^^ c.toNat ^^^ d.toNat := by
  rw [mxB, UInt8.toNat_xor, UInt8.toNat_xor, UInt8.toNat_xor, dbl8_toNat, UInt8.toNat_xor]
/-- The mixed bytes while they are laid: so many columns. -/
def mxP (s : List UInt8) (m : Nat) : List UInt8 := (List.range 16).map fun i => if i < 4 * m then mxB (s.getD (i / 4 * 4 + i % 4) 0) (s.getD (i / 4 * 4 + (i % 4 + 1) % 4) 0) (s.getD (i / 4 * 4 + (i % 4 + 2) % 4) 0) (s.getD (i / 4 * 4 + (i % 4 + 3) % 4) 0) else s.getD i 0
theorem mxP_length (s : List UInt8) (m : Nat) : (mxP s m).length = 16 := by simp [mxP]
theorem mxP_zero (s : List UInt8) (h : s.length = 16) : mxP s 0 = s := bytes_ext (mxP_length _ _) h fun i hi => by rw [mxP, range_getD _ _ _ hi]; simp
theorem mxP_full (s : List UInt8) : mxP s 4 = mxS s := bytes_ext (mxP_length _ _) (mxS_length _) fun i hi => by rw [mxP, range_getD _ _ _ hi, mxS, range_getD _ _ _ hi, if_pos (by omega)]
theorem mxP_late (s : List UInt8) (m i : Nat) (h : 4 * m ≤ i) (hi : i < 16) : (mxP s m).getD i 0 = s.getD i 0 := by rw [mxP, range_getD _ _ _ hi, if_neg (by omega)]
theorem pk4_lt (l : List UInt8) (off : Nat) : pkB (partL l off 4) < 4294967296 := by have := pkB_lt (partL l off 4); rwa [partL_length] at this
theorem mxP_succ (s : List UInt8) (m : Nat) (h : m < 4) : putA (mxP s m) (4 * m) ((mixW (pkB (partL (mxP s m) (4 * m) 4)) : Nat) : Int) 4 = mxP s (m + 1) := by
  refine bytes_ext (by rw [putA_length, mxP_length]) (mxP_length _ _) fun i hi => ?_
  rw [putA_get _ _ _ _ _ (by rw [mxP_length]; omega)]
  by_cases h1 : 4 * m ≤ i ∧ i < 4 * m + 4
  · obtain ⟨r, hr, rfl⟩ : ∃ r, r < 4 ∧ i = 4 * m + r := ⟨i - 4 * m, by omega, by omega⟩
    rw [if_pos h1, wbyte_lane, lane_mix _ _ (pk4_lt _ _) (by omega), pkB_lane, pkB_lane, pkB_lane, pkB_lane, show 4 * m + r - 4 * m = r by omega]
    rw [partL_get _ _ _ _ (by omega), partL_get _ _ _ _ (by omega), partL_get _ _ _ _ (by omega), partL_get _ _ _ _ (by omega), mxP_late _ _ _ (by omega) (by omega), mxP_late _ _ _ (by omega) (by omega), mxP_late _ _ _ (by omega) (by omega), mxP_late _ _ _ (by omega) (by omega), ← mxB_toNat]
    rw [mxP, range_getD _ _ _ hi, if_pos (by omega), show (4 * m + r) / 4 * 4 = 4 * m by omega, show (4 * m + r) % 4 = r by omega]
    simp
  · rw [if_neg h1]
    unfold mxP
    rw [range_getD _ _ _ hi, range_getD _ _ _ hi]
    by_cases h2 : i < 4 * m
    · rw [if_pos h2, if_pos (by omega)]
    · rw [if_neg h2, if_neg (by omega)]

set_option maxHeartbeats 1000000 in
theorem stMixed_any (s : List UInt8) (w : World) (hs : s.length = 16) :
    Calls Tryd.prog 59 #[.agg (bcells s)] w fun e w' => e = .returned (.agg (bcells (mxS s))) ∧ Below w.heap.size w w' := by
  obtain ⟨hz, hi⟩ := zero_of_info infoAes
  have HG0 := Lib.hid (blk_old (o := .cells szeros 68) (blk_new w (.cells (bcells s) 68)))
  have HR0 := Lib.hid (blk_new2 w (.cells (bcells s) 68) (.cells szeros 68))
  have hb0 := below_new2 w (.cells (bcells s) 68) (.cells szeros 68)
  have HS := Lib.hid hs
  clear hi hs
  go_enter Tryd.func59, Tryd.ntmps59
  go_wp2_with fail
  clear hz
  generalize ((w.alloc _).alloc _) = W0 at *
  generalize hBB : w.heap.size = B at *
  have HBB := Lib.hid hBB
  clear hBB
  go_loopw [5] (fun i wr => ∃ m : Nat, m ≤ 4 ∧ i = .int .i64 (m : Int) ∧ wr.heap[B]? = some (.cells (bcells (mxP s m)) 68) ∧ wr.heap[B + 1]? = some (.cells szeros 68) ∧ Below B w wr) (fun i _ => 4 - (intOf i).toNat)
  case atStart => exact ⟨0, by omega, rfl, by rw [mxP_zero s HS.out]; exact HG0.out, HR0.out, hb0⟩
  case round =>
    clear HG0 HR0 hb0
    obtain ⟨m, hm, rfl, hg, hr, hb⟩ := hrel
    have HG := Lib.hid hg; have HR := Lib.hid hr
    clear hg hr
    by_cases hlt : m < 4
    · have hd : decide ((m : Int) < 4) = true := by simp; omega
      have HL := Lib.hid (mxP_length s m)
      have HN := Lib.hid (mxP_succ s m hlt)
      generalize mxP s m = l at *
      have HC := Lib.hid (column_any B m _ 68 wr HG.out hlt)
      have HLd := Lib.hid (aload_any (partL l (4 * m) 4) B (4 * m) 4 (16 - 4 * m) wr (partL_length _ _ _) (by omega) (partL_cells HG.out (4 * m) 4 (by rw [HL.out]; omega)))
      have hpl := pk4_lt l (4 * m)
      generalize pkB (partL l (4 * m) 4) = a at *
      have HM := Lib.hid (mixture_any a wr hpl)
      generalize mixW a = v at *
      go_wp2_with fail
      refine HC.out.mono ?_
      rintro e W1 ⟨rfl, rfl⟩
      clear HC
      go_wp2_with fail
      refine HLd.out.mono ?_
      rintro e W1 ⟨rfl, rfl⟩
      clear HLd
      go_wp2_with fail
      refine HM.out.mono ?_
      rintro e W1 ⟨rfl, rfl⟩
      clear HM
      go_wp2_with fail
      have hl1 := blk_lt HR.out
      refine (astore_any l B (4 * m) 4 (16 - 4 * m) _ _ wr HG.out (by omega) (by rw [HL.out]; omega)).mono ?_
      rintro e Z ⟨rfl, hg3, hbut⟩
      rw [HN.out] at hg3
      have HG3 := Lib.hid hg3
      clear hg3 HG
      have HR3 := Lib.hid ((hbut.block (B + 1) (by omega) (by omega)).trans HR.out)
      have hb3 : Below B w Z := hb.trans (hbut.below (by omega) (by omega))
      clear HR hb hbut hl1
      go_wp2_with fail
      go_roundw
      case rel => exact ⟨m + 1, by omega, by go_num, HG3.out, HR3.out, hb3⟩
      case measure => simp [intOf]; omega
    · have hd : decide ((m : Int) < 4) = false := by simp; omega
      obtain rfl : m = 4 := by omega
      have HG2 := Lib.hid (show wr.heap[B]? = some (.cells (bcells (mxS s)) 68) from by rw [← mxP_full s]; exact HG.out)
      have hl := mxS_length s
      generalize hrow : mxS s = row at *
      have HROW := Lib.hid hrow
      clear HG hrow
      have HI := Lib.hid (sizeAes row hl)
      have HO := Lib.hid (szeros_size row hl)
      have H1 := Lib.hid (arr_one row)
      go_wp2_with (first
        | (with_reducible refine wpList_load_row rfl 68 _ rfl B rfl 68 _ (0, 0) _ HG2.out Tryd.underlying68 rfl HI.out ?_)
        | (with_reducible refine wpList_store_row rfl 68 _ _ rfl (B + 1) (bcells row) rfl rfl 68 _ HR.out HI.out HO.out H1.out ?_))
      exact bodyPost_ret (v := .agg (bcells row)) (results_cell_row (by rfl) _ _ (B + 1) 68 _ (0, 0) _ rfl (setRow_heap _ _ _ _ _ _ HR.out) Tryd.underlying68 rfl HI.out) rfl ⟨by first | (with_reducible rfl) | rw [HROW.out], by rw [HBB.out]; exact below_setRow hb (by omega) _⟩

/-- Byte r of what goes into the word c of the next round's key. -/
def nbPre (k : List UInt8) (p : UInt8) (r : Nat) : Nat → UInt8
  | 0 => sb (k.getD (12 + (r + 1) % 4) 0) ^^^ (if r = 0 then p else 0)
  | c + 1 => nb k p r c
theorem nb_pre (k : List UInt8) (p : UInt8) (r c : Nat) : nbPre k p r c ^^^ k.getD (4 * c + r) 0 = nb k p r c := by
  cases c with
  | zero => simp [nbPre, nb]
  | succ c => rfl
/-- The next round's key while it is laid. -/
def nxP (k : List UInt8) (p : UInt8) (c : Nat) : List UInt8 := (List.range 16).map fun i => if i < 4 * c then nb k p (i % 4) (i / 4) else k.getD i 0
theorem nxP_length (k : List UInt8) (p : UInt8) (c : Nat) : (nxP k p c).length = 16 := by simp [nxP]
theorem nxP_zero (k : List UInt8) (p : UInt8) (h : k.length = 16) : nxP k p 0 = k := bytes_ext (nxP_length _ _ _) h fun i hi => by rw [nxP, range_getD _ _ _ hi]; simp
theorem nxP_full (k : List UInt8) (p : UInt8) : nxP k p 4 = nxL k p := bytes_ext (nxP_length _ _ _) (nxL_length _ _) fun i hi => by rw [nxP, range_getD _ _ _ hi, nxL, range_getD _ _ _ hi, if_pos (by omega)]
/-- The word's first four bytes. -/
def NxW (k : List UInt8) (p : UInt8) (c a : Nat) : Prop := a < 18446744073709551616 ∧ ∀ r, r < 4 → lane r a = (nbPre k p r c).toNat
theorem lane_byte (r n : Nat) (h : n < 256) (hr : r < 4) : lane r n = if r = 0 then n else 0 := by
  cases r with
  | zero => rw [lane_zero]; simp; omega
  | succ r => rw [lane_succ, show n / 256 = 0 by omega]; simp [lane]
theorem nxW_first (k : List UInt8) (p : UInt8) (h : k.length = 16) : NxW k p 0 (swW (upW (pkB (partL k 12 4)) 1) ^^^ p.toNat) := by
  have hp := UInt8.toNat_lt p
  refine ⟨xor_lt64 (swW_lt _ (by have := upW_lt (pkB (partL k 12 4)) 1 (pk4_lt _ _); omega)) (by omega), fun r hr => ?_⟩
  rw [lane_xor, lane_swT _ _ (by omega), lane_up _ 1 r (pk4_lt _ _) (by omega) (by omega) hr, pkB_lane, partL_get _ _ _ _ (by omega), lane_byte r _ hp hr, nbPre, UInt8.toNat_xor, sb_toNat]
  congr 1
  split <;> rfl
theorem nxW_next (k : List UInt8) (p : UInt8) (c a : Nat) (hc : c < 4) (h : NxW k p c a) : NxW k p (c + 1) (a ^^^ pkB (partL (nxP k p c) (4 * c) 4)) := by
  refine ⟨xor_lt64 h.1 (by have := pk4_lt (nxP k p c) (4 * c); omega), fun r hr => ?_⟩
  rw [lane_xor, h.2 r hr, pkB_lane, partL_get _ _ _ _ hr, nxP, range_getD _ _ _ (by omega), if_neg (by omega), ← UInt8.toNat_xor, nb_pre]
  rfl
theorem nxP_succ (k : List UInt8) (p : UInt8) (c a : Nat) (hc : c < 4) (h : NxW k p (c + 1) a) : putA (nxP k p c) (4 * c) ((a : Nat) : Int) 4 = nxP k p (c + 1) := by
  refine bytes_ext (by rw [putA_length, nxP_length]) (nxP_length _ _ _) fun i hi => ?_
  rw [putA_get _ _ _ _ _ (by rw [nxP_length]; omega)]
  by_cases h1 : 4 * c ≤ i ∧ i < 4 * c + 4
  · obtain ⟨r, hr, rfl⟩ : ∃ r, r < 4 ∧ i = 4 * c + r := ⟨i - 4 * c, by omega, by omega⟩
    rw [if_pos h1, wbyte_lane, show 4 * c + r - 4 * c = r by omega, h.2 r hr, nxP, range_getD _ _ _ hi, if_pos (by omega), show (4 * c + r) % 4 = r by omega, show (4 * c + r) / 4 = c by omega]
    simp [nbPre]
  · rw [if_neg h1]
    unfold nxP
    rw [range_getD _ _ _ hi, range_getD _ _ _ hi]
    by_cases h2 : i < 4 * c
    · rw [if_pos h2, if_pos (by omega)]
    · rw [if_neg h2, if_neg (by omega)]

set_option maxHeartbeats 1000000 in
theorem next_any (k : List UInt8) (p : UInt8) (w : World) (hk : k.length = 16) (hT : TabQ w) :
    Calls Tryd.prog 54 #[.agg (bcells k), .int .u64 (p.toNat : Int)] w fun e w' => e = .returned (.agg (bcells (nxL k p))) ∧ Below w.heap.size w w' := by
  obtain ⟨hz, hi⟩ := zero_of_info infoAes
  have hp := UInt8.toNat_lt p
  have HG0 := Lib.hid (blk_old (o := .cells szeros 68) (blk_new w (.cells (bcells k) 68)))
  have HR0 := Lib.hid (blk_new2 w (.cells (bcells k) 68) (.cells szeros 68))
  have hb0 := below_new2 w (.cells (bcells k) 68) (.cells szeros 68)
  have HS := Lib.hid hk
  have HT0 := Lib.hid (hT.step hb0)
  have HF := Lib.hid (nxW_first k p hk)
  have hpl := pk4_lt k 12
  have hul := upW_lt (pkB (partL k 12 4)) 1 hpl
  have HX := Lib.hid (u64_xor_nat (swW (upW (pkB (partL k 12 4)) 1)) p.toNat (swW_lt _ (by omega)) (by omega))
  have HC := Lib.hid (column_any w.heap.size 3 _ 68 _ HG0.out (by omega))
  have HLd := Lib.hid (aload_any (partL k 12 4) w.heap.size 12 4 4 _ (partL_length _ _ _) (by omega) (partL_cells HG0.out 12 4 (by rw [hk]; omega)))
  have HU := Lib.hid (fun W => upward_any (pkB (partL k 12 4)) 1 W hpl (by omega) (by omega))
  have HSw := Lib.hid (lanesSwapped_any (upW (pkB (partL k 12 4)) 1) _ (by omega) HT0.out)
  clear hi hk hT
  generalize pkB (partL k 12 4) = a0 at *
  generalize upW a0 1 = a1 at *
  generalize swW a1 = a2 at *
  generalize a2 ^^^ p.toNat = a3 at *
  go_enter Tryd.func54, Tryd.ntmps54
  go_wp2_with fail
  clear hz
  generalize ((w.alloc _).alloc _) = W0 at *
  generalize hBB : w.heap.size = B at *
  have HBB := Lib.hid hBB
  clear hBB
  refine HC.out.mono ?_
  rintro e W1 ⟨rfl, rfl⟩
  clear HC
  go_wp2_with fail
  refine HLd.out.mono ?_
  rintro e W1 ⟨rfl, rfl⟩
  clear HLd
  go_wp2_with fail
  refine (HU.out _).mono ?_
  rintro e W1 ⟨rfl, rfl⟩
  clear HU
  go_wp2_with fail
  refine HSw.out.mono ?_
  rintro e W1 ⟨rfl, hb1⟩
  clear HSw
  have hl0 := blk_lt HR0.out
  have HG1 := Lib.hid (blk_below hb1 (by omega) HG0.out)
  have HR1 := Lib.hid (blk_below hb1 hl0 HR0.out)
  have hb2 : Below B w W1 := hb0.trans (hb1.mono (by omega))
  clear HG0 HR0 HT0 hb0 hb1 hl0
  go_wp2_with fail
  rw [HX.out]
  go_loopw [5, 14] (fun wd i wr => ∃ (c a : Nat), c ≤ 4 ∧ i = .int .i64 (c : Int) ∧ wd = .int .u64 (a : Int) ∧ NxW k p c a ∧ wr.heap[B]? = some (.cells (bcells (nxP k p c)) 68) ∧ wr.heap[B + 1]? = some (.cells szeros 68) ∧ Below B w wr) (fun _ i _ => 4 - (intOf i).toNat)
  case atStart => exact ⟨0, a3, by omega, rfl, rfl, HF.out, by rw [nxP_zero k p HS.out]; exact HG1.out, HR1.out, hb2⟩
  case round =>
    clear HG1 HR1 hb2 HF HX
    obtain ⟨c, a, hc, rfl, rfl, hw, hg, hr, hb⟩ := hrel
    have HG := Lib.hid hg; have HR := Lib.hid hr; have HW := Lib.hid hw
    clear hg hr hw
    by_cases hlt : c < 4
    · have hd : decide ((c : Int) < 4) = true := by simp; omega
      have HL := Lib.hid (nxP_length k p c)
      have HW2 := Lib.hid (nxW_next k p c a hlt HW.out)
      have HN := Lib.hid (nxP_succ k p c _ hlt HW2.out)
      have HC := Lib.hid (column_any B c _ 68 wr HG.out hlt)
      have HLd := Lib.hid (aload_any (partL (nxP k p c) (4 * c) 4) B (4 * c) 4 (16 - 4 * c) wr (partL_length _ _ _) (by omega) (partL_cells HG.out (4 * c) 4 (by rw [HL.out]; omega)))
      have hpl2 := pk4_lt (nxP k p c) (4 * c)
      have HX := Lib.hid (u64_xor_nat a (pkB (partL (nxP k p c) (4 * c) 4)) HW.out.1 (by omega))
      generalize pkB (partL (nxP k p c) (4 * c) 4) = b at *
      generalize a ^^^ b = v at *
      go_wp2_with fail
      refine HC.out.mono ?_
      rintro e W1 ⟨rfl, rfl⟩
      clear HC
      go_wp2_with fail
      refine HLd.out.mono ?_
      rintro e W1 ⟨rfl, rfl⟩
      clear HLd
      go_wp2_with fail
      rw [HX.out]
      have hl1 := blk_lt HR.out
      refine (astore_any (nxP k p c) B (4 * c) 4 (16 - 4 * c) _ _ wr HG.out (by omega) (by rw [HL.out]; omega)).mono ?_
      rintro e Z ⟨rfl, hg3, hbut⟩
      rw [HN.out] at hg3
      have HG3 := Lib.hid hg3
      clear hg3 HG
      have HR3 := Lib.hid ((hbut.block (B + 1) (by omega) (by omega)).trans HR.out)
      have hb3 : Below B w Z := hb.trans (hbut.below (by omega) (by omega))
      clear HR hb hbut hl1
      go_wp2_with fail
      go_roundw
      case rel => exact ⟨c + 1, v, by omega, by go_num, rfl, HW2.out, HG3.out, HR3.out, hb3⟩
      case measure => simp [intOf]; omega
    · have hd : decide ((c : Int) < 4) = false := by simp; omega
      obtain rfl : c = 4 := by omega
      have HG2 := Lib.hid (show wr.heap[B]? = some (.cells (bcells (nxL k p)) 68) from by rw [← nxP_full k p]; exact HG.out)
      have hl := nxL_length k p
      generalize hrow : nxL k p = row at *
      have HROW := Lib.hid hrow
      clear HG hrow
      have HI := Lib.hid (sizeAes row hl)
      have HO := Lib.hid (szeros_size row hl)
      have H1 := Lib.hid (arr_one row)
      go_wp2_with (first
        | (with_reducible refine wpList_load_row rfl 68 _ rfl B rfl 68 _ (0, 0) _ HG2.out Tryd.underlying68 rfl HI.out ?_)
        | (with_reducible refine wpList_store_row rfl 68 _ _ rfl (B + 1) (bcells row) rfl rfl 68 _ HR.out HI.out HO.out H1.out ?_))
      exact bodyPost_ret (v := .agg (bcells row)) (results_cell_row (by rfl) _ _ (B + 1) 68 _ (0, 0) _ rfl (setRow_heap _ _ _ _ _ _ HR.out) Tryd.underlying68 rfl HI.out) rfl ⟨by first | (with_reducible rfl) | rw [HROW.out], by rw [HBB.out]; exact below_setRow hb (by omega) _⟩
end Go.Proofs.YtoejkiblampecaaDoor
