/- blockKeyOf, masked and code of package mac at SHA-256. -/
import Derived.Test.YthcfolefdalaiaaDoorMacB
namespace Go.Proofs.YthcfolefdalaiaaDoor
open Go.RowKit Go.Sort
set_option maxRecDepth 100000
set_option linter.unusedSimpArgs false
set_option linter.unusedVariables false

set_option maxHeartbeats 1000000 in
theorem masked32 (m : Int) (b : List UInt8) (w : World) (hl : b.length = 128) :
    Calls Tryd.prog 59 #[.agg (bkc b), .int .i64 32, .int .u8 m] w fun e w' => e = .returned (.string ⟨(maskL 64 m b).toArray⟩) ∧ Below w.heap.size w w' := by
  have HI := Lib.hid (show (Tryd.prog.info? 75).map (·.size) = some (bkc b).size from by rw [bkc_size, hl]; exact (zero_of_info infoBk).2)
  have H1 := Lib.hid (bkc_one b)
  have hG : (w.alloc (.cells (bkc b) 75)).heap[w.heap.size]? = some (.cells (bkc (mixM m b 0)) 75) := by rw [mixM_zero]; exact blk_new w _
  have hB := below_new w (.cells (bkc b) 75)
  have HG := Lib.hid hG
  clear hG
  go_enter Tryd.func59, Tryd.ntmps59
  go_wp2_with fail
  refine (blockOf32 _).mono ?_
  rintro e W1 ⟨rfl, rfl⟩
  generalize (w.alloc _) = W at *
  generalize hBB : w.heap.size = B at *
  have HBB := Lib.hid hBB
  clear hBB
  go_wp2_with fail
  go_loopw [14] (fun i wr => ∃ k : Nat, k ≤ 64 ∧ i = .int .i64 k ∧ wr.heap[B]? = some (.cells (bkc (mixM m b k)) 75) ∧ Below B w wr) (fun i _ => 64 - (intOf i).toNat)
  case atStart => exact ⟨0, by omega, rfl, HG.out, hB⟩
  case round =>
    clear HG hB
    obtain ⟨k, hk, rfl, hg, hb⟩ := hrel
    have HG := Lib.hid hg
    clear hg
    by_cases hk64 : k < 64
    · have hd : decide ((k : Int) < 64) = true := by simp; omega
      obtain ⟨x, hx⟩ : ∃ x, b[k]? = some x := ⟨_, List.getElem?_eq_getElem (by omega)⟩
      have ck : wr.cell? ⟨B, k, none⟩ = some (.int .u8 x.toNat) := by rw [cell_of_row wr _ _ _ _ _ HG.out]; exact bcells_get _ _ _ (mixM_get m b k x hx)
      have fk : wr.frozen? ⟨B, k, none⟩ = false := frozen_of_row wr _ _ _ _ HG.out
      have HS := Lib.hid (mixM_set m b k x hx)
      have HX := Lib.hid (xorB_toNat m x)
      clear hx
      go_wp2_with fail
      go_roundw
      case rel =>
        refine ⟨k + 1, by omega, by go_num, ?_, hb.setCell (by simp) _⟩
        rw [← HS.out, ← HX.out, bkc, ← bcells_set]
        exact heap_setCell_same _ _ _ _ _ _ HG.out
      case measure => simp [intOf]; omega
    · have hd : decide ((k : Int) < 64) = false := by simp; omega
      obtain rfl : k = 64 := by omega
      have hcv := run_string_row wr B 128 (maskL 64 m b) (fun j x hx => by
        have hj : j < 64 := by
          have := (List.getElem?_eq_some_iff.1 hx).1
          rwa [maskL_length _ _ _ (by omega)] at this
        refine cells_of_bcells HG.out j x ?_
        rw [← mixM_take m b 64 (by omega), List.getElem?_take, if_pos hj] at hx
        exact hx)
      rw [maskL_length _ _ _ (by omega)] at hcv
      go_wp2_with fail
      go_ret
      exact ⟨rfl, by rw [HBB.out]; exact hb⟩

set_option maxHeartbeats 1000000 in
theorem blockKeyOf32 (key : ByteArray) (w : World) (hK : TabK w kf) (hH : TabH w hf) (hs : key.size ≤ 1099511627776) :
    Calls Tryd.prog 46 #[.int .i64 32, .string key] w fun e w' => e = .returned (.agg (bkc (blockL (keyOf32 key.data.toList)))) ∧ Below w.heap.size w w' := by
  obtain ⟨hz, hi⟩ := zero_of_info infoBk
  have hB0 := below_new w (.cells zeros128 75)
  have hG0 := blk_new w (.cells zeros128 75)
  have hK0 := hK.below hB0 hK.lt; have hH0 := hH.below hB0 hH.lt
  go_enter Tryd.func46, Tryd.ntmps46
  go_wp2_with fail
  generalize (w.alloc _) = W at *
  generalize hBB : w.heap.size = B at *
  have HBB := Lib.hid hBB
  have HG := Lib.hid hG0
  clear hBB hG0 hK hH
  refine (blockOf32 _).mono ?_
  rintro e W1 ⟨rfl, rfl⟩
  by_cases hlong : 64 < key.size
  · have hd : decide ((64 : Int) < (key.size : Int)) = true := by simp; omega
    have HKO := Lib.hid (show keyOf32 key.data.toList = sha256L kf hf key.data.toList from by rw [keyOf32, if_pos (by rw [← Lib.size_eq]; exact hlong)])
    have HK2 := Lib.hid (macDigest32 key W hK0 hH0 hs)
    have HX := Lib.hid (show (sha256L kf hf key.data.toList).length = 32 from sha256L_length _ _ _)
    go_wp2_with fail
    refine HK2.out.mono ?_
    rintro e W1 ⟨rfl, hb1⟩
    clear HK2
    generalize sha256L kf hf key.data.toList = kl at *
    have hlt0 := blk_lt HG.out
    replace HG := Lib.hid (blk_below hb1 hlt0 HG.out)
    have HBV : Below B w W1 := hB0.trans (hb1.mono (Nat.le_of_lt hlt0))
    have HKS := Lib.hid (show (⟨kl.toArray⟩ : ByteArray).size = 32 from by rw [Lib.size_eq]; simpa using HX.out)
    have HL := Lib.hid (show (blockL kl).length = 128 from blockL_length _ (by rw [HX.out]; omega))
    have hcp := copy_block W1 ⟨kl.toArray⟩ (by rw [HKS.out]; omega)
    simp only [List.toList_toArray] at hcp
    generalize hrow : blockL kl = row at *
    have HROW := Lib.hid hrow
    have HI := Lib.hid (show (Tryd.prog.info? 75).map (·.size) = some (bkc row).size from by rw [bkc_size, HL.out]; exact hi)
    have HO := Lib.hid (show zeros128.size = (bkc row).size from by rw [bkc_size, HL.out]; exact bcells_size _)
    have H1 := Lib.hid (bkc_one row)
    have hlt := blk_lt HG.out
    have HA := Lib.hid (show ((W1.alloc (.cells zeros128 75)).setRow W1.heap.size (bkc row)).heap[W1.heap.size]? = some (.cells (bkc row) 75) from setRow_heap _ _ _ _ _ (0, 0) (blk_new W1 _))
    have HR := Lib.hid (show ((W1.alloc (.cells zeros128 75)).setRow W1.heap.size (bkc row)).heap[B]? = some (.cells zeros128 75) from (setRow_other _ _ _ _ (by omega)).trans (blk_old HG.out))
    have hB9 : Below B w ((W1.alloc (.cells zeros128 75)).setRow W1.heap.size (bkc row)) := below_setRow (HBV.alloc (by omega) _) (by omega) _
    clear hrow
    go_wp2_with (first
      | (with_reducible refine wpList_load_row rfl 75 _ rfl W1.heap.size rfl 75 _ (0, 0) _ HA.out Tryd.underlying75 rfl HI.out ?_)
      | (with_reducible refine wpList_store_row rfl 75 _ _ rfl B (bkc row) rfl rfl 75 _ HR.out HI.out HO.out H1.out ?_))
    exact bodyPost_ret (v := .agg (bkc row)) (results_cell_row (by rfl) _ _ B 75 _ (0, 0) _ rfl (setRow_heap _ _ _ _ _ _ HR.out) Tryd.underlying75 rfl HI.out) rfl ⟨by rw [HKO.out, HROW.out], by rw [HBB.out]; exact below_setRow hB9 (by omega) _⟩
  · have hd : decide ((64 : Int) < (key.size : Int)) = false := by simp; omega
    have HKO := Lib.hid (show keyOf32 key.data.toList = key.data.toList from by rw [keyOf32, if_neg (by rw [← Lib.size_eq]; exact hlong)])
    have HBV := hB0
    have HL := Lib.hid (show (blockL key.data.toList).length = 128 from blockL_length _ (by rw [← Lib.size_eq]; omega))
    have hcp := copy_block W key (by omega)
    skip
    generalize hrow : blockL key.data.toList = row at *
    have HROW := Lib.hid hrow
    have HI := Lib.hid (show (Tryd.prog.info? 75).map (·.size) = some (bkc row).size from by rw [bkc_size, HL.out]; exact hi)
    have HO := Lib.hid (show zeros128.size = (bkc row).size from by rw [bkc_size, HL.out]; exact bcells_size _)
    have H1 := Lib.hid (bkc_one row)
    have hlt := blk_lt HG.out
    have HA := Lib.hid (show ((W.alloc (.cells zeros128 75)).setRow W.heap.size (bkc row)).heap[W.heap.size]? = some (.cells (bkc row) 75) from setRow_heap _ _ _ _ _ (0, 0) (blk_new W _))
    have HR := Lib.hid (show ((W.alloc (.cells zeros128 75)).setRow W.heap.size (bkc row)).heap[B]? = some (.cells zeros128 75) from (setRow_other _ _ _ _ (by omega)).trans (blk_old HG.out))
    have hB9 : Below B w ((W.alloc (.cells zeros128 75)).setRow W.heap.size (bkc row)) := below_setRow (HBV.alloc (by omega) _) (by omega) _
    clear hrow
    go_wp2_with (first
      | (with_reducible refine wpList_load_row rfl 75 _ rfl W.heap.size rfl 75 _ (0, 0) _ HA.out Tryd.underlying75 rfl HI.out ?_)
      | (with_reducible refine wpList_store_row rfl 75 _ _ rfl B (bkc row) rfl rfl 75 _ HR.out HI.out HO.out H1.out ?_))
    exact bodyPost_ret (v := .agg (bkc row)) (results_cell_row (by rfl) _ _ B 75 _ (0, 0) _ rfl (setRow_heap _ _ _ _ _ _ HR.out) Tryd.underlying75 rfl HI.out) rfl ⟨by rw [HKO.out, HROW.out], by rw [HBB.out]; exact below_setRow hB9 (by omega) _⟩

set_option maxHeartbeats 1000000 in
theorem code32_any (b : List UInt8) (data : ByteArray) (w : World) (hl : b.length = 128) (hK : TabK w kf) (hH : TabH w hf) (hs : data.size ≤ 549755813888) :
    Calls Tryd.prog 45 #[.int .i64 32, .agg (bkc b), .string data] w fun e w' => e = .returned (.string ⟨(code32 b data.data.toList).toArray⟩) ∧ Below w.heap.size w w' := by
  have HI := Lib.hid (show (Tryd.prog.info? 75).map (·.size) = some (bkc b).size from by rw [bkc_size, hl]; exact (zero_of_info infoBk).2)
  have hB := below_new w (.cells (bkc b) 75)
  have HG := Lib.hid (blk_new w (.cells (bkc b) 75))
  have hK0 := hK.below hB hK.lt; have hH0 := hH.below hB hH.lt
  go_enter Tryd.func45, Tryd.ntmps45
  go_wp2_with (with_reducible refine wpList_load_row rfl 75 _ rfl w.heap.size rfl 75 _ (0, 0) _ HG.out Tryd.underlying75 rfl HI.out ?_)
  generalize (w.alloc _) = W at *
  generalize hBB : w.heap.size = B at *
  have HBB := Lib.hid hBB
  clear hBB hK hH
  have hlt := blk_lt HG.out
  refine (masked32 54 b _ hl).mono ?_
  rintro e W1 ⟨rfl, hb1⟩
  have HG1 := Lib.hid (blk_below hb1 hlt HG.out)
  have hK1 := hK0.below hb1 hK0.lt; have hH1 := hH0.below hb1 hH0.lt
  have hB1 : Below B w W1 := hB.trans (hb1.mono (Nat.le_of_lt hlt))
  have hlt1 := blk_lt HG1.out
  have hm1 : (⟨(maskL 64 54 b).toArray⟩ : ByteArray).size = 64 := by rw [Lib.size_eq]; simpa using maskL_length 64 54 b (by omega)
  have HE1 := Lib.hid (show ((⟨(maskL 64 54 b).toArray⟩ : ByteArray) ++ data).data.toList = maskL 64 54 b ++ data.data.toList from by simp)
  have HC : Hid (code32 b data.data.toList = sha256L kf hf (maskL 64 92 b ++ sha256L kf hf (maskL 64 54 b ++ data.data.toList))) := Lib.hid rfl
  clear HG hK0 hH0 hb1 hB hlt
  generalize (⟨(maskL 64 54 b).toArray⟩ : ByteArray) = s1 at *
  go_wp2_with fail
  have hsz1 : (s1 ++ data).size ≤ 1099511627776 := by rw [ByteArray.size_append]; omega
  refine (macDigest32 (s1 ++ data) _ hK1 hH1 hsz1).mono ?_
  rintro e W2 ⟨rfl, hb2⟩
  rw [HE1.out]
  have HG2 := Lib.hid (blk_below hb2 hlt1 HG1.out)
  have hK2 := hK1.below hb2 hK1.lt; have hH2 := hH1.below hb2 hH1.lt
  have hB2 : Below B w W2 := hB1.trans (hb2.mono (Nat.le_of_lt hlt1))
  have hlt2 := blk_lt HG2.out
  have hi1 : (⟨(sha256L kf hf (maskL 64 54 b ++ data.data.toList)).toArray⟩ : ByteArray).size = 32 := by rw [Lib.size_eq]; simpa using sha256L_length kf hf _
  clear HG1 hK1 hH1 hb2 hB1 hlt1 hsz1 hm1
  generalize sha256L kf hf (maskL 64 54 b ++ data.data.toList) = d1 at *
  go_wp2_with (with_reducible refine wpList_load_row rfl 75 _ rfl B rfl 75 _ (0, 0) _ HG2.out Tryd.underlying75 rfl HI.out ?_)
  refine (masked32 92 b _ hl).mono ?_
  rintro e W3 ⟨rfl, hb3⟩
  have HG3 := Lib.hid (blk_below hb3 hlt2 HG2.out)
  have hK3 := hK2.below hb3 hK2.lt; have hH3 := hH2.below hb3 hH2.lt
  have hB3 : Below B w W3 := hB2.trans (hb3.mono (Nat.le_of_lt hlt2))
  have hlt3 := blk_lt HG3.out
  have hm2 : (⟨(maskL 64 92 b).toArray⟩ : ByteArray).size = 64 := by rw [Lib.size_eq]; simpa using maskL_length 64 92 b (by omega)
  have HE2 := Lib.hid (show ((⟨(maskL 64 92 b).toArray⟩ : ByteArray) ++ (⟨d1.toArray⟩ : ByteArray)).data.toList = maskL 64 92 b ++ d1 from by simp)
  clear HG2 hK2 hH2 hb3 hB2 hlt2
  generalize (⟨(maskL 64 92 b).toArray⟩ : ByteArray) = s2 at *
  generalize (⟨d1.toArray⟩ : ByteArray) = s3 at *
  go_wp2_with fail
  have hsz2 : (s2 ++ s3).size ≤ 1099511627776 := by rw [ByteArray.size_append]; omega
  refine (macDigest32 (s2 ++ s3) _ hK3 hH3 hsz2).mono ?_
  rintro e W4 ⟨rfl, hb4⟩
  rw [HE2.out]
  have hB4 : Below B w W4 := hB3.trans (hb4.mono (Nat.le_of_lt hlt3))
  rw [← HC.out]
  go_wp2_with fail
  go_ret
  exact ⟨rfl, by rw [HBB.out]; exact hB4⟩
end Go.Proofs.YthcfolefdalaiaaDoor
