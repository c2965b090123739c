/- The program's check, blocksFor and initial. -/
import Derived.Test.YtnjeelfeaiakpaaChaBlk
namespace Go.Proofs.Ytnjeelfeaiakpaa
open Go.RowKit Go.Sort
set_option maxRecDepth 100000
set_option linter.unusedSimpArgs false
set_option linter.unusedVariables false

theorem checkKey_any (key nonce : ByteArray) (n : Int) (w : World) (h : key.size ≠ 32 ∨ nonce.size ≠ 12) :
    Calls Try.prog 12 #[.string key, .string nonce, .int .i64 n] w fun e w' => e = .returned (.int .i64 21) ∧ w = w' := by
  by_cases h1 : key.size = 32
  · have hd1 : ((key.size : Int) != 32) = false := by simp [h1]
    have hd2 : ((nonce.size : Int) != 12) = true := by simp; omega
    have H := Lib.hid h1
    clear h1 h
    go_enter Try.func12, Try.ntmps12
    go_wp2_with fail
    go_ret
    exact ⟨rfl, rfl⟩
  · have hd1 : ((key.size : Int) != 32) = true := by simp; omega
    go_enter Try.func12, Try.ntmps12
    go_wp2_with fail
    go_ret
    exact ⟨rfl, rfl⟩
theorem checkArg_any (key nonce : ByteArray) (n : Int) (w : World) (hk : key.size = 32) (hn : nonce.size = 12) (h : n < 0 ∨ 4294967295 < n) :
    Calls Try.prog 12 #[.string key, .string nonce, .int .i64 n] w fun e w' => e = .returned (.int .i64 1) ∧ w = w' := by
  have hd1 : ((key.size : Int) != 32) = false := by simp [hk]
  have hd2 : ((nonce.size : Int) != 12) = false := by simp [hn]
  clear hk hn
  by_cases h1 : n < 0
  · have hd3 : decide (n < 0) = true := by simpa using h1
    go_enter Try.func12, Try.ntmps12
    go_wp2_with fail
    go_ret
    exact ⟨rfl, rfl⟩
  · have hd3 : decide (n < 0) = false := by simpa using h1
    have hd4 : decide (4294967295 < n) = true := by simp; omega
    go_enter Try.func12, Try.ntmps12
    go_wp2_with fail
    go_ret
    exact ⟨rfl, rfl⟩
theorem checkOk_any (key nonce : ByteArray) (n : Nat) (w : World) (hk : key.size = 32) (hn : nonce.size = 12) (h : n ≤ 4294967295) :
    Calls Try.prog 12 #[.string key, .string nonce, .int .i64 (n : Int)] w fun e w' => e = .returned (.int .i64 0) ∧ w = w' := by
  have hd1 : ((key.size : Int) != 32) = false := by simp [hk]
  have hd2 : ((nonce.size : Int) != 12) = false := by simp [hn]
  have hd3 : decide ((n : Int) < 0) = false := by simp
  have hd4 : decide (4294967295 < (n : Int)) = false := by simp; omega
  clear hk hn
  go_enter Try.func12, Try.ntmps12
  go_wp2_with fail
  go_ret
  exact ⟨rfl, rfl⟩
theorem blocksFor_any (data : ByteArray) (w : World) (h : data.size ≤ 1099511627776) :
    Calls Try.prog 17 #[.string data] w fun e w' => e = .returned (.int .i64 (((data.size + 63) / 64 : Nat) : Int)) ∧ w = w' := by
  go_enter Try.func17, Try.ntmps17
  go_wp2_with fail
  go_ret
  refine ⟨?_, rfl⟩
  show Ending.returned (.int .i64 (((data.size : Int) + 64 - 1) / 64)) = _
  rw [show ((data.size : Int) + 64 - 1) / 64 = (((data.size + 63) / 64 : Nat) : Int) by omega]
/-- The state while it is laid. -/
def iniA (key : List UInt8) (k : Nat) : List Int := [1634760805, 857760878, 2036477234, 1797285236] ++ lws key k ++ List.replicate (12 - k) 0
def iniB (key nonce : List UInt8) (n : Int) (k : Nat) : List Int := [1634760805, 857760878, 2036477234, 1797285236] ++ lws key 8 ++ [n] ++ lws nonce k ++ List.replicate (3 - k) 0
theorem iniA_length (key : List UInt8) (k : Nat) (h : k ≤ 12) : (iniA key k).length = 16 := by simp [iniA, lws_length]; omega
theorem iniB_length (key nonce : List UInt8) (n : Int) (k : Nat) (h : k ≤ 3) : (iniB key nonce n k).length = 16 := by simp [iniB, lws_length]; omega
theorem iniA_set (key : List UInt8) (k : Nat) (h : k < 8) : (iniA key k).set (4 + k) (lw (key.getD (4 * k) 0) (key.getD (4 * k + 1) 0) (key.getD (4 * k + 2) 0) (key.getD (4 * k + 3) 0)) = iniA key (k + 1) := by
  have e : List.replicate (12 - k) (0 : Int) = 0 :: List.replicate (12 - (k + 1)) 0 := by
    rw [show 12 - k = (12 - (k + 1)) + 1 by omega, List.replicate_succ]
  rw [iniA, e, List.set_append, if_neg (by simp [lws_length]; omega), show ([1634760805, 857760878, 2036477234, 1797285236] ++ lws key k : List Int).length = 4 + k by simp [lws_length]; omega, Nat.sub_self, List.set_cons_zero, iniA, lws_succ key k]
  simp
theorem iniB_set (key nonce : List UInt8) (n : Int) (k : Nat) (h : k < 3) : (iniB key nonce n k).set (13 + k) (lw (nonce.getD (4 * k) 0) (nonce.getD (4 * k + 1) 0) (nonce.getD (4 * k + 2) 0) (nonce.getD (4 * k + 3) 0)) = iniB key nonce n (k + 1) := by
  have e : List.replicate (3 - k) (0 : Int) = 0 :: List.replicate (3 - (k + 1)) 0 := by
    rw [show 3 - k = (3 - (k + 1)) + 1 by omega, List.replicate_succ]
  rw [iniB, e, List.set_append, if_neg (by simp [lws_length]; omega), show ([1634760805, 857760878, 2036477234, 1797285236] ++ lws key 8 ++ [n] ++ lws nonce k : List Int).length = 13 + k by simp [lws_length]; omega, Nat.sub_self, List.set_cons_zero, iniB, lws_succ nonce k]
  simp
theorem iniAB (key nonce : List UInt8) (n : Int) : (iniA key 8).set 12 n = iniB key nonce n 0 := by
  rw [iniA, List.set_append, if_neg (by simp [lws_length]), show ([1634760805, 857760878, 2036477234, 1797285236] ++ lws key 8 : List Int).length = 12 by simp [lws_length], iniB]
  simp [List.replicate, lws]
theorem iniB_full (key nonce : List UInt8) (n : Nat) : iniB key nonce (n : Int) 3 = firstL key nonce n := by simp [iniB, firstL]
def ini0 : Array Value := (((zeros16.setIfInBounds 0 (Value.int .u32 1634760805)).setIfInBounds 1 (Value.int .u32 857760878)).setIfInBounds 2 (Value.int .u32 2036477234)).setIfInBounds 3 (Value.int .u32 1797285236)
theorem ini0_eq (key : List UInt8) : ini0 = stc (iniA key 0) := by
  simp [ini0, zeros16, stc_set, iniA, lws, List.replicate]
/-- Four bytes of a string as a number. -/
theorem loadAt (s : ByteArray) (m k : Nat) (hs : s.size = 4 * m) (hk : k < m) (w : World) :
    Calls Try.prog 19 #[.string (s.extract (4 * k) (4 * k + 4))] w fun e w' => e = .returned (.int .u32 (lw (s.data.toList.getD (4 * k) 0) (s.data.toList.getD (4 * k + 1) 0) (s.data.toList.getD (4 * k + 2) 0) (s.data.toList.getD (4 * k + 3) 0))) ∧ Below w.heap.size w w' := by
  have h4 : (s.extract (4 * k) (4 * k + 4)).size = 4 := by simp; omega
  refine (chaLoad_any _ w h4).mono ?_
  rintro e w' ⟨rfl, hb⟩
  refine ⟨?_, hb⟩
  have g : ∀ j (h : j < (s.extract (4 * k) (4 * k + 4)).size), j < 4 → (s.extract (4 * k) (4 * k + 4))[j] = s.data.toList.getD (4 * k + j) 0 := fun j h hj => by
    rw [getD_byte s (4 * k + j) (by omega)]
    simp [ByteArray.getElem_extract]
  rw [g 0 _ (by omega), g 1 _ (by omega), g 2 _ (by omega), g 3 _ (by omega)]
  rfl
set_option maxHeartbeats 1000000 in
theorem initial_any (key nonce : ByteArray) (n : Nat) (w : World) (hk : key.size = 32) (hn : nonce.size = 12) (h : n ≤ 4294967295) :
    Calls Try.prog 13 #[.string key, .string nonce, .int .u32 (n : Int)] w fun e w' => e = .returned (.agg (stc (firstL key.data.toList nonce.data.toList n))) ∧ Below w.heap.size w w' := by
  obtain ⟨hz, hi⟩ := zero_of_info infoSt
  have hz16 : zeros16.size = 16 := by simp [zeros16, stc_size]
  have HI := Lib.hid hi
  have HIn := Lib.hid (show (Try.prog.info? 36).map (·.size) = some ini0.size from by rw [ini0_eq key.data.toList, stc_size, iniA_length _ _ (by omega)]; exact hi)
  have HSz := Lib.hid (show zeros16.size = ini0.size from by rw [ini0_eq key.data.toList, stc_size, iniA_length _ _ (by omega)]; exact hz16)
  have HOne := Lib.hid (show ini0.all (·.oneCell') = true from by rw [ini0_eq key.data.toList]; exact stc_one _)
  have HG0 := Lib.hid (blk_old (o := .cells zeros16 36) (blk_new w (.cells zeros16 36)))
  have HR0 := Lib.hid (blk_new2 w (.cells zeros16 36) (.cells zeros16 36))
  have hb0 := below_new2 w (.cells zeros16 36) (.cells zeros16 36)
  have HK := Lib.hid hk; have HN := Lib.hid hn
  clear hi hk hn
  go_enter Try.func13, Try.ntmps13
  go_wp2_with (refine wpList_store_row rfl 36 _ _ rfl (w.heap.size + 1) ini0 rfl rfl 36 _ HR0.out HIn.out HSz.out HOne.out ?_)
  have hGs := (setRow_other _ (w.heap.size + 1) w.heap.size ini0 (by omega)).trans HG0.out
  have hRs := setRow_heap _ (w.heap.size + 1) _ ini0 _ _ HR0.out
  have hbs := below_setRow hb0 (show w.heap.size ≤ w.heap.size + 1 by omega) ini0
  clear HG0 HR0 hb0 hz hz16
  generalize (World.setRow _ _ _) = W0 at *
  generalize hBB : w.heap.size = B at *
  have HBB := Lib.hid hBB
  clear hBB
  rw [ini0_eq key.data.toList] at hRs
  have HG := Lib.hid hGs; have HR := Lib.hid hRs
  clear hGs hRs
  go_loopw [11] (fun i wr => ∃ k : Nat, k ≤ 8 ∧ i = .int .i64 (k : Int) ∧ wr.heap[B]? = some (.cells zeros16 36) ∧ wr.heap[B + 1]? = some (.cells (stc (iniA key.data.toList k)) 36) ∧ Below B w wr) (fun i _ => 8 - (intOf i).toNat)
  case atStart => exact ⟨0, by omega, rfl, HG.out, HR.out, hbs⟩
  case round =>
    clear HG HR hbs
    obtain ⟨k, hk, rfl, hg, hr, hb⟩ := hrel
    have HG := Lib.hid hg; have HR := Lib.hid hr
    clear hg hr
    by_cases hlt : k < 8
    · have hd : decide ((k : Int) < 8) = true := by simp; omega
      have s1 : (4 * (k : Int)).toNat = 4 * k := by omega
      have s2 : (4 * (k : Int) + 4).toNat = 4 * k + 4 := by omega
      have hsz : (4 * (k : Int) + 4) ≤ (key.size : Int) := by rw [HK.out]; omega
      have HS := Lib.hid (iniA_set key.data.toList k hlt)
      have HC := Lib.hid (loadAt key 8 k HK.out hlt wr)
      generalize lw (key.data.toList.getD (4 * k) 0) _ _ _ = x at *
      go_wp2_with fail
      refine HC.out.mono ?_
      rintro e W1 ⟨rfl, hb1⟩
      have hlt0 := blk_lt HR.out
      have HG1 := Lib.hid (blk_below hb1 (by omega) HG.out)
      have HR1 := Lib.hid (blk_below hb1 hlt0 HR.out)
      have hbb : Below B w W1 := hb.trans (hb1.mono (by omega))
      have hll : (iniA key.data.toList k).length = 16 := iniA_length _ _ (by omega)
      have hc : W1.cell? ⟨B + 1, 4 + k, none⟩ = some (.int .u32 ((iniA key.data.toList k).getD (4 + k) 0)) := by rw [cell_of_row W1 _ _ _ _ _ HR1.out]; exact stc_get _ (4 + k) (by omega)
      have hf : W1.frozen? ⟨B + 1, 4 + k, none⟩ = false := frozen_of_row W1 _ _ _ _ HR1.out
      generalize (iniA key.data.toList k).getD (4 + k) 0 = old at *
      have hn4 : (4 + (k : Int)).toNat = 4 + k := by omega
      clear hb1 hlt0 HG HR hll HC hb s1 s2 hsz
      go_wp2_with fail
      go_roundw
      case rel =>
        refine ⟨k + 1, by omega, by go_num, ?_, ?_, hbb.setCell (by simp) _⟩
        · rw [heap_setCell_other _ _ _ _ (by simp)]; exact HG1.out
        · rw [← HS.out, ← stc_set]; exact Go.heap_setCell_same _ _ _ _ _ _ HR1.out
      case measure => simp [intOf]; omega
    · have hd : decide ((k : Int) < 8) = false := by simp; omega
      obtain rfl : k = 8 := by omega
      rw [show ((8 : Nat) : Int) = (8 : Int) from rfl] at *
      have hll : (iniA key.data.toList 8).length = 16 := iniA_length _ _ (by omega)
      have hc : wr.cell? ⟨B + 1, 12, none⟩ = some (.int .u32 ((iniA key.data.toList 8).getD 12 0)) := by rw [cell_of_row wr _ _ _ _ _ HR.out]; exact stc_get _ 12 (by omega)
      have hf : wr.frozen? ⟨B + 1, 12, none⟩ = false := frozen_of_row wr _ _ _ _ HR.out
      have HS := Lib.hid (iniAB key.data.toList nonce.data.toList (n : Int))
      have HR2 := Lib.hid (show (wr.setCell ⟨B + 1, 12, none⟩ (.int .u32 (n : Int))).heap[B + 1]? = some (.cells (stc (iniB key.data.toList nonce.data.toList (n : Int) 0)) 36) from by rw [← HS.out, ← stc_set]; exact Go.heap_setCell_same _ _ _ _ _ _ HR.out)
      have HG2 := Lib.hid (show (wr.setCell ⟨B + 1, 12, none⟩ (.int .u32 (n : Int))).heap[B]? = some (.cells zeros16 36) from by rw [heap_setCell_other _ _ _ _ (by simp)]; exact HG.out)
      have hb2 : Below B w (wr.setCell ⟨B + 1, 12, none⟩ (.int .u32 (n : Int))) := hb.setCell (by simp) _
      generalize (iniA key.data.toList 8).getD 12 0 = old at *
      clear HR HG hb hll
      go_wp2_with fail
      clear hc hf
      generalize (World.setCell _ _ _) = W1 at *
      go_loopw [28] (fun i wr => ∃ k : Nat, k ≤ 3 ∧ i = .int .i64 (k : Int) ∧ wr.heap[B]? = some (.cells zeros16 36) ∧ wr.heap[B + 1]? = some (.cells (stc (iniB key.data.toList nonce.data.toList (n : Int) k)) 36) ∧ Below B w wr) (fun i _ => 3 - (intOf i).toNat)
      case atStart => exact ⟨0, by omega, rfl, HG2.out, HR2.out, hb2⟩
      case round =>
        clear HG2 HR2 hb2 hd
        obtain ⟨k, hk, rfl, hg, hr, hb⟩ := hrel
        have HG := Lib.hid hg; have HR := Lib.hid hr
        clear hg hr
        by_cases hlt : k < 3
        · have hd : decide ((k : Int) < 3) = true := by simp; omega
          have s1 : (4 * (k : Int)).toNat = 4 * k := by omega
          have s2 : (4 * (k : Int) + 4).toNat = 4 * k + 4 := by omega
          have hsz : (4 * (k : Int) + 4) ≤ (nonce.size : Int) := by rw [HN.out]; omega
          have HS := Lib.hid (iniB_set key.data.toList nonce.data.toList (n : Int) k hlt)
          have HC := Lib.hid (loadAt nonce 3 k HN.out hlt wr)
          generalize lw (nonce.data.toList.getD (4 * k) 0) _ _ _ = x at *
          go_wp2_with fail
          refine HC.out.mono ?_
          rintro e W1 ⟨rfl, hb1⟩
          have hlt0 := blk_lt HR.out
          have HG1 := Lib.hid (blk_below hb1 (by omega) HG.out)
          have HR1 := Lib.hid (blk_below hb1 hlt0 HR.out)
          have hbb : Below B w W1 := hb.trans (hb1.mono (by omega))
          have hll : (iniB key.data.toList nonce.data.toList (n : Int) k).length = 16 := iniB_length _ _ _ _ (by omega)
          have hc : W1.cell? ⟨B + 1, 13 + k, none⟩ = some (.int .u32 ((iniB key.data.toList nonce.data.toList (n : Int) k).getD (13 + k) 0)) := by rw [cell_of_row W1 _ _ _ _ _ HR1.out]; exact stc_get _ (13 + k) (by omega)
          have hf : W1.frozen? ⟨B + 1, 13 + k, none⟩ = false := frozen_of_row W1 _ _ _ _ HR1.out
          generalize (iniB key.data.toList nonce.data.toList (n : Int) k).getD (13 + k) 0 = old at *
          have hn4 : (13 + (k : Int)).toNat = 13 + k := by omega
          clear hb1 hlt0 HG HR hll HC hb s1 s2 hsz
          go_wp2_with fail
          go_roundw
          case rel =>
            refine ⟨k + 1, by omega, by go_num, ?_, ?_, hbb.setCell (by simp) _⟩
            · rw [heap_setCell_other _ _ _ _ (by simp)]; exact HG1.out
            · rw [← HS.out, ← stc_set]; exact Go.heap_setCell_same _ _ _ _ _ _ HR1.out
          case measure => simp [intOf]; omega
        · have hd : decide ((k : Int) < 3) = false := by simp; omega
          obtain rfl : k = 3 := by omega
          rw [show ((3 : Nat) : Int) = (3 : Int) from rfl] at *
          have HR2 := Lib.hid (show wr.heap[B + 1]? = some (.cells (stc (firstL key.data.toList nonce.data.toList n)) 36) from by rw [← iniB_full]; exact HR.out)
          have HL := Lib.hid (firstL_length key.data.toList nonce.data.toList n)
          clear HR
          generalize hrow : firstL key.data.toList nonce.data.toList n = row at *
          have HROW := Lib.hid hrow
          clear hrow
          have HIr := Lib.hid (show (Try.prog.info? 36).map (·.size) = some (stc row).size from by rw [stc_size, HL.out]; exact HI.out)
          have HO := Lib.hid (show zeros16.size = (stc row).size from by rw [stc_size, HL.out]; exact stc_size _)
          have H1r := Lib.hid (stc_one row)
          go_wp2_with (first
            | (with_reducible refine wpList_load_row rfl 36 _ rfl (B + 1) rfl 36 _ (0, 0) _ HR2.out Try.underlying36 rfl HIr.out ?_)
            | (with_reducible refine wpList_store_row rfl 36 _ _ rfl B (stc row) rfl rfl 36 _ HG.out HIr.out HO.out H1r.out ?_))
          exact bodyPost_ret (v := .agg (stc row)) (results_cell_row (by rfl) _ _ B 36 _ (0, 0) _ rfl (setRow_heap _ _ _ _ _ _ HG.out) Try.underlying36 rfl HIr.out) rfl ⟨by first | (with_reducible rfl) | rw [HROW.out], by rw [HBB.out]; exact below_setRow hb (by omega) _⟩
end Go.Proofs.Ytnjeelfeaiakpaa
