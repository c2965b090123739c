/- The reference's hash and Hash. -/
import Derived.Test.YtoejkiblampecaaDoorGcmRtimes
namespace Go.Proofs.YtoejkiblampecaaDoor
open Go.RowKit Go.Sort
set_option maxRecDepth 100000
set_option linter.unusedSimpArgs false
set_option linter.unusedVariables false

/-- Sixteen bytes of a text. -/
def partB (bl : List UInt8) (k : Nat) : List UInt8 := (bl.drop (16 * k)).take 16
theorem partB_length (bl : List UInt8) (k : Nat) (h : 16 * k + 16 ≤ bl.length) : (partB bl k).length = 16 := by rw [partB, List.length_take, List.length_drop]; omega
theorem partB_at (bl : List UInt8) (k i : Nat) (hi : i < 16) : (partB bl k).getD i 0 = bl.getD (16 * k + i) 0 := by
  rw [partB, List.getD_eq_getElem?_getD, List.getElem?_take, if_pos hi, List.getElem?_drop, ← List.getD_eq_getElem?_getD]
theorem hG_succ (key bl : List UInt8) (k : Nat) : prodG (plS (hG key bl k) (partB bl k)) key = hG key bl (k + 1) := rfl

set_option maxHeartbeats 4000000 in
theorem rhash_any (key blocks : ByteArray) (w : World) (hk : key.size = 16) (hb : blocks.size % 16 = 0) (hs : blocks.size ≤ 1099511627776) :
    Calls Tryd.prog 20 #[.string key, .string blocks] w fun e w' => e = .returned (.string ⟨(hashG key.data.toList blocks.data.toList).toArray⟩) ∧ Below w.heap.size w w' := by
  obtain ⟨i0, hi, hz0, hz1, hz2⟩ := info_parts info_u8
  have hmk : ∀ W : World, (Instr.makeSlice 31 (.int .i64 16) (.int .i64 16)).run Tryd.prog W = .ok (.slice (some ⟨W.heap.size, 0, none⟩) 16 16) (W.alloc (.cells (bcells (hG key.data.toList blocks.data.toList 0)) 5)) := fun W => by
    have h := run_makeSlice W 31 5 i0 (.int .u8 0) Tryd.underlying31 hi hz0 .i64 .i64 16 16 (by omega) (by omega) (by rw [hz1]; omega) (by rw [hz2]; omega) (by omega)
    rw [hz1, made_zero] at h
    exact h
  have HO0 := Lib.hid (blk_new w (.cells (bcells (hG key.data.toList blocks.data.toList 0)) 5))
  have hb0 := below_new w (.cells (bcells (hG key.data.toList blocks.data.toList 0)) 5)
  have HKL := Lib.hid (show key.data.toList.length = 16 from by rw [← Lib.size_eq]; exact hk)
  have HBL := Lib.hid (show blocks.data.toList.length = blocks.size from (Lib.size_eq _).symm)
  have HKZ := Lib.hid hk
  clear hi hz0 hz1 hz2 hk
  generalize hkl : key.data.toList = kl at *
  generalize hbl : blocks.data.toList = bl at *
  have HKE := Lib.hid hkl; have HBE := Lib.hid hbl
  have HIx := Lib.hid (fun (j : Nat) (h : j < blocks.size) (V : World) => index_text blocks j h V)
  rw [hbl] at HIx
  clear hkl hbl
  go_enter Tryd.func20, Tryd.ntmps20
  go_wp2_with fail
  clear hmk
  generalize (w.alloc _) = W0 at *
  go_loopw [5, 6, 7] (fun yv av _ wr => ∃ (k c G : Nat), k ≤ blocks.size / 16 ∧ Hid (c = 16 * k) ∧ av = .int .i64 (c : Int) ∧ yv = .slice (some ⟨G, 0, none⟩) 16 16 ∧ w.heap.size ≤ G ∧ wr.heap[G]? = some (.cells (bcells (hG kl bl k)) 5) ∧ Below w.heap.size w wr) (fun _ av _ _ => blocks.size + 16 - (intOf av).toNat)
  case atStart => exact ⟨0, 0, w.heap.size, by omega, Lib.hid rfl, rfl, rfl, by omega, HO0.out, hb0⟩
  case round =>
    clear HO0 hb0
    obtain ⟨k, c, G, hk, HC, rfl, rfl, hGw, ho, hbw⟩ := hrel
    have HO := Lib.hid ho
    clear ho
    by_cases hlt : c < blocks.size
    · have hd : decide ((c : Int) < (blocks.size : Int)) = true := by simp; omega
      have hck := HC.out
      have hk1 : k + 1 ≤ blocks.size / 16 := by omega
      have hcb : c + 16 ≤ blocks.size := by omega
      have HPL := Lib.hid (partB_length bl k (by rw [HBL.out]; omega))
      have hy16 := hG_length kl bl k
      clear hck
      go_wp2_with fail
      have hb' := hbw
      go_loopw [7] (fun iv wr => ∃ i : Nat, i ≤ 16 ∧ iv = .int .i64 (i : Int) ∧ wr.heap[G]? = some (.cells (bcells (plP (hG kl bl k) (partB bl k) i)) 5) ∧ Below w.heap.size w wr) (fun iv _ => 16 - (intOf iv).toNat)
      case atStart => exact ⟨0, by omega, rfl, by rw [plP_zero _ _ hy16]; exact HO.out, hb'⟩
      case round =>
        clear HO hb' hbw
        obtain ⟨i, hi, rfl, ho, hb⟩ := hrel
        have HO := Lib.hid ho
        clear ho
        by_cases hli : i < 16
        · have hd2 : decide ((i : Int) < 16) = true := by simp; omega
          have HL := Lib.hid (plP_length (hG kl bl k) (partB bl k) i)
          have cx := bcell_at HO.out i (by rw [HL.out]; exact hli)
          have ix := HIx.out (c + i) (by omega)
          have HPa := Lib.hid (show (partB bl k).getD i 0 = bl.getD (c + i) 0 from by rw [partB_at _ _ _ hli, HC.out])
          have HX := Lib.hid (au8x ((plP (hG kl bl k) (partB bl k) i).getD i 0) (bl.getD (c + i) 0))
          have HSet := Lib.hid (fun (Y : World) (hY : Y.heap[G]? = some (.cells (bcells (plP (hG kl bl k) (partB bl k) i)) 5)) => bheap_set hY i ((plP (hG kl bl k) (partB bl k) i).getD i 0 ^^^ bl.getD (c + i) 0))
          rw [← HPa.out, plP_succ _ _ i hli, HPa.out] at HSet
          clear HPa
          have e1 : IntKind.i64.wrap ((c : Int) + (i : Int)) = (c : Int) + (i : Int) := IntWalk.i64_in _ (by omega)
          have e2 : (((c + i : Nat) : Int)) = (c : Int) + (i : Int) := by omega
          rw [e2] at ix
          clear e2
          generalize (plP (hG kl bl k) (partB bl k) i).getD i 0 = x at *
          generalize bl.getD (c + i) 0 = y at *
          go_wp2_with fail
          have q1 := cell_regrown cx
          refine wp_region_reads_tail 13 (by kernel_rfl) (by kernel_rfl) ?_
          simp only [List.take_succ_cons, List.take_zero, List.drop_succ_cons, List.drop_zero]
          repeat (first | go_big_quiet_step (fail) | quiet_step (fail))
          refine wpQuiet_nil ?_
          intro Y hY
          have hlO := blk_lt HO.out
          have HO2 := Lib.hid (blk_below hY hlO HO.out)
          have hb2 : Below w.heap.size w Y := hb.trans (hY.mono hb.size)
          have cy := bcell_at HO2.out i (by rw [HL.out]; exact hli)
          have fy := frozen_of_row Y G i _ _ HO2.out
          clear hY q1 cx HO hb hlO
          rw [HX.out]
          go_wp2_with fail
          go_roundw
          case rel => exact ⟨i + 1, by omega, by go_num, HSet.out Y HO2.out, hb2.setCell (by simpa using hGw) _⟩
          case measure => simp [intOf]; omega
        · have hd2 : decide ((i : Int) < 16) = false := by simp; omega
          obtain rfl : i = 16 := by omega
          have HO2 := Lib.hid (show wr.heap[G]? = some (.cells (bcells (plS (hG kl bl k) (partB bl k))) 5) from by rw [← plP_full]; exact HO.out)
          clear HO
          obtain ⟨cap, hcv, hown, hbo⟩ := run_convert_string_bytes_at key wr
          rw [HKZ.out] at hcv
          rw [HKE.out] at hown
          have HO3 := Lib.hid (blk_below hbo (blk_lt HO2.out) HO2.out)
          have hb2 := hb.trans (hbo.mono hb.size)
          have HBk := Lib.hid (show BytesAt (Lib.bytesWorld wr 5 key) wr.heap.size 16 kl from fun j hj => ownS_at hown j (by rw [HKL.out]; exact hj))
          have HBy := Lib.hid (show BytesAt (Lib.bytesWorld wr 5 key) G 16 (plS (hG kl bl k) (partB bl k)) from fun j hj => bcell_at HO3.out j (by rw [plS_length]; exact hj))
          have HTm := Lib.hid (rtimes_any (plS (hG kl bl k) (partB bl k)) kl G 16 wr.heap.size cap _ (plS_length _ _) HKL.out HBy.out HBk.out)
          rw [hG_succ] at HTm
          clear hown hbo HO2 HBk HBy HO3 hb
          generalize wr.heap.size = K at *
          generalize Lib.bytesWorld wr 5 key = W3 at *
          go_wp2_with fail
          refine HTm.out.mono ?_
          rintro e W4 ⟨⟨G2, rfl, hG2, hr2⟩, hb4⟩
          have HR2 := Lib.hid hr2
          have hb5 := hb2.trans (hb4.mono hb2.size)
          have hsz := hb2.size
          clear hr2 hb4 HTm hcv
          go_wp2_with fail
          go_roundw
          case rel => exact ⟨k + 1, c + 16, G2, hk1, Lib.hid (by rw [HC.out]; omega), by go_num, rfl, by omega, HR2.out, hb5⟩
          case measure => simp [intOf]; omega
    · have hd : decide ((c : Int) < (blocks.size : Int)) = false := by simp; omega
      have hkk : k = blocks.size / 16 := by have := HC.out; omega
      have hrow : hG kl bl k = hashG kl bl := by rw [hashG, HBL.out, hkk]
      have ho := HO.out
      rw [hrow] at ho
      have hl := hashG_length kl bl
      have hcv := run_string_row wr G 16 _ (cells_of_bcells ho)
      rw [hl] at hcv
      clear HO ho hl hrow hkk
      generalize hq : hashG kl bl = row at *
      have HQ := Lib.hid hq
      clear hq
      go_wp2_with fail
      go_ret
      exact ⟨by first | (rw [HQ.out]; rfl) | (rw [HKE.out, HBE.out, HQ.out]; rfl), hbw⟩

set_option maxHeartbeats 1000000 in
theorem rHashKey_any (key blocks : ByteArray) (w : World) (hk : key.size ≠ 16) :
    Calls Tryd.prog 11 #[.string key, .string blocks] w fun e w' => e = .returned (.tuple #[.string ⟨#[]⟩, .int .i64 21]) ∧ Below w.heap.size w w' := by
  have hd1 : ((key.size : Int) != 16) = true := by simp; omega
  go_enter Tryd.func11, Tryd.ntmps11
  go_wp2_with fail
  go_ret2
  exact ⟨rfl, Below.refl _ _⟩
set_option maxHeartbeats 1000000 in
theorem rHashArg_any (key blocks : ByteArray) (w : World) (hk : key.size = 16) (hb : blocks.size % 16 ≠ 0) :
    Calls Tryd.prog 11 #[.string key, .string blocks] w fun e w' => e = .returned (.tuple #[.string ⟨#[]⟩, .int .i64 1]) ∧ Below w.heap.size w w' := by
  have hd1 : ((key.size : Int) != 16) = false := by simp; omega
  have hd2 : ((blocks.size : Int) % 16 != 0) = true := by simp; omega
  go_enter Tryd.func11, Tryd.ntmps11
  go_wp2_with fail
  go_ret2
  exact ⟨rfl, Below.refl _ _⟩
set_option maxHeartbeats 1000000 in
theorem rHash_any (key blocks : ByteArray) (w : World) (hk : key.size = 16) (hb : blocks.size % 16 = 0) (hs : blocks.size ≤ 1099511627776) :
    Calls Tryd.prog 11 #[.string key, .string blocks] w fun e w' => e = .returned (.tuple #[.string ⟨(hashG key.data.toList blocks.data.toList).toArray⟩, .int .i64 0]) ∧ Below w.heap.size w w' := by
  have hd1 : ((key.size : Int) != 16) = false := by simp; omega
  have hd2 : ((blocks.size : Int) % 16 != 0) = false := by simp; omega
  have HH := Lib.hid (rhash_any key blocks w hk hb hs)
  generalize hq : (⟨(hashG key.data.toList blocks.data.toList).toArray⟩ : ByteArray) = r at *
  go_enter Tryd.func11, Tryd.ntmps11
  go_wp2_with fail
  refine HH.out.mono ?_
  rintro e W1 ⟨rfl, hb1⟩
  go_wp2_with fail
  go_ret2
  exact ⟨rfl, hb1⟩
end Go.Proofs.YtoejkiblampecaaDoor
