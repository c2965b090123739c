/- The program's masked and Xor. -/
import Derived.Test.YtnjeelfeaiakpaaChaOwn
import Derived.Test.YtnjeelfeaiakpaaChaXor
import Derived.Lib.SlBytesRow
namespace Go.Proofs.Ytnjeelfeaiakpaa
open Go.RowKit Go.Sort
set_option maxRecDepth 100000
set_option linter.unusedSimpArgs false
set_option linter.unusedVariables false

theorem OwnS.set {W : World} {base g cap : Nat} {xs : List Value} (h : OwnS W base g cap xs) (j : Nat) (hj : j < xs.length) (v : Value) : OwnS (W.setCell ⟨g, j, none⟩ v) base g cap (xs.set j v) := by
  refine ⟨h.base, by rw [List.length_set]; exact h.le, fun i u hu => ?_, fun i hi => ?_⟩
  · by_cases hij : i = j
    · subst hij
      rw [List.getElem?_set_self hj] at hu
      cases hu
      exact World.cell?_setCell_same _ _ _ (h.cells i _ (List.getElem?_eq_getElem hj))
    · rw [List.getElem?_set_ne (fun e => hij e.symm)] at hu
      rw [World.cell?_setCell_other _ _ _ _ (by simp [hij])]
      exact h.cells i u hu
  · obtain ⟨h1, h2⟩ := h.room i hi
    refine ⟨?_, by rw [World.frozen?_setCell]; exact h2⟩
    by_cases hij : i = j
    · subst hij
      obtain ⟨u, hu⟩ := Option.isSome_iff_exists.1 h1
      rw [World.cell?_setCell_same _ _ _ hu]; rfl
    · rw [World.cell?_setCell_other _ _ _ _ (by simp [hij])]; exact h1
/-- Data of which the first i bytes are with the stream. -/
def mixX (key nonce : List UInt8) (n : Nat) (data : List UInt8) (i : Nat) : List UInt8 := chaX key nonce n data i ++ data.drop i
theorem mixX_zero (key nonce : List UInt8) (n : Nat) (data : List UInt8) : mixX key nonce n data 0 = data := by simp [mixX, chaX]
theorem mixX_full (key nonce : List UInt8) (n : Nat) (data : List UInt8) : mixX key nonce n data data.length = chaX key nonce n data data.length := by simp [mixX]
theorem mixX_length (key nonce : List UInt8) (n : Nat) (data : List UInt8) (i : Nat) (h : i ≤ data.length) : (mixX key nonce n data i).length = data.length := by simp [mixX, chaX_length]; omega
theorem mixX_get (key nonce : List UInt8) (n : Nat) (data : List UInt8) (i : Nat) (h : i < data.length) : (mixX key nonce n data i)[i]? = some data[i] := by
  rw [mixX, List.getElem?_append_right (by rw [chaX_length]; omega), chaX_length, Nat.sub_self, List.getElem?_drop]
  simp [h]
theorem mixX_set (key nonce : List UInt8) (n : Nat) (data : List UInt8) (i : Nat) (h : i < data.length) :
    (mixX key nonce n data i).set i (xorB ((((chaB key nonce (n + i / 64)).getD (i % 64) 0).toNat : Nat) : Int) data[i]) = mixX key nonce n data (i + 1) := by
  rw [mixX, List.set_append, if_neg (by rw [chaX_length]; omega), chaX_length, Nat.sub_self, List.drop_eq_getElem_cons h, List.set_cons_zero, mixX, chaX]
  have e : data.getD i 0 = data[i] := by rw [List.getD_eq_getElem?_getD, List.getElem?_eq_getElem h]; rfl
  rw [e]
  simp
theorem firstL_next (key nonce : List UInt8) (n : Nat) : (firstL key nonce n).set 12 ((n : Int) + 1) = firstL key nonce (n + 1) := by
  rw [firstL, List.set_append, if_pos (by simp [lws_length]), List.set_append, if_neg (by simp [lws_length])]
  simp [lws_length, firstL]
theorem firstL_at (key nonce : List UInt8) (n : Nat) : (firstL key nonce n).getD 12 0 = (n : Int) := by
  have e : ([1634760805, 857760878, 2036477234, 1797285236] ++ lws key 8 : List Int).length = 12 := by simp [lws_length]
  rw [List.getD_eq_getElem?_getD, firstL, List.getElem?_append_left (by rw [List.length_append, e]; simp), List.getElem?_append_right (by rw [e]; decide), e]
  rfl
set_option maxHeartbeats 4000000 in
theorem masked_any (key nonce : List UInt8) (n : Nat) (data : ByteArray) (w : World) (hs : data.size ≤ 1073741824) (h : n + (data.size + 63) / 64 ≤ 4294967296) :
    Calls Try.prog 18 #[.agg (stc (firstL key nonce n)), .string data] w fun e w' => e = .returned (.string ⟨(chaX key nonce n data.data.toList data.size).toArray⟩) ∧ Below w.heap.size w w' := by
  obtain ⟨hz6, hi6⟩ := zero_of_info info64
  have HS6 := Lib.hid hi6
  clear hi6
  have HL0 := Lib.hid (firstL_length key nonce n)
  have HG0 := Lib.hid (blk_new w (.cells (stc (firstL key nonce n)) 36))
  have hb0 := below_new w (.cells (stc (firstL key nonce n)) 36)
  obtain ⟨ao, cap, hcv, hown, hbl⟩ := run_convert_string_bytes_own data (w.alloc (.cells (stc (firstL key nonce n)) 36))
  go_enter Try.func18, Try.ntmps18
  go_wp2_with fail
  have HG1 := Lib.hid (blk_below hbl (by simp) HG0.out)
  have hb1 := hb0.trans (hbl.mono (by simp))
  have hGw : w.heap.size < (w.alloc (.cells (stc (firstL key nonce n)) 36)).heap.size := by simp
  clear hcv HG0 hb0 hbl
  generalize (Lib.bytesWorld _ _ _) = W0 at *
  generalize (w.alloc _).heap.size = B1 at *
  generalize hBB : w.heap.size = B at *
  have HBB := Lib.hid hBB
  have HO := Lib.hid hown
  clear hBB hown
  have HD := Lib.hid (Lib.size_eq data)
  go_loopw [6] (fun i wr => ∃ (m i0 : Nat) (l : List Int), Hid (i0 = 64 * m) ∧ i0 ≤ data.size + 63 ∧ i = .int .i64 (i0 : Int) ∧ Hid (l.length = 16) ∧ wr.heap[B]? = some (.cells (stc l) 36) ∧ Hid (i0 < data.size → l = firstL key nonce (n + m)) ∧ Own wr B1 (.slice ao data.size cap) (Lib.byteCells (mixX key nonce n data.data.toList (min i0 data.size))) ∧ Below B w wr) (fun i _ => data.size + 63 - (intOf i).toNat)
  case atStart => exact ⟨0, 0, _, Lib.hid rfl, by omega, rfl, HL0, HG1.out, Lib.hid (fun _ => rfl), by rw [Nat.zero_min, mixX_zero]; exact HO.out, hb1⟩
  case round =>
    clear HG1 hb1 HO HL0
    obtain ⟨m, i0, l, HM, hi0, rfl, HL, hg, HF, hown, hb⟩ := hrel
    have HG := Lib.hid hg; have HO := Lib.hid hown
    clear hg hown
    by_cases hlt : i0 < data.size
    · have hd : decide ((i0 : Int) < (data.size : Int)) = true := by simp; omega
      obtain ⟨e, hmin, he1, he2, he3, he4⟩ : ∃ e : Nat, min ((i0 : Int) + 64) (data.size : Int) = (e : Int) ∧ i0 < e ∧ e ≤ i0 + 64 ∧ e ≤ data.size ∧ (e < i0 + 64 → e = data.size) := ⟨min (i0 + 64) data.size, by omega, by omega, by omega, by omega, by omega⟩
      have HE := Lib.hid he4
      clear he4
      have hl0 : (Lib.byteCells (mixX key nonce n data.data.toList (min i0 data.size))).length = data.size := by rw [Lib.byteCells_length, mixX_length _ _ _ _ _ (by rw [← HD.out]; omega), ← HD.out]
      obtain ⟨g, cq, hv, hos, hgw⟩ := HO.out.some (by rw [hl0]; omega)
      rw [hl0] at hv
      simp only [Value.slice.injEq, true_and] at hv
      obtain ⟨rfl, rfl⟩ := hv
      have hcap := hos.le
      rw [hl0] at hcap
      have hgB := hos.base
      have sw := fun W => Lib.run_slice_window (P := Try.prog) W 31 5 Try.underlying31 (fun w => by simp [go_sem]) g 0 data.size cap i0 e he1 (by omega)
      simp only [Nat.zero_add] at sw
      obtain ⟨L, hL⟩ : ∃ L, i0 + L = e := ⟨e - i0, by omega⟩
      rw [show e - i0 = L by omega] at sw
      have HLe := Lib.hid hL
      have hL64 : L ≤ 64 := by omega
      have hIL : i0 + L ≤ data.size := by omega
      have hLp : 0 < L := by omega
      rw [show min i0 data.size = i0 by omega] at hos
      have HOS := Lib.hid hos
      have HI := Lib.hid (show (Try.prog.info? 36).map (·.size) = some (stc l).size from by rw [stc_size, HL.out]; exact (zero_of_info infoSt).2)
      have hlF := HF.out hlt
      subst hlF
      clear hL hos hl0 HO HF
      go_wp2_with (with_reducible refine wpList_load_row rfl 36 _ rfl B rfl 36 _ (0, 0) _ HG.out Try.underlying36 rfl HI.out ?_)
      refine (block_any _ wr HL.out).mono ?_
      rintro e W1 ⟨rfl, hb1⟩
      have HCB : Hid (chaB key nonce (n + m) = outB (roundsL (firstL key nonce (n + m)) 10) (firstL key nonce (n + m)) 16) := Lib.hid rfl
      rw [← HCB.out]
      have HLB := Lib.hid (chaB_length key nonce (n + m))
      have hlt1 := blk_lt HG.out
      have HG1 := Lib.hid (blk_below hb1 hlt1 HG.out)
      have HO1 : Hid (OwnS W1 B1 g cap (Lib.byteCells (mixX key nonce n data.data.toList i0))) := Lib.hid (HOS.out.keep (hb1.block g hgw))
      have hb2 : Below B w W1 := hb.trans (hb1.mono (by omega))
      have hgw1 : g < W1.heap.size := Nat.lt_of_lt_of_le hgw hb1.size
      have hBw1 : B < W1.heap.size := Nat.lt_of_lt_of_le hlt1 hb1.size
      have HIr := Lib.hid (show (Try.prog.info? 33).map (·.size) = some (bcells (chaB key nonce (n + m))).size from by rw [bcells_size, HLB.out]; exact HS6.out)
      have HZ := Lib.hid (show zeros64.size = (bcells (chaB key nonce (n + m))).size from by rw [bcells_size, HLB.out]; exact bcells_size _)
      have HOne := Lib.hid (bcells_one (chaB key nonce (n + m)))
      have HX := Lib.hid (blk_new W1 (.cells zeros64 33))
      clear hb1 HG HOS hb HCB sw
      go_wp2_with (with_reducible refine wpList_store_row rfl 33 _ _ rfl W1.heap.size (bcells (chaB key nonce (n + m))) rfl rfl 33 _ HX.out HIr.out HZ.out HOne.out ?_)
      have HX2 := Lib.hid (setRow_heap (W1.alloc (.cells zeros64 33)) W1.heap.size _ (bcells (chaB key nonce (n + m))) _ _ HX.out)
      have HG2 := Lib.hid (show ((W1.alloc (.cells zeros64 33)).setRow W1.heap.size (bcells (chaB key nonce (n + m)))).heap[B]? = some (.cells (stc (firstL key nonce (n + m))) 36) from (setRow_other _ _ _ _ (by omega)).trans (blk_old HG1.out))
      have HO2 : Hid (OwnS ((W1.alloc (.cells zeros64 33)).setRow W1.heap.size (bcells (chaB key nonce (n + m)))) B1 g cap (Lib.byteCells (mixX key nonce n data.data.toList i0))) := Lib.hid (HO1.out.keep ((setRow_other _ _ _ _ (by omega)).trans ((below_new W1 _).block g hgw1)))
      have hb3 : Below B w ((W1.alloc (.cells zeros64 33)).setRow W1.heap.size (bcells (chaB key nonce (n + m)))) := below_setRow (hb2.alloc (by omega) _) (by omega) _
      clear HX HG1 HO1 hb2 HIr HZ HOne
      generalize (World.setRow _ _ _) = W2 at *
      generalize W1.heap.size = X at *
      go_loopw [30] (fun iv wr => ∃ k : Nat, k ≤ L ∧ iv = .int .i64 (k : Int) ∧ wr.heap[X]? = some (.cells (bcells (chaB key nonce (n + m))) 33) ∧ wr.heap[B]? = some (.cells (stc (firstL key nonce (n + m))) 36) ∧ OwnS wr B1 g cap (Lib.byteCells (mixX key nonce n data.data.toList (i0 + k))) ∧ Below B w wr) (fun iv _ => L - (intOf iv).toNat)
      case atStart => exact ⟨0, by omega, rfl, HX2.out, HG2.out, HO2.out, hb3⟩
      case round =>
        clear HX2 HG2 HO2 hb3 hd
        obtain ⟨k, hk, rfl, hx, hg, hos, hb⟩ := hrel
        have HX := Lib.hid hx; have HG := Lib.hid hg; have HOS := Lib.hid hos
        clear hx hg hos
        by_cases hkL : k < L
        · have hd : decide ((k : Int) < (L : Int)) = true := by simp; omega
          have hi : i0 + k < data.data.toList.length := by rw [← HD.out]; omega
          have hdiv : (i0 + k) / 64 = m := by have := HM.out; omega
          have hmod : (i0 + k) % 64 = k := by have := HM.out; omega
          have hcl : (Lib.byteCells (mixX key nonce n data.data.toList (i0 + k))).length = data.size := by rw [Lib.byteCells_length, mixX_length _ _ _ _ _ (by omega), ← HD.out]
          have hset := mixX_set key nonce n data.data.toList (i0 + k) hi
          rw [hdiv, hmod] at hset
          have hpart : wr.cell? ⟨g, i0 + k, none⟩ = some (.int .u8 ((data.data.toList[i0 + k].toNat : Nat) : Int)) := HOS.out.cells (i0 + k) _ (by simp only [Lib.byteCells, List.getElem?_map, mixX_get _ _ _ _ _ hi]; rfl)
          have hblk : wr.cell? ⟨X, k, none⟩ = some (.int .u8 ((((chaB key nonce (n + m)).getD k 0).toNat : Nat) : Int)) := cells_of_bcells HX.out k _ (by rw [List.getD_eq_getElem?_getD, List.getElem?_eq_getElem (by rw [HLB.out]; omega)]; rfl)
          have hfz := (HOS.out.room (i0 + k) (by omega)).2
          have HSET := Lib.hid hset
          have HV := Lib.hid (xorB_toNat ((((chaB key nonce (n + m)).getD k 0).toNat : Nat) : Int) data.data.toList[i0 + k])
          have HCL := Lib.hid hcl
          clear hset hdiv hmod hcl
          generalize ((((chaB key nonce (n + m)).getD k 0).toNat : Nat) : Int) = y at *
          generalize data.data.toList[i0 + k] = x at *
          go_wp2_with fail
          have q1 := cell_regrown hpart
          have q2 := cell_regrown hblk
          refine wp_region_reads_tail 9 (by kernel_rfl) (by kernel_rfl) ?_
          simp only [List.take_succ_cons, List.take_zero, List.drop_succ_cons, List.drop_zero]
          repeat (first | go_big_quiet_step (fail) | quiet_step (fail))
          refine wpQuiet_nil ?_
          intro W4 hb4
          have hXw := blk_lt HX.out
          have hBw := blk_lt HG.out
          have hgl : g < wr.heap.size := HOS.out.lt (by omega)
          have HX4 := Lib.hid (blk_below hb4 hXw HX.out)
          have HG4 := Lib.hid (blk_below hb4 hBw HG.out)
          have HOS4 := Lib.hid (HOS.out.keep (hb4.block g hgl))
          have hbb : Below B w W4 := hb.trans (hb4.mono (by omega))
          have c4 : W4.cell? ⟨g, i0 + k, none⟩ = some (.int .u8 ((x.toNat : Nat) : Int)) := (hb4.cell (p := ⟨g, i0 + k, none⟩) hgl).trans hpart
          have f4 : W4.frozen? ⟨g, i0 + k, none⟩ = false := (hb4.frozen (p := ⟨g, i0 + k, none⟩) hgl).trans hfz
          have HOS5 := Lib.hid (HOS4.out.set (i0 + k) (by rw [HCL.out]; omega) (.int .u8 (bits .xor .u8 (x.toNat : Int) y)))
          have HN : Hid ((Lib.byteCells (mixX key nonce n data.data.toList (i0 + k))).set (i0 + k) (.int .u8 (bits .xor .u8 (x.toNat : Int) y)) = Lib.byteCells (mixX key nonce n data.data.toList (i0 + (k + 1)))) := Lib.hid (by
            rw [← HV.out, ← Nat.add_assoc, ← HSET.out]
            simp only [Lib.byteCells, List.map_set])
          rw [HN.out] at HOS5
          have HX5 := Lib.hid (show (W4.setCell ⟨g, i0 + k, none⟩ (.int .u8 (bits .xor .u8 (x.toNat : Int) y))).heap[X]? = some (.cells (bcells (chaB key nonce (n + m))) 33) from by rw [heap_setCell_other _ _ _ _ (by simp; omega)]; exact HX4.out)
          have HG5 := Lib.hid (show (W4.setCell ⟨g, i0 + k, none⟩ (.int .u8 (bits .xor .u8 (x.toNat : Int) y))).heap[B]? = some (.cells (stc (firstL key nonce (n + m))) 36) from by rw [heap_setCell_other _ _ _ _ (by simp; omega)]; exact HG4.out)
          have hb5 : Below B w (W4.setCell ⟨g, i0 + k, none⟩ (.int .u8 (bits .xor .u8 (x.toNat : Int) y))) := hbb.setCell (by simp; omega) _
          clear q1 q2 hpart hblk hfz hb4 hbb HOS HX HG hb HOS4 HX4 HG4 HSET HV hXw hBw hgl
          go_wp2_with fail
          go_roundw
          case rel => exact ⟨k + 1, by omega, by go_num, HX5.out, HG5.out, HOS5.out, hb5⟩
          case measure => simp [intOf]; omega
        · have hd : decide ((k : Int) < (L : Int)) = false := by simp; omega
          obtain rfl : k = L := by omega
          have hc : wr.cell? ⟨B, 12, none⟩ = some (.int .u32 ((n + m : Nat) : Int)) := by
            rw [cell_of_row wr _ _ _ _ _ HG.out]
            have := stc_get (firstL key nonce (n + m)) 12 (by rw [firstL_length]; omega)
            rw [firstL_at] at this
            exact this
          have hf : wr.frozen? ⟨B, 12, none⟩ = false := frozen_of_row wr _ _ _ _ HG.out
          obtain ⟨nm, hnm⟩ : ∃ nm : Nat, nm = n + m := ⟨_, rfl⟩
          rw [← hnm] at hc
          have HNM := Lib.hid hnm
          clear hnm
          have HR2 := Lib.hid (show ∀ z : Int, (wr.setCell ⟨B, 12, none⟩ (.int .u32 z)).heap[B]? = some (.cells (stc ((firstL key nonce (n + m)).set 12 z)) 36) from fun z => by rw [← stc_set]; exact Go.heap_setCell_same _ _ _ _ _ _ HG.out)
          have HO2 := Lib.hid (show ∀ z, OwnS (wr.setCell ⟨B, 12, none⟩ z) B1 g cap (Lib.byteCells (mixX key nonce n data.data.toList (i0 + k))) from fun z => HOS.out.keep (heap_setCell_other _ _ _ _ (by simp; omega)))
          have hb2 : ∀ z, Below B w (wr.setCell ⟨B, 12, none⟩ z) := fun z => hb.setCell (by simp) _
          have HB2 := Lib.hid hb2
          have HMn := Lib.hid (show min (i0 + 64) data.size = i0 + k from by have := HE.out; have := HLe.out; omega)
          have hnl : (Lib.byteCells (mixX key nonce n data.data.toList (i0 + k))).length = data.size := by rw [Lib.byteCells_length, mixX_length _ _ _ _ _ (by rw [← HD.out]; omega), ← HD.out]
          clear HX HG HOS hb hb2
          go_wp2_with fail
          go_roundw
          case rel =>
            refine ⟨m + 1, i0 + 64, _, Lib.hid (by have := HM.out; omega), by omega, by go_num, ?_, HR2.out _, ?_, ?_, HB2.out _⟩
            · exact Lib.hid (by rw [List.length_set, firstL_length])
            · refine Lib.hid (fun hh => ?_)
              rw [HNM.out, show (((n + m : Nat) : Int) + 1) % 4294967296 = ((n + m : Nat) : Int) + 1 by have := HM.out; omega, firstL_next]
              rfl
            · rw [HMn.out]
              have := HO2.out (.int .u32 (((nm : Int) + 1) % 4294967296))
              exact .inr ⟨g, cap, by rw [hnl], this⟩
          case measure => simp [intOf]; omega
    · have hd : decide ((i0 : Int) < (data.size : Int)) = false := by simp; omega
      have HO' := Lib.hid (show Own wr B1 (.slice ao data.size cap) (Lib.byteCells (chaX key nonce n data.data.toList data.size)) from by
        have := HO.out
        rw [show min i0 data.size = data.size by omega] at this
        have hm := mixX_full key nonce n data.data.toList
        rw [← HD.out] at hm
        rw [← hm]; exact this)
      have hcv : (convert 31 9 (.slice ao data.size cap)).run Try.prog wr = .ok (.string ⟨(chaX key nonce n data.data.toList data.size).toArray⟩) wr := by
        rcases HO'.out with ⟨hv, hnil⟩ | ⟨g, cap', hv, hoO⟩
        · have h0 : data.size = 0 := by simpa [Lib.byteCells, ← List.length_eq_zero_iff, chaX_length] using hnil
          simp only [Value.slice.injEq] at hv
          obtain ⟨rfl, _, rfl⟩ := hv
          have e0 : chaX key nonce n data.data.toList data.size = [] := by rw [h0]; rfl
          rw [e0, h0]
          exact run_string_nil wr
        · rw [Lib.byteCells_length, chaX_length] at hv
          simp only [Value.slice.injEq, true_and] at hv
          obtain ⟨rfl, rfl⟩ := hv
          have := run_string_row wr g cap (chaX key nonce n data.data.toList data.size) (fun j x hx => hoO.cells j _ (by simp [Lib.byteCells, hx]))
          rwa [chaX_length] at this
      clear HO HO' HF HM HG
      go_wp2_with fail
      go_ret
      exact ⟨rfl, by rw [HBB.out]; exact hb⟩
end Go.Proofs.Ytnjeelfeaiakpaa
