/- Mac, Extract, expanded, Expand and Same of package mac. -/
import Derived.Test.YthcfolefdalaiaaDoorMac32
import Derived.Test.YthcfolefdalaiaaDoorMac64
import Derived.Test.YthcfolefdalaiaaDoorBits8
import Derived.Lib.AppendStr
namespace Go.Proofs.YthcfolefdalaiaaDoor
open Go.RowKit Go.Sort
set_option maxRecDepth 100000
set_option linter.unusedSimpArgs false
set_option linter.unusedVariables false

theorem mac32_any (key data : ByteArray) (w : World) (hK : TabK w kf) (hH : TabH w hf) (hk : key.size ≤ 1099511627776) (hs : data.size ≤ 549755813888) :
    Calls Tryd.prog 21 #[.int .i64 32, .string key, .string data] w fun e w' => e = .returned (.tuple #[.string ⟨(mac32 key.data.toList data.data.toList).toArray⟩, .int .i64 0]) ∧ Below w.heap.size w w' := by
  have HL := Lib.hid (blockL_length _ (Nat.le_trans (keyOf32_length key.data.toList) (by omega)))
  have HM : Hid (mac32 key.data.toList data.data.toList = code32 (blockL (keyOf32 key.data.toList)) data.data.toList) := Lib.hid rfl
  go_enter Tryd.func21, Tryd.ntmps21
  go_wp2_with fail
  refine (blockKeyOf32 key w hK hH hk).mono ?_
  rintro e W1 ⟨rfl, hb1⟩
  generalize blockL (keyOf32 key.data.toList) = b at *
  go_wp2_with fail
  refine (code32_any b data W1 HL.out (hK.below hb1 hK.lt) (hH.below hb1 hH.lt) hs).mono ?_
  rintro e W2 ⟨rfl, hb2⟩
  go_wp2_with fail
  go_ret2
  exact ⟨by rw [HM.out]; rfl, hb1.trans (hb2.mono hb1.size)⟩
theorem mac64_any (key data : ByteArray) (w : World) (hK : TabK w kf) (hH : TabH w hf) (hk : key.size ≤ 1099511627776) (hs : data.size ≤ 549755813888) :
    Calls Tryd.prog 21 #[.int .i64 64, .string key, .string data] w fun e w' => e = .returned (.tuple #[.string ⟨(mac64 key.data.toList data.data.toList).toArray⟩, .int .i64 0]) ∧ Below w.heap.size w w' := by
  have HL := Lib.hid (blockL_length _ (keyOf64_length key.data.toList))
  have HM : Hid (mac64 key.data.toList data.data.toList = code64 (blockL (keyOf64 key.data.toList)) data.data.toList) := Lib.hid rfl
  go_enter Tryd.func21, Tryd.ntmps21
  go_wp2_with fail
  refine (blockKeyOf64 key w hK hH hk).mono ?_
  rintro e W1 ⟨rfl, hb1⟩
  generalize blockL (keyOf64 key.data.toList) = b at *
  go_wp2_with fail
  refine (code64_any b data W1 HL.out (hK.below hb1 hK.lt) (hH.below hb1 hH.lt) hs).mono ?_
  rintro e W2 ⟨rfl, hb2⟩
  go_wp2_with fail
  go_ret2
  exact ⟨by rw [HM.out]; rfl, hb1.trans (hb2.mono hb1.size)⟩
theorem macNone_any (size : Int) (key data : ByteArray) (w : World) (h1 : size ≠ 32) (h2 : size ≠ 64) :
    Calls Tryd.prog 21 #[.int .i64 size, .string key, .string data] w fun e w' => e = .returned (.tuple #[.string ⟨#[]⟩, .int .i64 1]) ∧ Below w.heap.size w w' := by
  have hd1 : (size != 32) = true := by simpa using h1
  have hd2 : (size != 64) = true := by simpa using h2
  go_enter Tryd.func21, Tryd.ntmps21
  go_wp2_with fail
  go_ret2
  exact ⟨rfl, Below.refl _ _⟩
theorem extract_any (salt input : ByteArray) (w : World) (hK : TabK w kf) (hH : TabH w hf) (hk : salt.size ≤ 1099511627776) (hs : input.size ≤ 549755813888) :
    Calls Tryd.prog 23 #[.string salt, .string input] w fun e w' => e = .returned (.string ⟨(mac32 salt.data.toList input.data.toList).toArray⟩) ∧ Below w.heap.size w w' := by
  have HL := Lib.hid (blockL_length _ (Nat.le_trans (keyOf32_length salt.data.toList) (by omega)))
  have HM : Hid (mac32 salt.data.toList input.data.toList = code32 (blockL (keyOf32 salt.data.toList)) input.data.toList) := Lib.hid rfl
  go_enter Tryd.func23, Tryd.ntmps23
  go_wp2_with fail
  refine (blockKeyOf32 salt w hK hH hk).mono ?_
  rintro e W1 ⟨rfl, hb1⟩
  generalize blockL (keyOf32 salt.data.toList) = b at *
  go_wp2_with fail
  refine (code32_any b input W1 HL.out (hK.below hb1 hK.lt) (hH.below hb1 hH.lt) hs).mono ?_
  rintro e W2 ⟨rfl, hb2⟩
  go_wp2_with fail
  go_ret
  exact ⟨by rw [HM.out]; rfl, hb1.trans (hb2.mono hb1.size)⟩

set_option maxHeartbeats 1000000 in
theorem same_any (a b : ByteArray) (w : World) (ha : a.size ≤ maxLen) (hb' : b.size ≤ maxLen) :
    Calls Tryd.prog 29 #[.string a, .string b] w fun e w' => e = .returned (.bool (a.data.toList == b.data.toList)) ∧ Below w.heap.size w w' := by
  unfold maxLen at ha hb'
  by_cases hne : a.size = b.size
  · have hd : ((a.size : Int) != (b.size : Int)) = false := by simp [hne]
    go_enter Tryd.func29, Tryd.ntmps29
    go_wp2_with fail
    go_loopw [5, 14] (fun d i wr => ∃ (k dd : Nat), k ≤ a.size ∧ i = .int .i64 k ∧ d = .int .u8 (dd : Int) ∧ dd < 256 ∧ (dd = 0 ↔ a.data.toList.take k = b.data.toList.take k) ∧ Below w.heap.size w wr) (fun _ i _ => a.size - (intOf i).toNat)
    case atStart => exact ⟨0, 0, by omega, rfl, rfl, by omega, by simp, Below.refl _ _⟩
    case round =>
      obtain ⟨k, dd, hk, rfl, rfl, hdd, hiff, hbl⟩ := hrel
      by_cases hlt : k < a.size
      · have hd1 : decide ((k : Int) < (a.size : Int)) = true := by simp; omega
        have hlb : k < b.size := by omega
        have hlb' : (k : Int) < (b.size : Int) := by omega
        have HI := Lib.hid hiff
        clear hiff
        go_wp2_with fail
        go_quiet (fail)
        obtain ⟨z, hz, hz1, hz2⟩ : ∃ z : Nat, bits .or .u8 (dd : Int) (bits .xor .u8 (a[k].toNat : Int) (b[k].toNat : Int)) = (z : Int) ∧ z < 256 ∧ (z = 0 ↔ dd = 0 ∧ a[k].toNat = b[k].toNat) := by
          obtain ⟨h0, h1⟩ := bits8_range .or (dd : Int) (bits .xor .u8 (a[k].toNat : Int) (b[k].toNat : Int))
          have h2 := or_xor_zero dd a[k].toNat b[k].toNat hdd (UInt8.toNat_lt _) (UInt8.toNat_lt _)
          exact ⟨_, (Int.toNat_of_nonneg h0).symm, by omega, by rw [← h2]; omega⟩
        rw [hz]
        have HZ := Lib.hid hz2
        clear hz hz2
        go_wp2_with fail
        go_roundw
        case rel =>
          refine ⟨k + 1, z, by omega, by go_num, rfl, hz1, ?_, below_drewN hbl _⟩
          have e1 : a.data.toList.take (k + 1) = a.data.toList.take k ++ [a[k]] := List.take_succ_eq_append_getElem (by rw [← Lib.size_eq]; exact hlt)
          have e2 : b.data.toList.take (k + 1) = b.data.toList.take k ++ [b[k]] := List.take_succ_eq_append_getElem (by rw [← Lib.size_eq]; exact hlb)
          rw [e1, e2, HZ.out, HI.out, UInt8.toNat_inj]
          constructor
          · rintro ⟨h1, h2⟩; rw [h1, h2]
          · intro h
            have hl : (a.data.toList.take k).length = (b.data.toList.take k).length := by rw [List.length_take, List.length_take, ← Lib.size_eq, ← Lib.size_eq, hne]
            obtain ⟨h1, h2⟩ := List.append_inj h hl
            exact ⟨h1, by simpa using h2⟩
        case measure => simp [intOf]; omega
      · have hd1 : decide ((k : Int) < (a.size : Int)) = false := by simp; omega
        obtain rfl : k = a.size := by omega
        have HR : Hid ((((dd : Nat) : Int) == 0) = (a.data.toList == b.data.toList)) := Lib.hid (by
          rw [List.take_of_length_le (by rw [← Lib.size_eq]; omega), List.take_of_length_le (by rw [← Lib.size_eq]; omega)] at hiff
          by_cases hz : dd = 0
          · rw [hz, hiff.1 hz]; simp
          · have : ¬ a.data.toList = b.data.toList := fun h => hz (hiff.2 h)
            have h1 : (((dd : Nat) : Int) == 0) = false := by simp; omega
            rw [h1]; simpa using this)
        clear hiff
        go_wp2_with fail
        go_ret
        exact ⟨by rw [← HR.out]; rfl, hbl⟩
  · have hd : ((a.size : Int) != (b.size : Int)) = true := by simp; omega
    have HR : Hid ((a.data.toList == b.data.toList) = false) := Lib.hid (by
      have : ¬ a.data.toList = b.data.toList := fun h => hne (by rw [Lib.size_eq, Lib.size_eq, h])
      simpa using this)
    go_enter Tryd.func29, Tryd.ntmps29
    go_wp2_with fail
    go_ret
    exact ⟨by rw [HR.out]; rfl, Below.refl _ _⟩

/-- 'append', its run told. -/
theorem wpList_append_run {P : Program} {w : World} {ops : Array Oper} {rest : List Oper} {o : Oper} {a : Act} {Q : Exit → Act → World → Prop} (hgd : o.guard = none) (sl x : Operand) (t u : TypeId)
    (ho : o.op = .call { callee := .builtin .append, args := #[sl, x], argTypes := #[t, u] }) (v vx v' : Value) (w' : World) (hs : a.eval sl = v) (hx : a.eval x = vx)
    (hr : (Builtin.append_ #[t, u] o.type #[v, vx]).run P w = .ok v' w') (h : wpList P ops Q rest (a.put o.dst v') w') : wpList P ops Q (o :: rest) a w := by
  refine wpList_plain hgd fun K hK => ?_
  unfold Oper.wp execOp
  simp only [ho, resolve, invoke, builtin, Sem.run_bind, Sem.run_pure, Result.andThen_ok, List.map_toArray, List.map_cons, List.map_nil, hs, hx, hr]
  exact hK _ _ h
def sliceLn (v : Value) : Nat := match v with | .slice _ n _ => n | _ => 0
/-- expanded: the first n bytes of the codes. -/
def zerosN (n : Nat) : Array Value := bcells (List.replicate n 0)
def outRow (b info : List UInt8) (n i : Nat) : Array Value := bcells (outL b info i ++ List.replicate (n + 32 - 32 * i) 0)
theorem outRow_zero (b info : List UInt8) (n : Nat) : outRow b info n 0 = zerosN (n + 32) := by simp [outRow, zerosN, outL]
theorem outRow_get (b info : List UInt8) (n i j : Nat) (x : UInt8) (h : (outL b info i)[j]? = some x) : (outRow b info n i)[j]? = some (.int .u8 x.toNat) := by
  have hj := (List.getElem?_eq_some_iff.1 h).1
  exact bcells_get _ _ _ (by rw [List.getElem?_append_left hj]; exact h)
theorem outRow_append (b info : List UInt8) (n i : Nat) (h : 32 * (i + 1) ≤ n + 32) (t : ByteArray) (ht : t.data.toList = tL b info (i + 1)) :
    ((outRow b info n i).toList.take (32 * i) ++ Lib.strCells t ++ (outRow b info n i).toList.drop (32 * i + t.size)).toArray = outRow b info n (i + 1) := by
  have hlo := outL_length b info i
  have hlt : t.size = 32 := by rw [Lib.size_eq, ht, tL, code32_length]
  have e : Lib.strCells t = Lib.byteCells (tL b info (i + 1)) := by rw [Lib.strCells, ht]; rfl
  rw [e, hlt, outRow, bcells, List.toList_toArray, outRow, bcells, outL, Lib.byteCells, Lib.byteCells, Lib.byteCells]
  congr 1
  rw [← List.map_take, ← List.map_drop, List.take_append_of_le_length (by omega), List.take_of_length_le (by omega), List.drop_append, List.drop_of_length_le (by omega), List.nil_append, List.drop_replicate, hlo, ← List.map_append, ← List.map_append]
  congr 3
  omega
set_option maxHeartbeats 2000000 in
theorem expanded_any (b : List UInt8) (info : ByteArray) (n : Nat) (w : World) (hl : b.length = 128) (hK : TabK w kf) (hH : TabH w hf) (hs : info.size ≤ 274877906944) (hn : n ≤ 8160) :
    Calls Tryd.prog 48 #[.agg (bkc b), .string info, .int .i64 (n : Int)] w fun e w' => e = .returned (.string ⟨(expL b info.data.toList n).toArray⟩) ∧ Below w.heap.size w w' := by
  have HI := Lib.hid (show (Tryd.prog.info? 75).map (·.size) = some (bkc b).size from by rw [bkc_size, hl]; exact (zero_of_info infoBk).2)
  have hB := below_new w (.cells (bkc b) 75)
  have HG := Lib.hid (blk_new w (.cells (bkc b) 75))
  have hK0 := hK.below hB hK.lt; have hH0 := hH.below hB hH.lt
  obtain ⟨i0, hi, hz0, hz1, hz2⟩ := info_parts info_u8
  have hmk : ∀ W : World, (Instr.makeSlice 46 (.int .i64 0) (.int .i64 ((n : Int) + 32))).run Tryd.prog W = .ok (.slice (some ⟨W.heap.size, 0, none⟩) 0 (n + 32)) (W.alloc (.cells (zerosN (n + 32)) 5)) := fun W => by
    have h := run_make (P := Tryd.prog) W 46 5 i0 (.int .u8 0) Tryd.underlying46 hi hz0 .i64 .i64 0 ((n : Int) + 32) (by omega) (by omega) (by rw [hz2]; omega) (by omega)
    rw [hz1, made_zero, show ((n : Int) + 32).toNat = n + 32 by omega, Nat.mul_one] at h
    simpa [zerosN] using h
  have hG1 : ((w.alloc (.cells (bkc b) 75)).alloc (.cells (zerosN (n + 32)) 5)).heap[w.heap.size + 1]? = some (.cells (outRow b info.data.toList n 0) 5) := by rw [outRow_zero]; exact blk_new2 w _ _
  have hB1 := below_new2 w (.cells (bkc b) 75) (.cells (zerosN (n + 32)) 5)
  have hG0 : ((w.alloc (.cells (bkc b) 75)).alloc (.cells (zerosN (n + 32)) 5)).heap[w.heap.size]? = some (.cells (bkc b) 75) := blk_old HG.out
  have hK1 := hK.below hB1 hK.lt; have hH1 := hH.below hB1 hH.lt
  have hgK := hK.lt; have hgH := hH.lt
  clear HG hB hK0 hH0
  have HG0 := Lib.hid hG0; have HG1 := Lib.hid hG1
  clear hG0 hG1
  go_enter Tryd.func48, Tryd.ntmps48
  go_wp2_with fail
  generalize ((w.alloc _).alloc _) = W at *
  generalize hBB : w.heap.size = B at *
  have HBB := Lib.hid hBB
  clear hBB hK hH hmk
  go_loopw [7, 8, 9] (fun o t u wr => ∃ i : Nat, 32 * i < n + 32 ∧ o = .slice (some ⟨B + 1, 0, none⟩) (32 * i) (n + 32) ∧ t = .string ⟨(tL b info.data.toList i).toArray⟩ ∧ u = .int .u8 (((i + 1) % 256 : Nat) : Int) ∧ wr.heap[B]? = some (.cells (bkc b) 75) ∧ wr.heap[B + 1]? = some (.cells (outRow b info.data.toList n i) 5) ∧ TabK wr kf ∧ TabH wr hf ∧ Below B w wr) (fun o _ _ _ => n + 32 - sliceLn o)
  case atStart => exact ⟨0, by omega, rfl, rfl, rfl, HG0.out, HG1.out, hK1, hH1, hB1⟩
  case round =>
    clear HG0 HG1 hK1 hH1 hB1
    obtain ⟨i, hin, rfl, rfl, rfl, hg0, hg1, hK1, hH1, hb⟩ := hrel
    have HG0 := Lib.hid hg0; have HG1 := Lib.hid hg1
    clear hg0 hg1
    by_cases hlt : 32 * i < n
    · have hd : decide (32 * (i : Int) < (n : Int)) = true := by simp; omega
      have hnum : (i + 1) % 256 = i + 1 := by omega
      rw [hnum]
      have hi255 : i < 255 := by omega
      have htl := tL_length b info.data.toList i
      have hts : (⟨(tL b info.data.toList i).toArray⟩ : ByteArray).size ≤ 32 := by rw [Lib.size_eq]; simpa using htl
      have HTn : Hid (tL b info.data.toList (i + 1) = code32 b (tL b info.data.toList i ++ info.data.toList ++ [UInt8.ofNat (i + 1)])) := Lib.hid rfl
      obtain ⟨x1, hx1⟩ : ∃ x1 : ByteArray, x1 = ⟨[UInt8.ofNat (i + 1)].toArray⟩ := ⟨_, rfl⟩
      have HD := Lib.hid (show (((⟨(tL b info.data.toList i).toArray⟩ : ByteArray) ++ info) ++ x1).data.toList = tL b info.data.toList i ++ info.data.toList ++ [UInt8.ofNat (i + 1)] from by rw [hx1]; simp)
      have hx1s : x1.size = 1 := by rw [hx1, Lib.size_eq]; rfl
      generalize (⟨(tL b info.data.toList i).toArray⟩ : ByteArray) = ts at *
      have hcv := run_string_row (wr.alloc (.cells #[.int .u8 ((i : Int) + 1)] 5)) wr.heap.size 1 [UInt8.ofNat (i + 1)] (fun j x hx => by
        have hj : j = 0 := by have := (List.getElem?_eq_some_iff.1 hx).1; simpa using this
        subst hj
        obtain rfl : UInt8.ofNat (i + 1) = x := by simpa using hx
        rw [cell_of_row _ _ _ _ _ _ (blk_new wr _)]
        have : (UInt8.ofNat (i + 1)).toNat = i + 1 := by simp; omega
        rw [this]; rfl)
      simp only [List.length_cons, List.length_nil, Nat.zero_add] at hcv
      rw [← hx1] at hcv
      have hlt0 := blk_lt HG0.out; have hlt1 := blk_lt HG1.out
      have hbn := below_new wr (.cells #[.int .u8 ((i : Int) + 1)] 5)
      have hKn := hK1.below hbn hK1.lt; have hHn := hH1.below hbn hH1.lt
      have hbw : Below B w (wr.alloc (.cells #[.int .u8 ((i : Int) + 1)] 5)) := hb.alloc (by omega) _
      have HGn0 := Lib.hid (blk_old (o := .cells #[.int .u8 ((i : Int) + 1)] 5) HG0.out)
      have HGn1 := Lib.hid (blk_old (o := .cells #[.int .u8 ((i : Int) + 1)] 5) HG1.out)
      clear hx1 hb hbn hK1 hH1
      go_wp2_with (with_reducible refine wpList_load_row rfl 75 _ rfl B rfl 75 _ (0, 0) _ HG0.out Tryd.underlying75 rfl HI.out ?_)
      clear hcv
      generalize (wr.alloc _) = Wn at *
      have hsd : (ts ++ info ++ x1).size ≤ 549755813888 := by rw [ByteArray.size_append, ByteArray.size_append]; omega
      refine (code32_any b (ts ++ info ++ x1) Wn hl hKn hHn hsd).mono ?_
      rintro e W5 ⟨rfl, hb5⟩
      rw [HD.out, ← HTn.out]
      have hltn0 := blk_lt HGn0.out; have hltn1 := blk_lt HGn1.out
      have HG50 := Lib.hid (blk_below hb5 hltn0 HGn0.out); have HG51 := Lib.hid (blk_below hb5 hltn1 HGn1.out)
      have hK5 := hKn.below hb5 hKn.lt; have hH5 := hHn.below hb5 hHn.lt
      have hbw5 : Below B w W5 := hbw.trans (hb5.mono (Nat.le_of_lt hltn0))
      have hto := outRow_append b info.data.toList n i (by omega) ⟨(tL b info.data.toList (i + 1)).toArray⟩ (by simp)
      have hts1 : (⟨(tL b info.data.toList (i + 1)).toArray⟩ : ByteArray).size = 32 := by rw [Lib.size_eq, HTn.out]; simp [code32_length]
      have hap := Lib.run_append_room_string (P := Tryd.prog) W5 46 9 46 5 i0 Tryd.underlying46 Tryd.underlying9 hi hz1 (B + 1) (32 * i) (n + 32) (outRow b info.data.toList n i) HG51.out ⟨(tL b info.data.toList (i + 1)).toArray⟩ (by omega) (by rw [outRow, bcells_size, List.length_append, outL_length, List.length_replicate]; omega)
      rw [hto, hts1] at hap
      have HTT : Hid ((⟨(tL b info.data.toList (i + 1)).toArray⟩ : ByteArray) = ⟨(tL b info.data.toList (i + 1)).toArray⟩) := Lib.hid rfl
      have HF0 := Lib.hid (show (W5.setRow (B + 1) (outRow b info.data.toList n (i + 1))).heap[B]? = some (.cells (bkc b) 75) from (setRow_other _ _ _ _ (by omega)).trans HG50.out)
      have HF1 := Lib.hid (show (W5.setRow (B + 1) (outRow b info.data.toList n (i + 1))).heap[B + 1]? = some (.cells (outRow b info.data.toList n (i + 1)) 5) from setRow_heap _ _ _ _ _ _ HG51.out)
      have hBF : Below B w (W5.setRow (B + 1) (outRow b info.data.toList n (i + 1))) := below_setRow hbw5 (by omega) _
      have hb55 : Below (B + 1) W5 (W5.setRow (B + 1) (outRow b info.data.toList n (i + 1))) := below_setRow (Below.refl _ _) (Nat.le_refl _) _
      clear HG0 HG1 HGn0 HGn1 HG50 HG51 hKn hHn hbw hb5 hto hbw5
      have HAP := Lib.hid hap
      clear hap
      go_wp2_with (at_builtin; refine wpList_append_run rfl (.tmp 28) (.tmp 29) 46 9 rfl _ _ _ _ rfl rfl HAP.out ?_)
      go_roundw
      case rel =>
        refine ⟨i + 1, by omega, by rw [Nat.mul_succ], rfl, ?_, HF0.out, HF1.out, hK5.below hb55 (Nat.lt_succ_of_lt hgK), hH5.below hb55 (Nat.lt_succ_of_lt hgH), hBF⟩
        exact congrArg (Value.int .u8) (by omega)
      case measure => simp [sliceLn]; omega
    · have hd : decide (32 * (i : Int) < (n : Int)) = false := by simp; omega
      have hii : (n + 31) / 32 = i := by omega
      have HE := Lib.hid (show expL b info.data.toList n = (outL b info.data.toList i).take n from by rw [expL, hii])
      have hel := expL_length b info.data.toList n
      have hcv := run_string_row wr (B + 1) (n + 32) (expL b info.data.toList n) (fun j x hx => by
        rw [cell_of_row _ _ _ _ _ _ HG1.out]
        rw [HE.out, List.getElem?_take] at hx
        split at hx
        · exact outRow_get _ _ _ _ _ _ hx
        · cases hx)
      rw [hel] at hcv
      clear hel hii HG0 HG1
      go_wp2_with fail
      go_ret
      exact ⟨rfl, by rw [HBB.out]; exact hb⟩

theorem expand_any (key info : ByteArray) (n : Nat) (w : World) (hK : TabK w kf) (hH : TabH w hf) (hk : key.size ≤ 1099511627776) (hs : info.size ≤ 274877906944) (hn : n ≤ 8160) :
    Calls Tryd.prog 25 #[.string key, .string info, .int .i64 (n : Int)] w fun e w' => e = .returned (.tuple #[.string ⟨(expL (blockL (keyOf32 key.data.toList)) info.data.toList n).toArray⟩, .int .i64 0]) ∧ Below w.heap.size w w' := by
  have HL := Lib.hid (blockL_length _ (Nat.le_trans (keyOf32_length key.data.toList) (by omega)))
  have hd1 : decide ((n : Int) < 0) = false := by simp
  have hd2 : decide ((8160 : Int) < (n : Int)) = false := by simp; omega
  go_enter Tryd.func25, Tryd.ntmps25
  go_wp2_with fail
  refine (blockKeyOf32 key w hK hH hk).mono ?_
  rintro e W1 ⟨rfl, hb1⟩
  generalize hbk : blockL (keyOf32 key.data.toList) = b at *
  have HBK := Lib.hid hbk
  clear hbk
  go_wp2_with fail
  refine (expanded_any b info n W1 HL.out (hK.below hb1 hK.lt) (hH.below hb1 hH.lt) hs hn).mono ?_
  rintro e W2 ⟨rfl, hb2⟩
  go_wp2_with fail
  go_ret2
  exact ⟨by rw [HBK.out]; rfl, hb1.trans (hb2.mono hb1.size)⟩
theorem expandNeg_any (key info : ByteArray) (n : Int) (w : World) (hn : n < 0) :
    Calls Tryd.prog 25 #[.string key, .string info, .int .i64 n] w fun e w' => e = .returned (.tuple #[.string ⟨#[]⟩, .int .i64 1]) ∧ Below w.heap.size w w' := by
  have hd1 : decide (n < 0) = true := by simp; omega
  go_enter Tryd.func25, Tryd.ntmps25
  go_wp2_with fail
  go_ret2
  exact ⟨rfl, Below.refl _ _⟩
theorem expandBig_any (key info : ByteArray) (n : Int) (w : World) (hn : 8160 < n) :
    Calls Tryd.prog 25 #[.string key, .string info, .int .i64 n] w fun e w' => e = .returned (.tuple #[.string ⟨#[]⟩, .int .i64 13]) ∧ Below w.heap.size w w' := by
  have hd1 : decide (n < 0) = false := by simp; omega
  have hd2 : decide ((8160 : Int) < n) = true := by simp; omega
  go_enter Tryd.func25, Tryd.ntmps25
  go_wp2_with fail
  go_ret2
  exact ⟨rfl, Below.refl _ _⟩
end Go.Proofs.YthcfolefdalaiaaDoor
