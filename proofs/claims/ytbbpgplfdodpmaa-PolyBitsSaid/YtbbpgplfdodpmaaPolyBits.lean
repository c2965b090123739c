/- PolyBits: for every key of 32 bytes, all data up to 5000 bytes and any seven bytes of bits the tag is the same with the bits that do not count turned; the chapter's example holds. No condition. -/
import Derived.Test.YtbbpgplfdodpmaaRows
import Derived.ProofKit
import Derived.OpenShut
import Derived.Lib.SmallJoins
import Derived.Test.YtbbpgplfdodpmaaPolyMask
import Derived.Test.YtbbpgplfdodpmaaOwn
import Derived.Test.YtbbpgplfdodpmaaArgN
namespace Go.Proofs.Ytbbpgplfdodpmaa
open Go.ChangeShapes Go.WideShapes Go.ChangeAt Go.WideMaps Go.WideElems Go.RowKit
open Go.ChangeMaps (open_string shut_string)
set_option maxRecDepth 100000
set_option linter.unusedSimpArgs false
set_option linter.unusedVariables false

set_option maxHeartbeats 4000000 in
theorem polyBits_any (k d : ByteArray) (bl : List Int) (w : World) (_ : k.size ≤ maxLen) (_ : d.size ≤ maxLen) (hbl : bl.length = 7) (_ : ∀ x ∈ bl, (Lit.int .u8 x).wf = true) :
    Calls Try.prog 5 #[.string k, .string d, .agg (bl.map (Value.int .u8)).toArray] w fun e w' => e = .returned (.bool true) ∧ Below w.heap.size w w' := by
  have hB0 := below_new w (.cells (bl.map (Value.int .u8)).toArray 28)
  have hsz0 : w.heap.size ≤ (w.alloc (.cells (bl.map (Value.int .u8)).toArray 28)).heap.size := by simp
  by_cases hk : k.size = 32
  · by_cases hdd : d.size ≤ 5000
    · have hd1 : ((k.size : Int) != 32) = false := by simp [hk]
      have hd2 : decide ((5000 : Int) < (d.size : Int)) = false := by simp; omega
      have hkl : k.data.toList.length = 32 := by rw [← Lib.size_eq]; exact hk
      obtain ⟨t, ht⟩ : ∃ t : ByteArray, t = ⟨(polyTag k.data.toList d.data.toList).toArray⟩ := ⟨_, rfl⟩
      have K1 := Lib.hid (fun W => ownTag_any k d W hk (by omega))
      have HK2 := Lib.hid (show ∀ W, Calls Try.prog 8 #[.string ⟨(xb2 bl (xb1 bl k.data.toList 4) 3).toArray⟩, .string d] W fun e w' => e = .returned (.tuple #[.string ⟨(polyTag k.data.toList d.data.toList).toArray⟩, .int .i64 0]) ∧ Below W.heap.size W w' from fun W => by
        have := ownTag_any ⟨(xb2 bl (xb1 bl k.data.toList 4) 3).toArray⟩ d W (by rw [Lib.size_eq]; simpa [xb2_length, xb1_length] using hkl) (by omega)
        rw [show (⟨(xb2 bl (xb1 bl k.data.toList 4) 3).toArray⟩ : ByteArray).data.toList = xb2 bl (xb1 bl k.data.toList 4) 3 by simp, polyTag_masked _ _ _ hkl] at this
        exact this)
      rw [← ht] at K1 HK2
      clear ht
      have et : (t.toList == t.toList) = true := by simp
      obtain ⟨ao0, cap0, hcv0, hown0, hbc0⟩ := run_convert_string_bytes_own k (w.alloc (.cells (bl.map (Value.int .u8)).toArray 28))
      obtain ⟨G, cG, hvG, hoG, hGlt⟩ := hown0.some (by rw [Lib.byteCells_length, ← Lib.size_eq]; omega)
      have hlG : (Lib.byteCells k.data.toList).length = 32 := by rw [Lib.byteCells_length, hkl]
      rw [hk] at hcv0 hvG
      rw [hlG] at hvG
      cases hvG
      have HO0 : Hid (OwnS (Lib.bytesWorld (w.alloc (.cells (bl.map (Value.int .u8)).toArray 28)) 5 k) (w.alloc (.cells (bl.map (Value.int .u8)).toArray 28)).heap.size G cap0 (Lib.byteCells (xb1 bl k.data.toList 0))) := Lib.hid hoG
      have HCG := Lib.hid (show 0 < cap0 from by have := hoG.le; omega)
      have HB0 := Lib.hid (blk_below hbc0 (by simp) (blk_new w (.cells (bl.map (Value.int .u8)).toArray 28)))
      have hb0 : Below w.heap.size w (Lib.bytesWorld (w.alloc (.cells (bl.map (Value.int .u8)).toArray 28)) 5 k) := hB0.trans (hbc0.mono (by simp))
      have HBG := Lib.hid (show w.heap.size < G from by have := hoG.base; simp at this; omega)
      have HPL := Lib.hid hkl
      have HBL := Lib.hid hbl
      clear hk hkl hown0 hoG hlG hbc0 hB0 hsz0 hbl hGlt
      obtain ⟨cG, hcG⟩ : ∃ c, c = cap0 := ⟨_, rfl⟩
      subst hcG
      go_enter Try.func5, Try.ntmps5
      go_wp2_with fail
      clear hcv0
      generalize (Lib.bytesWorld _ _ _) = W0 at *
      generalize (w.alloc _).heap.size = B1 at *
      generalize hBB : w.heap.size = B at *
      have HBB := Lib.hid hBB
      clear hBB
      generalize k.data.toList = l0 at *
      go_loopw [8] (fun iv wr => ∃ m : Nat, m ≤ 4 ∧ iv = .int .i64 (m : Int) ∧ wr.heap[B]? = some (.cells (bl.map (Value.int .u8)).toArray 28) ∧ OwnS wr B1 G cG (Lib.byteCells (xb1 bl l0 m)) ∧ Below B w wr) (fun iv _ => 4 - (intOf iv).toNat)
      case atStart => exact ⟨0, by omega, rfl, HB0.out, HO0.out, hb0⟩
      case round =>
        clear HB0 HO0 hb0
        obtain ⟨m, hm, rfl, hbb, hos, hb⟩ := hrel
        have HB := Lib.hid hbb; have HO := Lib.hid hos
        clear hbb hos
        by_cases hlt : m < 4
        · have hdm : decide ((m : Int) < 4) = true := by simp; omega
          have hll : (xb1 bl l0 m).length = 32 := by rw [xb1_length, HPL.out]
          have HS : Hid (xb1 bl l0 (m + 1) = (xb1 bl l0 m).set (4 * m + 3) (xorB (bits .and .u8 (bl.getD (m) 0) 240) ((xb1 bl l0 m).getD (4 * m + 3) 0))) := Lib.hid rfl
          have HCL := Lib.hid (show (Lib.byteCells (xb1 bl l0 m)).length = 32 from by rw [Lib.byteCells_length, hll])
          have cx : wr.cell? ⟨G, 4 * m + 3, none⟩ = some (.int .u8 (((xb1 bl l0 m).getD (4 * m + 3) 0).toNat : Int)) := HO.out.cells _ _ (by simp [Lib.byteCells, List.getD_eq_getElem?_getD, hll, show 4 * m + 3 < 32 by omega])
          have cy : wr.cell? ⟨B, m, none⟩ = some (.int .u8 (bl.getD (m) 0)) := by rw [cell_of_row wr _ _ _ _ _ HB.out]; simp [List.getD_eq_getElem?_getD, HBL.out, show m < 7 by omega]
          have HV := Lib.hid (xorB_toNat (bits .and .u8 (bl.getD (m) 0) 240) ((xb1 bl l0 m).getD (4 * m + 3) 0))
          generalize (xb1 bl l0 m).getD (4 * m + 3) 0 = x at *
          generalize bl.getD (m) 0 = y at *
          have e1 : IntKind.i64.wrap (4 * (m : Int)) = 4 * (m : Int) := IntWalk.i64_in _ (by omega)
          have e2 : IntKind.i64.wrap (4 * (m : Int) + 3) = 4 * (m : Int) + 3 := IntWalk.i64_in _ (by omega)
          have e3 : (4 * (m : Int) + 3).toNat = 4 * m + 3 := by omega
          have e4 : IntKind.i64.wrap (4 + (m : Int)) = 4 + (m : Int) := IntWalk.i64_in _ (by omega)
          have e5 : (4 + (m : Int)).toNat = 4 + m := by omega
          clear hll
          go_wp2_with fail
          have ka := cell_regrown cx; have kb := cell_regrown cy
          refine wp_region_reads_tail 16 (by kernel_rfl) (by kernel_rfl) ?_
          simp only [List.take_succ_cons, List.take_zero, List.drop_succ_cons, List.drop_zero]
          repeat (first | go_big_quiet_step (fail) | quiet_step (fail))
          refine wpQuiet_nil ?_
          intro W4 hb4
          have hBw := blk_lt HB.out
          have hgl : G < wr.heap.size := HO.out.lt HCG.out
          have HB4 := Lib.hid (blk_below hb4 hBw HB.out)
          have HO4 := Lib.hid (HO.out.keep (hb4.block G hgl))
          have hbF : Below B w W4 := hb.trans (hb4.mono (by omega))
          have c4 : W4.cell? ⟨G, 4 * m + 3, none⟩ = some (.int .u8 (x.toNat : Int)) := (hb4.cell (p := ⟨G, 4 * m + 3, none⟩) hgl).trans cx
          have f4 : W4.frozen? ⟨G, 4 * m + 3, none⟩ = false := (HO4.out.room (4 * m + 3) (by have := HO4.out.le; rw [HCL.out] at this; omega)).2
          have hset := HO4.out.put (4 * m + 3) (by rw [HCL.out]; omega) (.int .u8 (bits .xor .u8 (x.toNat : Int) (bits .and .u8 y 240)))
          have HN : Hid ((Lib.byteCells (xb1 bl l0 m)).set (4 * m + 3) (.int .u8 (bits .xor .u8 (x.toNat : Int) (bits .and .u8 y 240))) = Lib.byteCells (xb1 bl l0 (m + 1))) := Lib.hid (by
            rw [← HV.out, HS.out]
            simp only [Lib.byteCells, List.map_set])
          rw [HN.out] at hset
          have HO5 := Lib.hid hset
          have hGB := HBG.out
          have HB5 := Lib.hid (show (W4.setCell ⟨G, 4 * m + 3, none⟩ (.int .u8 (bits .xor .u8 (x.toNat : Int) (bits .and .u8 y 240)))).heap[B]? = some (.cells (bl.map (Value.int .u8)).toArray 28) from by rw [heap_setCell_other _ _ _ _ (by simp; omega)]; exact HB4.out)
          have hb5 : Below B w (W4.setCell ⟨G, 4 * m + 3, none⟩ (.int .u8 (bits .xor .u8 (x.toNat : Int) (bits .and .u8 y 240)))) := hbF.setCell (by simp; omega) _
          clear hset HN HS HV HO HB hb hb4 hBw hgl HB4 HO4 hbF cx cy ka kb
          go_wp2_with fail
          go_roundw
          case rel => exact ⟨m + 1, by omega, by go_num, HB5.out, HO5.out, hb5⟩
          case measure => simp [intOf]; omega
        · have hdm : decide ((m : Int) < 4) = false := by simp; omega
          obtain rfl : m = 4 := by omega
          rw [show ((4 : Nat) : Int) = (4 : Int) from rfl] at *
          clear hdm
          have HPL2 := Lib.hid (show (xb1 bl l0 4).length = 32 from by rw [xb1_length, HPL.out])
          obtain ⟨l2, hl2⟩ : ∃ x, x = xb1 bl l0 4 := ⟨_, rfl⟩
          rw [← hl2] at HO HPL2 HK2
          clear HPL hl2
          have HPL := HPL2
          have HB0 := HB
          have HO0 : Hid (OwnS wr B1 G cG (Lib.byteCells (xb2 bl l2 0))) := HO
          have hb0 := hb
          clear HPL2 HB HO hb
          go_wp2_with fail
          go_loopw [9] (fun iv wr => ∃ m : Nat, m ≤ 3 ∧ iv = .int .i64 (m : Int) ∧ wr.heap[B]? = some (.cells (bl.map (Value.int .u8)).toArray 28) ∧ OwnS wr B1 G cG (Lib.byteCells (xb2 bl l2 m)) ∧ Below B w wr) (fun iv _ => 3 - (intOf iv).toNat)
          case atStart => exact ⟨0, by omega, rfl, HB0.out, HO0.out, hb0⟩
          case round =>
            clear HB0 HO0 hb0
            obtain ⟨m, hm, rfl, hbb, hos, hb⟩ := hrel
            have HB := Lib.hid hbb; have HO := Lib.hid hos
            clear hbb hos
            by_cases hlt : m < 3
            · have hdm : decide ((m : Int) < 3) = true := by simp; omega
              have hll : (xb2 bl l2 m).length = 32 := by rw [xb2_length, HPL.out]
              have HS : Hid (xb2 bl l2 (m + 1) = (xb2 bl l2 m).set (4 * m + 4) (xorB (bits .and .u8 (bl.getD (4 + m) 0) 3) ((xb2 bl l2 m).getD (4 * m + 4) 0))) := Lib.hid rfl
              have HCL := Lib.hid (show (Lib.byteCells (xb2 bl l2 m)).length = 32 from by rw [Lib.byteCells_length, hll])
              have cx : wr.cell? ⟨G, 4 * m + 4, none⟩ = some (.int .u8 (((xb2 bl l2 m).getD (4 * m + 4) 0).toNat : Int)) := HO.out.cells _ _ (by simp [Lib.byteCells, List.getD_eq_getElem?_getD, hll, show 4 * m + 4 < 32 by omega])
              have cy : wr.cell? ⟨B, 4 + m, none⟩ = some (.int .u8 (bl.getD (4 + m) 0)) := by rw [cell_of_row wr _ _ _ _ _ HB.out]; simp [List.getD_eq_getElem?_getD, HBL.out, show 4 + m < 7 by omega]
              have HV := Lib.hid (xorB_toNat (bits .and .u8 (bl.getD (4 + m) 0) 3) ((xb2 bl l2 m).getD (4 * m + 4) 0))
              generalize (xb2 bl l2 m).getD (4 * m + 4) 0 = x at *
              generalize bl.getD (4 + m) 0 = y at *
              have e1 : IntKind.i64.wrap (4 * (m : Int)) = 4 * (m : Int) := IntWalk.i64_in _ (by omega)
              have e2 : IntKind.i64.wrap (4 * (m : Int) + 4) = 4 * (m : Int) + 4 := IntWalk.i64_in _ (by omega)
              have e3 : (4 * (m : Int) + 4).toNat = 4 * m + 4 := by omega
              have e4 : IntKind.i64.wrap (4 + (m : Int)) = 4 + (m : Int) := IntWalk.i64_in _ (by omega)
              have e5 : (4 + (m : Int)).toNat = 4 + m := by omega
              clear hll
              go_wp2_with fail
              have ka := cell_regrown cx; have kb := cell_regrown cy
              refine wp_region_reads_tail 17 (by kernel_rfl) (by kernel_rfl) ?_
              simp only [List.take_succ_cons, List.take_zero, List.drop_succ_cons, List.drop_zero]
              repeat (first | go_big_quiet_step (fail) | quiet_step (fail))
              refine wpQuiet_nil ?_
              intro W4 hb4
              have hBw := blk_lt HB.out
              have hgl : G < wr.heap.size := HO.out.lt HCG.out
              have HB4 := Lib.hid (blk_below hb4 hBw HB.out)
              have HO4 := Lib.hid (HO.out.keep (hb4.block G hgl))
              have hbF : Below B w W4 := hb.trans (hb4.mono (by omega))
              have c4 : W4.cell? ⟨G, 4 * m + 4, none⟩ = some (.int .u8 (x.toNat : Int)) := (hb4.cell (p := ⟨G, 4 * m + 4, none⟩) hgl).trans cx
              have f4 : W4.frozen? ⟨G, 4 * m + 4, none⟩ = false := (HO4.out.room (4 * m + 4) (by have := HO4.out.le; rw [HCL.out] at this; omega)).2
              have hset := HO4.out.put (4 * m + 4) (by rw [HCL.out]; omega) (.int .u8 (bits .xor .u8 (x.toNat : Int) (bits .and .u8 y 3)))
              have HN : Hid ((Lib.byteCells (xb2 bl l2 m)).set (4 * m + 4) (.int .u8 (bits .xor .u8 (x.toNat : Int) (bits .and .u8 y 3))) = Lib.byteCells (xb2 bl l2 (m + 1))) := Lib.hid (by
                rw [← HV.out, HS.out]
                simp only [Lib.byteCells, List.map_set])
              rw [HN.out] at hset
              have HO5 := Lib.hid hset
              have hGB := HBG.out
              have HB5 := Lib.hid (show (W4.setCell ⟨G, 4 * m + 4, none⟩ (.int .u8 (bits .xor .u8 (x.toNat : Int) (bits .and .u8 y 3)))).heap[B]? = some (.cells (bl.map (Value.int .u8)).toArray 28) from by rw [heap_setCell_other _ _ _ _ (by simp; omega)]; exact HB4.out)
              have hb5 : Below B w (W4.setCell ⟨G, 4 * m + 4, none⟩ (.int .u8 (bits .xor .u8 (x.toNat : Int) (bits .and .u8 y 3)))) := hbF.setCell (by simp; omega) _
              clear hset HN HS HV HO HB hb hb4 hBw hgl HB4 HO4 hbF cx cy ka kb
              go_wp2_with fail
              go_roundw
              case rel => exact ⟨m + 1, by omega, by go_num, HB5.out, HO5.out, hb5⟩
              case measure => simp [intOf]; omega
            · have hdm : decide ((m : Int) < 3) = false := by simp; omega
              obtain rfl : m = 3 := by omega
              rw [show ((3 : Nat) : Int) = (3 : Int) from rfl] at *
              clear hdm
              have hcl : (xb2 bl l2 3).length = 32 := by rw [xb2_length, HPL.out]
              have hcv := run_string_row wr G cG (xb2 bl l2 3) (fun j x hx => HO.out.cells j _ (by simp [Lib.byteCells, hx]))
              rw [hcl] at hcv
              clear hcl
              go_wp2_with fail
              refine (K1.out wr).mono ?_
              rintro e W1 ⟨rfl, hb1⟩
              have hBw := blk_lt HB.out
              have hGw : G < wr.heap.size := HO.out.lt HCG.out
              have hB1 : Below B w W1 := hb.trans (hb1.mono (by omega))
              have hB1s : B < W1.heap.size := Nat.lt_of_lt_of_le hBw hb1.size
              have HO1 := Lib.hid (HO.out.keep (hb1.block G hGw))
              have hcl : (xb2 bl l2 3).length = 32 := by rw [xb2_length, HPL.out]
              have hcv1 := run_string_row W1 G cG (xb2 bl l2 3) (fun j x hx => HO1.out.cells j _ (by simp [Lib.byteCells, hx]))
              rw [hcl] at hcv1
              have HKQ := HK2
              clear hcv HK2 K1 HO HB hb hb1 hBw hGw hcl
              generalize (⟨(xb2 bl l2 3).toArray⟩ : ByteArray) = k2 at *
              go_wp2_with fail
              clear hcv1
              refine (HKQ.out W1).mono ?_
              rintro e W2 ⟨rfl, hb2⟩
              have hB2 : Below B w W2 := hB1.trans (hb2.mono (by omega))
              have hB2s : B < W2.heap.size := Nat.lt_of_lt_of_le hB1s hb2.size
              clear HKQ hb2 hB1 hB1s HO1
              go_wp2_with fail
              refine (pawake_any W2).mono ?_
              rintro e W3 ⟨rfl, hb3⟩
              go_wp2_with fail
              go_ret
              exact ⟨rfl, by rw [HBB.out]; exact hB2.trans (hb3.mono (by omega))⟩
    · have hd1 : ((k.size : Int) != 32) = false := by simp [hk]
      have hd2 : decide ((5000 : Int) < (d.size : Int)) = true := by simp; omega
      clear hk hdd
      go_enter Try.func5, Try.ntmps5
      go_wp2_with fail
      refine (pawake_any _).mono ?_
      rintro e W3 ⟨rfl, hb3⟩
      go_wp2_with fail
      go_ret
      exact ⟨rfl, hB0.trans (hb3.mono hsz0)⟩
  · have hd1 : ((k.size : Int) != 32) = true := by simp; omega
    clear hk
    go_enter Try.func5, Try.ntmps5
    go_wp2_with fail
    refine (pawake_any _).mono ?_
    rintro e W3 ⟨rfl, hb3⟩
    go_wp2_with fail
    go_ret
    exact ⟨rfl, hB0.trans (hb3.mono hsz0)⟩

theorem polyBits_own : ownKnob Try.prog.godebug = none := by kernel_rfl
theorem polyBits_lifted (os : Os) (started : os.Started) (H : Type) (enc : TypeId × Value → H) :
    ReturnsInHanded {} Try.checked os 5 .any (Rows.polyBitsSpec.pre6 enc Try.prog Try.f5 Rows.polyBitsRow.domain false) (Rows.polyBitsSpec.post enc Try.prog Try.f5 false true false false) := by
  refine returnsInHanded_of_change (C := Try.checked) polyBits_own started (by kernel_rfl) Try.func5
    (ChangeSpec.witness6 (enc := enc) (C := Try.checked) false ⟨#[], #[.string ⟨#[]⟩, .string ⟨#[]⟩, .agg #[.int .u8 0, .int .u8 0, .int .u8 0, .int .u8 0, .int .u8 0, .int .u8 0, .int .u8 0]], []⟩ 8 (by kernel_rfl) (by kernel_rfl) (by kernel_rfl) (by kernel_rfl)) ?_
  intro W base args ds gs before hval0 hW hcnd _
  have hval : ∀ (j : Nat) t v, Try.f5.params[j]? = some t → args[j]? = some v → Value.okWide Try.prog W .any base t v := hval0
  have hW' := hW
  obtain ⟨p, q, hA0, hV, rfl, hfz, hnd⟩ := hW
  have hA : DataW.TrodAll enc Try.prog W 0 (fun _ => true) true Try.f5.params.toList args.toList ds p := hA0
  rw [Try.params5] at hA hval
  obtain ⟨v0, v1, v2, d0, d1, d2, p0, p1, p2, rfl, rfl, rfl, h0, h1, h2⟩ := trodAll_three hA
  obtain ⟨rfl, rfl⟩ := trodVars_none hV
  obtain ⟨s0, rfl, rfl, rfl, w0⟩ := open_string Try.underlying9 (hval 0 9 v0 rfl rfl) h0
  obtain ⟨s1, rfl, rfl, rfl, w1⟩ := open_string Try.underlying9 (hval 1 9 v1 rfl rfl) h1
  obtain ⟨l2, wl2, rfl, rfl, rfl, ww2⟩ := open_intsN Try.underlying28 Try.underlying5 (by kernel_rfl) (by kernel_rfl) (hval 2 28 v2 rfl rfl) h2
  clear hA0 hval0
  simp only [List.append_nil] at hW'
  refine (polyBits_any s0 s1 l2 W w0 w1 wl2 ww2).mono fun e W' ⟨he, hb⟩ => ?_
  subst he
  refine ⟨_, rfl, _, _, _, [], [], [], hW', ?_, ?_, rfl, hb.frame _, fun h => by cases h⟩
  · exact trodAll_mk1 (shut_bool Try.underlying4 _)
  · exact trodAll_mk3 (shut_string Try.underlying9 w0) (shut_string Try.underlying9 w1) (shut_intsN Try.underlying28 Try.underlying5 (by kernel_rfl) (by kernel_rfl) wl2 ww2)

theorem polyBits_holds : Rows.PolyBitsSaid :=
  OpenClaim.holds_of_wide 5 Try.f5 rfl rfl rfl rfl rfl rfl rfl ⟨rfl, rfl, rfl, rfl, rfl⟩ rfl rfl rfl rfl rfl (by kernel_rfl) Try.func5 (by kernel_rfl)
    (of_decide_eq_true (by kernel_rfl)) (by unfold Func.isWrapper; first | (rw [if_pos (by decide +kernel)]; kernel_rfl) | (rw [if_neg (by decide +kernel)]; exact ⟨rfl, rfl⟩))
    (fun os started H enc _ => polyBits_lifted os started H enc)
#print axioms polyBits_holds
end Go.Proofs.Ytbbpgplfdodpmaa
