/- The reference's Extract and Expand. -/
import Derived.Test.YthcfolefdalaiaaDoorRefMac
namespace Go.Proofs.YthcfolefdalaiaaDoor
open Go.RowKit Go.Sort
set_option maxRecDepth 100000
set_option linter.unusedSimpArgs false
set_option linter.unusedVariables false

theorem mac32_nils (input : List UInt8) : mac32 (List.replicate 32 0) input = mac32 [] input := by
  rw [mac32, mac32, keyOf32, if_neg (by simp), keyOf32, if_neg (by simp), blockL_zeros 32 (by omega)]
set_option maxHeartbeats 1000000 in
theorem refExtract_any (salt input : ByteArray) (w : World) (hs : salt.size ≤ 1000000) (hn : input.size ≤ 1000000) :
    Calls Tryd.prog 24 #[.string salt, .string input] w fun e w' => e = .returned (.string ⟨(mac32 salt.data.toList input.data.toList).toArray⟩) ∧ Below w.heap.size w w' := by
  by_cases hz : salt.size = 0
  · have hl0 : salt.data.toList = [] := List.eq_nil_of_length_eq_zero (by rw [← Lib.size_eq]; exact hz)
    have ht : (salt.toList == []) = true := by rw [Lib.toList_data, hl0]; rfl
    obtain ⟨i0, hi, hz0, hz1, hz2⟩ := info_parts info_u8
    have hmk : ∀ W : World, (Instr.makeSlice 46 (.int .i64 32) (.int .i64 32)).run Tryd.prog W = .ok (.slice (some ⟨W.heap.size, 0, none⟩) 32 32) (W.alloc (.cells zeros32 5)) := fun W => by
      have h := run_make (P := Tryd.prog) W 46 5 i0 (.int .u8 0) Tryd.underlying46 hi hz0 .i64 .i64 32 32 (by omega) (by omega) (by rw [hz2]; omega) (by omega)
      rw [hz1, made_zero] at h
      exact h
    have hB0 := below_new w (.cells zeros32 5)
    obtain ⟨z32, hz32⟩ : ∃ z : List UInt8, z = List.replicate 32 0 := ⟨_, rfl⟩
    have hcv := run_string_row (w.alloc (.cells zeros32 5)) w.heap.size 32 z32 (by rw [hz32]; exact cells_of_bcells (blk_new w (.cells zeros32 5)))
    rw [show z32.length = 32 from by rw [hz32]; simp] at hcv
    have h1 := fun W => refMac32_any ⟨z32.toArray⟩ input W (by rw [Lib.size_eq]; simp [hz32]) hn
    simp only [List.toList_toArray] at h1
    rw [hz32, mac32_nils, ← hl0] at h1
    generalize (⟨(mac32 salt.data.toList input.data.toList).toArray⟩ : ByteArray) = x at *
    rw [← hz32] at h1
    have H1 := Lib.hid h1
    clear h1 hz32 hl0 hi hz0 hz1 hz2
    go_enter Tryd.func24, Tryd.ntmps24
    go_wp2_with fail
    have hsz0 : w.heap.size ≤ (w.alloc (.cells zeros32 5)).heap.size := by simp
    clear hmk hcv
    generalize (w.alloc (.cells zeros32 5)) = W0 at *
    refine (H1.out W0).mono ?_
    rintro e W1 ⟨rfl, hb1⟩
    go_wp2_with fail
    go_ret
    exact ⟨rfl, hB0.trans (hb1.mono hsz0)⟩
  · have hl0 : salt.data.toList ≠ [] := fun e => hz (by rw [Lib.size_eq, e]; rfl)
    have ht : (salt.toList == []) = false := by rw [Lib.toList_data]; simpa using hl0
    have h1 := refMac32_any salt input w hs hn
    generalize (⟨(mac32 salt.data.toList input.data.toList).toArray⟩ : ByteArray) = x at *
    have H1 := Lib.hid h1
    clear h1 hl0
    go_enter Tryd.func24, Tryd.ntmps24
    go_wp2_with fail
    refine H1.out.mono ?_
    rintro e W1 ⟨rfl, hb1⟩
    go_wp2_with fail
    go_ret
    exact ⟨rfl, hb1⟩

set_option maxHeartbeats 2000000 in
theorem refExpand_any (key info : ByteArray) (n : Nat) (w : World) (hk : key.size ≤ 1000000) (hs : info.size ≤ 900000) (hn : n ≤ 8160) :
    Calls Tryd.prog 26 #[.string key, .string info, .int .i64 (n : Int)] w fun e w' => e = .returned (.tuple #[.string ⟨(expL (blockL (keyOf32 key.data.toList)) info.data.toList n).toArray⟩, .int .i64 0]) ∧ Below w.heap.size w w' := by
  have hd1 : decide ((n : Int) < 0) = false := by simp
  have hd2 : decide ((8160 : Int) < (n : Int)) = false := by simp; omega
  have HM := Lib.hid (show ∀ d, mac32 key.data.toList d = code32 (blockL (keyOf32 key.data.toList)) d from fun d => rfl)
  generalize hbk : blockL (keyOf32 key.data.toList) = b at *
  have HBK := Lib.hid hbk
  clear hbk
  go_enter Tryd.func26, Tryd.ntmps26
  go_wp2_with fail
  generalize hBB : w.heap.size = B at *
  have HBB := Lib.hid hBB
  have hszB : B ≤ w.heap.size := by omega
  clear hBB
  go_loopw [8, 9, 10] (fun o t u wr => ∃ (i : Nat) (ob tb : ByteArray), 32 * i < n + 32 ∧ o = .string ob ∧ t = .string tb ∧ ob.data.toList = outL b info.data.toList i ∧ tb.data.toList = tL b info.data.toList i ∧ u = .int .i64 ((i : Int) + 1) ∧ Below B w wr ∧ B ≤ wr.heap.size) (fun _ _ u _ => 300 - (intOf u).toNat)
  case atStart => exact ⟨0, ⟨#[]⟩, ⟨#[]⟩, by omega, rfl, rfl, rfl, rfl, rfl, Below.refl _ _, hszB⟩
  case round =>
    obtain ⟨i, ob, tb, hin, rfl, rfl, hob, htb, rfl, hb, hsz⟩ := hrel
    have hos : ob.size = 32 * i := by rw [Lib.size_eq, hob, outL_length]
    have hts : tb.size ≤ 32 := by rw [Lib.size_eq, htb]; exact tL_length _ _ _
    have HOS := Lib.hid hos
    have hol : ob.size ≤ 10000 := by omega
    clear hos
    by_cases hlt : 32 * i < n
    · have hd : ob.size < n := by have := HOS.out; omega
      have hi255 : i < 255 := by omega
      have HTn : Hid (tL b info.data.toList (i + 1) = code32 b (tL b info.data.toList i ++ info.data.toList ++ [UInt8.ofNat (i + 1)])) := Lib.hid rfl
      obtain ⟨x1, hx1⟩ : ∃ x1 : ByteArray, x1 = ⟨[UInt8.ofNat (i + 1)].toArray⟩ := ⟨_, rfl⟩
      have HD := Lib.hid (show ((tb ++ info) ++ x1).data.toList = tL b info.data.toList i ++ info.data.toList ++ [UInt8.ofNat (i + 1)] from by rw [hx1]; simp [htb])
      have hx1s : x1.size = 1 := by rw [hx1, Lib.size_eq]; rfl
      have hcv := run_string_row (wr.alloc (.cells #[.int .u8 ((i : Int) + 1)] 5)) wr.heap.size 1 [UInt8.ofNat (i + 1)] (fun j x hx => by
        have hj : j = 0 := by have := (List.getElem?_eq_some_iff.1 hx).1; simpa using this
        subst hj
        obtain rfl : UInt8.ofNat (i + 1) = x := by simpa using hx
        rw [cell_of_row _ _ _ _ _ _ (blk_new wr _)]
        have : (UInt8.ofNat (i + 1)).toNat = i + 1 := by simp; omega
        rw [this]; rfl)
      simp only [List.length_cons, List.length_nil, Nat.zero_add] at hcv
      rw [← hx1] at hcv
      have hwm : ((i : Int) + 1) % 256 = (i : Int) + 1 := by omega
      have hbw : Below B w (wr.alloc (.cells #[.int .u8 ((i : Int) + 1)] 5)) := hb.alloc hsz _
      have hszw : B ≤ (wr.alloc (.cells #[.int .u8 ((i : Int) + 1)] 5)).heap.size := by simp; omega
      have HOB := Lib.hid hob
      clear hx1 hb htb hob
      go_wp2_with fail
      clear hcv
      generalize (wr.alloc _) = Wn at *
      refine (refMac32_any key (tb ++ info ++ x1) Wn hk (by rw [ByteArray.size_append, ByteArray.size_append]; omega)).mono ?_
      rintro e W5 ⟨rfl, hb5⟩
      rw [HM.out, HD.out, ← HTn.out]
      have hB5 : Below B w W5 := hbw.trans (hb5.mono hszw)
      have hsz5 := Nat.le_trans hszw hb5.size
      have HON := Lib.hid (show (ob ++ (⟨(tL b info.data.toList (i + 1)).toArray⟩ : ByteArray)).data.toList = outL b info.data.toList (i + 1) from by rw [outL]; simp [HOB.out])
      have HTT := Lib.hid (show (⟨(tL b info.data.toList (i + 1)).toArray⟩ : ByteArray).data.toList = tL b info.data.toList (i + 1) from by simp)
      generalize (⟨(tL b info.data.toList (i + 1)).toArray⟩ : ByteArray) = tn at *
      have htn : tn.size = 32 := by rw [Lib.size_eq, HTT.out, HTn.out, code32_length]
      go_wp2_with fail
      go_roundw
      case rel => exact ⟨i + 1, _, _, by omega, rfl, rfl, HON.out, HTT.out, by go_num, hB5, hsz5⟩
      case measure => simp [intOf]; omega
    · have hd : ¬ ob.size < n := by have := HOS.out; omega
      have hii : (n + 31) / 32 = i := by omega
      have HE := Lib.hid (show (ob.extract 0 n) = ⟨(expL b info.data.toList n).toArray⟩ from by
        apply ByteArray.ext
        apply Array.ext'
        rw [Lib.extract_data, hob, expL, hii]
        simp)
      have hle : (n : Int) ≤ (ob.size : Int) := by have := HOS.out; omega
      clear hob htb
      go_wp2_with fail
      go_ret2
      exact ⟨by rw [← HE.out]; rfl, by rw [HBB.out]; exact hb⟩
theorem refExpandNeg_any (key info : ByteArray) (n : Int) (w : World) (hn : n < 0) :
    Calls Tryd.prog 26 #[.string key, .string info, .int .i64 n] w fun e w' => e = .returned (.tuple #[.string ⟨#[]⟩, .int .i64 1]) ∧ Below w.heap.size w w' := by
  have hd1 : decide (n < 0) = true := by simp; omega
  go_enter Tryd.func26, Tryd.ntmps26
  go_wp2_with fail
  go_ret2
  exact ⟨rfl, Below.refl _ _⟩
theorem refExpandBig_any (key info : ByteArray) (n : Int) (w : World) (hn : 8160 < n) :
    Calls Tryd.prog 26 #[.string key, .string info, .int .i64 n] w fun e w' => e = .returned (.tuple #[.string ⟨#[]⟩, .int .i64 13]) ∧ Below w.heap.size w w' := by
  have hd1 : decide (n < 0) = false := by simp; omega
  have hd2 : decide ((8160 : Int) < n) = true := by simp; omega
  go_enter Tryd.func26, Tryd.ntmps26
  go_wp2_with fail
  go_ret2
  exact ⟨rfl, Below.refl _ _⟩
end Go.Proofs.YthcfolefdalaiaaDoor
