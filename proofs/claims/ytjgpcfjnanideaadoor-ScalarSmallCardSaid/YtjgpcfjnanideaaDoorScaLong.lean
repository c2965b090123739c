/- The laws' own numbers of eight bytes: long. -/
import Derived.Test.YtjgpcfjnanideaaDoorScaSmall
import Derived.Test.YtjgpcfjnanideaaDoorFldR
namespace Go.Proofs.YtjgpcfjnanideaaDoor
open Go.RowKit Go.Sort
set_option maxRecDepth 100000
set_option linter.unusedSimpArgs false
set_option linter.unusedVariables false

theorem leF_long (n : Nat) (h : n < 256 ^ 8) : leF n 32 = leF n 8 ++ nilL 24 := by
  have e : leF n 32 = leF n 8 ++ (List.range 24).map fun i => UInt8.ofNat (n / 256 ^ (8 + i)) := by
    rw [leF, leF, show 32 = 8 + 24 from rfl, List.range_add, List.map_append, List.map_map]
    rfl
  rw [e, nilL]
  congr 1
  rw [List.eq_replicate_iff]
  refine ⟨by simp, fun b hb => ?_⟩
  obtain ⟨i, _, rfl⟩ := List.mem_map.1 hb
  rw [Nat.div_eq_of_lt]
  · rfl
  · exact Nat.lt_of_lt_of_le h (Nat.pow_le_pow_right (by decide) (by omega))
theorem bytes_join (a b : List UInt8) : (⟨a.toArray⟩ : ByteArray) ++ ⟨b.toArray⟩ = ⟨(a ++ b).toArray⟩ := by
  apply ByteArray.ext
  rw [ByteArray.data_append]
  simp
theorem long_join (n : Nat) (h : n < 256 ^ 8) : (⟨(leF n 8).toArray⟩ : ByteArray) ++ nilB 24 = txtN n := by
  rw [txtN, leF_long n h]
  exact bytes_join (leF n 8) (nilL 24)
theorem leF_snoc (x k : Nat) : leF x k ++ [UInt8.ofNat (x / 256 ^ k)] = leF x (k + 1) := by rw [leF, leF, List.range_succ, List.map_append]; rfl

set_option maxHeartbeats 4000000 in
theorem long_any (n : Nat) (w : World) (h : n < 4611686018427387904) :
    Calls Tryd.prog 17 #[.int .i64 (n : Int)] w fun e w' => e = .returned (.string (txtN n)) ∧ Below w.heap.size w w' := by
  obtain ⟨i0, hi, hz0, hz1, hz2⟩ := info_parts info_u8
  have HJ := Lib.hid (long_join n (by rw [show 256 ^ 8 = 18446744073709551616 by decide]; omega))
  have HS := Lib.hid (fun k => leF_snoc n k)
  go_enter Tryd.func17, Tryd.ntmps17
  go_wp2_with fail
  generalize hBB : w.heap.size = B at *
  have HBB := Lib.hid hBB
  have hszB : B ≤ w.heap.size := by omega
  clear hBB
  go_loopw [3, 4] (fun lv iv wr => ∃ (k : Nat) (ao : Option Addr) (cap : Nat), k ≤ 8 ∧ iv = .int .i64 (k : Int) ∧ lv = .slice ao k cap ∧ Own wr B (.slice ao k cap) (Lib.byteCells (leF n k)) ∧ Below B w wr ∧ B ≤ wr.heap.size) (fun _ iv _ => 8 - (intOf iv).toNat)
  case atStart => exact ⟨0, none, 0, by omega, rfl, rfl, Own.nil _ _, Below.refl _ _, hszB⟩
  case round =>
    obtain ⟨k, ao, cap, hk, rfl, rfl, hown, hb, hsz⟩ := hrel
    have HO := Lib.hid hown
    have HL := Lib.hid (show (Lib.byteCells (leF n k)).length = k by rw [Lib.byteCells_length, leF_length])
    clear hown
    by_cases hlt : k < 8
    · have hdk : decide ((k : Int) < 8) = true := by simp; omega
      have hb8 : (UInt8.ofNat (n / 256 ^ k)).toNat = n / 256 ^ k % 256 := by rw [UInt8.toNat_ofNat']
      have hs1 := HS.out k
      have HNS : Hid (Lib.byteCells (leF n k) ++ [.int .u8 (((UInt8.ofNat (n / 256 ^ k)).toNat : Nat) : Int)] = Lib.byteCells (leF n (k + 1))) := Lib.hid (by rw [← hs1, Lib.byteCells_append]; rfl)
      have hp : 256 ^ k = 2 ^ (8 * k) := by rw [Nat.pow_mul]
      rw [hp] at hb8 HNS
      generalize UInt8.ofNat (n / 2 ^ (8 * k)) = b8 at *
      have hv : (n : Int) / 2 ^ (8 * k) % 256 = (b8.toNat : Int) := by rw [hb8]; simp
      have e8 : (8 * (k : Int)).toNat = 8 * k := by omega
      rw [← hv] at HNS
      clear hs1 hp hb8 hv
      go_wp2_with (at_builtin; refine wpList_append_sl rfl (.tmp 9) (.tmp 15) 45 rfl B 5 i0 (.int .u8 0) 1 Tryd.underlying45 hi hz0 hz1 hz2 rfl ao k cap _ rfl (HO.out.alloc _) HL.out ⟨wr.heap.size, 0, none⟩ 1 1 [.int .u8 ((n : Int) / 2 ^ (8 * k) % 256)] rfl rfl (cell_one_new _ _ _) ?b2 ?b3 ?b4 ?b5 ?_)
      case b2 => intro u hu; simp at hu; subst hu; rfl
      case b3 => omega
      case b4 => omega
      case b5 => simp; omega
      intro ao5 cp5 W5 hown5 hgrow5
      have hb5 : Below B w W5 := below_append (hb.alloc hsz _) (by simp; omega) (HO.out.alloc _) hgrow5
      have hsz5 : B ≤ W5.heap.size := by have := hgrow5.size; simp at this; omega
      rw [HNS.out] at hown5
      clear hgrow5 HO hb
      go_wp2_with fail
      go_roundw
      case rel => exact ⟨k + 1, ao5, cp5, by omega, by go_num, rfl, hown5, hb5, hsz5⟩
      case measure => simp [intOf]; omega
    · have hdk : decide ((k : Int) < 8) = false := by simp; omega
      obtain rfl : k = 8 := by omega
      have hj := HJ.out
      have hls : (⟨(leF n 8).toArray⟩ : ByteArray).size = 8 := leF_length n 8
      have HCV := Lib.hid (fun W1 (hb1 : Below wr.heap.size wr W1) => run_string_ownF (HO.out.below hb1) (leF_length n 8) (by decide))
      generalize htt : txtN n = t at *
      have HTT := Lib.hid htt
      clear htt
      generalize (⟨(leF n 8).toArray⟩ : ByteArray) = s8 at *
      generalize leF n 8 = l8 at *
      clear HS HJ HL HO hdk
      go_wp2_with fail
      refine wp_region_made 5 22 [.val (.slice ao 8 cap) [(3, .slice ao 8 cap)], .val (.string s8) [(17, .slice ao 8 cap)],
        .new (nilO 24) (mkS 24 24) [], .from (.string (nilB 24)) [] [(2, 19, nilO 24, mkS 24 24)], .val (.string t) [(18, .string s8), (20, .string (nilB 24))]]
        (by kernel_rfl) (by kernel_rfl) (by kernel_rfl) rfl ?_ ?_ ?_ ?_
      · simp [madeMk, MadeSpec.val, MadeSpec.from, MadeSpec.new]
      · simp only [List.take_succ_cons, List.take_zero, madeObl, madeSpecObl, MadeSpec.val, MadeSpec.from, MadeSpec.new, and_true]
        refine ⟨?_, ?_, ?_, ?_, ?_⟩
        · intro a w1 hb h _
          have e0 := h (3, .slice ao 8 cap) (by simp)
          simp only [Array.getD_eq_getD_getElem?] at e0
          simp [go_sem, e0, sQuiet]
        · intro a w1 hb h _
          have e0 := h (17, .slice ao 8 cap) (by simp)
          simp only [Array.getD_eq_getD_getElem?] at e0
          simp [go_sem, e0, sQuiet, HCV.out w1 hb]
        · refine ⟨fun g => rfl, ?_⟩
          intro a w1 hb h
          simp [go_sem, make_nil w1 24 24 rfl (by omega), mkS]
        · intro a w1 hb h hm
          obtain ⟨g, e1, hgo⟩ := hm _ (List.mem_singleton.2 rfl)
          simp only [Array.getD_eq_getD_getElem?] at e1
          simp [go_sem, e1, sQuiet, mkS, text_nil w1 g 24 hgo]
        · intro a w1 hb h _
          have e0 := h (18, .string s8) (by simp)
          have e1 := h (20, .string (nilB 24)) (by simp)
          simp only [Array.getD_eq_getD_getElem?] at e0 e1
          simp [go_sem, e0, e1, sQuiet, hj, nilB_size, hls]
      · simp [madeReads, headPut, madeV, MadeSpec.val, MadeSpec.from, MadeSpec.new, Act.put]
      · simp only [List.take_succ_cons, List.take_zero, List.drop_succ_cons, List.drop_zero, madeEnd, MadeSpec.val, MadeSpec.from, MadeSpec.new, Act.put, List.setIfInBounds_toArray, List.set_cons_succ, List.set_cons_zero]
        intro g0 _ _ W2 hb3 _
        simp only [mkS]
        go_wp2_with fail
        go_ret
        exact ⟨by rw [HTT.out]; rfl, by rw [HBB.out]; exact hb.trans (hb3.mono hsz)⟩
end Go.Proofs.YtjgpcfjnanideaaDoor
