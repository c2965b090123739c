/- The reference's number of bytes. -/
import Derived.Test.YtfidcdkoggfjaaaDoorFrBelow
import Derived.Test.YtfidcdkoggfjaaaDoorFrAdd
import Derived.Test.YtfidcdkoggfjaaaDoorMove
namespace Go.Proofs.YtfidcdkoggfjaaaDoor
open Go.RowKit Go.Sort
set_option maxRecDepth 100000
set_option linter.unusedSimpArgs false
set_option linter.unusedVariables false

/-- The digits of a text's bytes. -/
def ofL (l : List UInt8) (k : Nat) : List Nat := (List.range k).map fun j => (l.getD (2 * j) 0).toNat + 256 * (l.getD (2 * j + 1) 0).toNat
theorem ofL_length (l : List UInt8) (k : Nat) : (ofL l k).length = k := by simp [ofL]
theorem ofL_snoc (l : List UInt8) (k : Nat) : dvl (ofL l k) ++ [.int .i64 ((((l.getD (2 * k) 0).toNat + 256 * (l.getD (2 * k + 1) 0).toNat : Nat)) : Int)] = dvl (ofL l (k + 1)) := by
  rw [dvl_snoc, ofL, ofL, List.range_succ, List.map_append]; rfl
theorem ofL_full (l : List UInt8) : ofL l 16 = mkD fun j => (l.getD (2 * j) 0).toNat + 256 * (l.getD (2 * j + 1) 0).toNat := rfl
theorem ofL_lt (l : List UInt8) (k j : Nat) (h : j < k) : (ofL l k).getD j 0 < 65536 := by
  rw [ofL, nrange_getD _ _ _ h]
  have := UInt8.toNat_lt (l.getD (2 * j) 0); have := UInt8.toNat_lt (l.getD (2 * j + 1) 0)
  omega
theorem getD_byte (s : ByteArray) (i : Nat) (h : i < s.size) : s.data.toList.getD i 0 = s[i] := by rw [List.getD_eq_getElem?_getD, Array.getElem?_toList]; simp [h]; rfl

set_option maxHeartbeats 1000000 in
theorem ofRefBad_any (s : ByteArray) (w : World) (h : s.size ≠ 32) :
    Calls Tryd.prog 16 #[.string s] w fun e w' => (∃ d', e = .returned (.tuple #[d', .int .i64 1]) ∧ DigAt w' d' (digN 0)) ∧ Below w.heap.size w w' := by
  have hd : ((s.size : Int) != 32) = true := by simp; omega
  have HZ := Lib.hid (zero_any w)
  have HO := Lib.hid (show (w.alloc (.cells zeros16 3)).heap[w.heap.size]? = some (.cells (dcl (digN 0)) 3) from blk_new w _)
  have HB0 := Lib.hid (below_new w (.cells zeros16 3))
  go_enter Tryd.func16, Tryd.ntmps16
  go_wp2_with fail
  refine HZ.out.mono ?_
  rintro e W1 ⟨rfl, rfl⟩
  go_wp2_with fail
  go_ret2
  exact ⟨⟨_, rfl, DigAt.of_block HO.out (digN_length _)⟩, HB0.out⟩

set_option maxHeartbeats 4000000 in
theorem ofRef_any (s : ByteArray) (w : World) (h : s.size = 32) :
    Calls Tryd.prog 16 #[.string s] w fun e w' => (∃ d', e = .returned (.tuple #[d', .int .i64 0]) ∧ DigAt w' d' (digN (leV s.data.toList 32 % pF))) ∧ Below w.heap.size w w' := by
  obtain ⟨i0, hi, hz0, hz1, hz2⟩ := info_parts info_int
  have hd : ((s.size : Int) != 32) = false := by simp [h]
  have HH := Lib.hid h
  have HR := Lib.hid (of_ref s.data.toList)
  clear h
  go_enter Tryd.func16, Tryd.ntmps16
  go_wp2_with fail
  clear hd
  generalize hBB : w.heap.size = B at *
  have HBB := Lib.hid hBB
  have hszB : B ≤ w.heap.size := by omega
  clear hBB
  go_loopw [4, 5] (fun lv iv wr => ∃ (k m : Nat) (ao : Option Addr) (cap : Nat), k ≤ 16 ∧ m = 2 * k ∧ iv = .int .i64 (m : Int) ∧ lv = .slice ao k cap ∧ Own wr B (.slice ao k cap) (dvl (ofL s.data.toList k)) ∧ Below B w wr ∧ B ≤ wr.heap.size) (fun _ iv _ => 32 - (intOf iv).toNat)
  case atStart => exact ⟨0, 0, none, 0, by omega, rfl, rfl, rfl, Own.nil _ _, Below.refl _ _, hszB⟩
  case round =>
    obtain ⟨k, m, ao, cap, hk, hm, rfl, rfl, hown, hb, hsz⟩ := hrel
    have HM := Lib.hid hm
    have HO := Lib.hid hown
    have HL := Lib.hid (show (dvl (ofL s.data.toList k)).length = k by rw [dvl_length, ofL_length])
    clear hown
    by_cases hlt : k < 16
    · have hdk : decide ((m : Int) < 32) = true := by simp; omega
      have hin1 : m < s.size := by rw [HH.out]; omega
      have hin2 : m + 1 < s.size := by rw [HH.out]; omega
      have HN := Lib.hid (ofL_snoc s.data.toList k)
      rw [← hm, getD_byte s _ hin1, getD_byte s _ hin2] at HN
      have hx := UInt8.toNat_lt s[m]; have hy := UInt8.toNat_lt s[m + 1]
      have hm32 : m < 32 := by omega
      have htn : ((m : Int) + 1).toNat = m + 1 := by omega
      have hin3 : (0 : Int) ≤ (m : Int) + 1 ∧ (m : Int) + 1 < (s.size : Int) := by omega
      have hin4 : (m : Int) + 1 < (s.size : Int) := by omega
      have hin5 : (0 : Int) ≤ (m : Int) + 1 := by omega
      clear hm
      go_wp2_with fail
      refine wp_region_moves_tail 12 (.tmp 4) rfl rfl rfl (by kernel_rfl) (by kernel_rfl) (fun _ _ _ _ h => h) ?_
      simp only [List.take_succ_cons, List.take_zero, List.drop_succ_cons, List.drop_zero]
      repeat (first | go_big_quiet_step (fail) | quiet_step (fail))
      refine wpQuiet_nil ?_
      intro W1 hb1
      have HO1 := Lib.hid (HO.out.below hb1)
      have hB1 : Below B w W1 := hb.trans (hb1.mono hsz)
      have hsz1 : B ≤ W1.heap.size := Nat.le_trans hsz hb1.size
      have hcast : (((s[m].toNat + 256 * s[m + 1].toNat : Nat)) : Int) = (s[m].toNat : Int) + 256 * (s[m + 1].toNat : Int) := by omega
      rw [hcast] at HN
      clear hcast HO hb hb1 hsz
      generalize s[m].toNat = p at *
      generalize s[m + 1].toNat = q at *
      clear hin3 hin4 hin5 htn
      go_wp2_with (at_builtin; refine wpList_append_sl rfl (.tmp 14) (.tmp 26) 30 rfl B 3 i0 (.int .i64 0) 8 Tryd.underlying30 hi hz0 hz1 hz2 rfl ao k cap _ rfl (HO1.out.alloc _) HL.out ⟨W1.heap.size, 0, none⟩ 1 1 [.int .i64 ((p : Int) + 256 * (q : Int))] rfl rfl (cell_one_new _ _ _) ?b2 ?b3 ?b4 ?b5 ?_)
      case b2 => intro u hu; simp at hu; subst hu; rfl
      case b3 => omega
      case b4 => omega
      case b5 => simp; omega
      intro ao5 cp5 W5 hown5 hgrow5
      have hb5 : Below B w W5 := below_append (hB1.alloc hsz1 _) (by simp; omega) (HO1.out.alloc _) hgrow5
      have hsz5 : B ≤ W5.heap.size := by have := hgrow5.size; simp at this; omega
      rw [HN.out] at hown5
      clear hgrow5 HO1 hB1
      go_wp2_with fail
      go_roundw
      case rel => exact ⟨k + 1, m + 2, ao5, cp5, by omega, by rw [HM.out]; omega, by go_num, rfl, hown5, hb5, hsz5⟩
      case measure => simp [intOf]; omega
    · have hdk : decide ((m : Int) < 32) = false := by simp; omega
      obtain rfl : k = 16 := by omega
      obtain ⟨g, gc, hvv, hown, hgl⟩ := HO.out.some (by rw [HL.out]; omega)
      have hv2 : Value.slice ao 16 cap = .slice (some ⟨g, 0, none⟩) 16 gc := by rw [hvv, HL.out]
      injection hv2 with h1 h2 h3
      subst h1 h3
      clear hvv
      have hdg : DigAt wr (.slice (some ⟨g, 0, none⟩) 16 cap) (ofL s.data.toList 16) := DigAt.of_own hown (ofL_length _ _)
      have HBl := Lib.hid (belowRef_any _ _ wr hdg (ofL_length _ _) (fun j hj => ofL_lt _ _ _ hj))
      rw [ofL_full, HR.out] at HBl
      clear hdg hown HO
      go_wp2_with fail
      refine HBl.out.mono ?_
      rintro e W3 ⟨⟨d', rfl, hd3⟩, hb3⟩
      have HD3 := Lib.hid hd3
      have hb4 : Below B w W3 := hb.trans (hb3.mono hsz)
      clear hd3 hb3 HBl
      go_wp2_with fail
      go_ret2
      exact ⟨⟨_, rfl, HD3.out⟩, by rw [HBB.out]; exact hb4⟩
end Go.Proofs.YtfidcdkoggfjaaaDoor
