/- The chapter's example holds. -/
import Derived.Test.YtnjeelfeaiakpaaChaXown
namespace Go.Proofs.Ytnjeelfeaiakpaa
open Go.RowKit Go.Sort
set_option maxRecDepth 100000
set_option linter.unusedSimpArgs false
set_option linter.unusedVariables false

theorem cbegins (l m : List UInt8) (n : Nat) (hl : l.length = n) (h : (l.take 4 == m) = true) (hn : 4 ≤ n) :
    (((⟨l.toArray⟩ : ByteArray).size : Int) == (n : Int)) = true ∧ (4 : Int) ≤ ((⟨l.toArray⟩ : ByteArray).size : Int) ∧ (((⟨l.toArray⟩ : ByteArray).extract 0 4).toList == m) = true := by
  have e : (⟨l.toArray⟩ : ByteArray).size = n := by rw [← hl]; rfl
  refine ⟨by rw [e]; simp, by rw [e]; omega, ?_⟩
  rw [Lib.toList_data, Lib.extract_data]
  simpa using h
def idL (k : Nat) : List UInt8 := (List.range k).map UInt8.ofNat
theorem idL_length (k : Nat) : (idL k).length = k := by simp [idL]
theorem idL_succ (k : Nat) (h : k < 256) : Lib.byteCells (idL (k + 1)) = Lib.byteCells (idL k) ++ [.int .u8 (k : Int)] := by
  simp only [idL, List.range_succ, List.map_append, Lib.byteCells, List.map_cons, List.map_nil]
  congr 3
  simp
  omega
theorem idL_32 : idL 32 = [0, 1, 2, 3, 4, 5, 6, 7, 8, 9, 10, 11, 12, 13, 14, 15, 16, 17, 18, 19, 20, 21, 22, 23, 24, 25, 26, 27, 28, 29, 30, 31] := by decide
set_option maxHeartbeats 1000000 in
theorem cawake_any (w : World) :
    Calls Try.prog 9 #[] w fun e w' => e = .returned (.bool true) ∧ Below w.heap.size w w' := by
  obtain ⟨i8, hi8, hy0, hy1, hy2⟩ := info_parts info_u8
  go_enter Try.func9, Try.ntmps9
  go_wp2_with fail
  generalize hBB : w.heap.size = B at *
  have HBB := Lib.hid hBB
  have hszB : B ≤ w.heap.size := by omega
  clear hBB
  go_loopw [1, 2] (fun v i wr => ∃ (k : Nat) (ao : Option Addr) (cap : Nat), k ≤ 32 ∧ i = .int .i64 (k : Int) ∧ v = .slice ao k cap ∧ Own wr B (.slice ao k cap) (Lib.byteCells (idL k)) ∧ Below B w wr ∧ B ≤ wr.heap.size) (fun _ i _ => 32 - (intOf i).toNat)
  case atStart => exact ⟨0, none, 0, by omega, rfl, rfl, Own.nil _ _, Below.refl _ _, hszB⟩
  case round =>
    clear hszB
    obtain ⟨k, ao, cap, hk, rfl, rfl, hown, hb, hsz⟩ := hrel
    have HO := Lib.hid hown
    have HL := Lib.hid (show (Lib.byteCells (idL k)).length = k from by rw [Lib.byteCells_length, idL_length])
    clear hown
    by_cases hlt : k < 32
    · have hd : decide ((k : Int) < 32) = true := by simp; omega
      have hm : (k : Int) % 256 = (k : Int) := by omega
      have HN := Lib.hid (idL_succ k (by omega))
      go_wp2_with (at_builtin; refine wpList_append_sl rfl (.tmp 9) (.tmp 12) 31 rfl B 5 i8 (.int .u8 0) 1 Try.underlying31 hi8 hy0 hy1 hy2 rfl ao k cap _ rfl (HO.out.alloc _) HL.out ⟨wr.heap.size, 0, none⟩ 1 1 [.int .u8 (k : Int)] rfl rfl (cell_one_new _ _ _) ?b2 ?b3 ?b4 ?b5 ?_)
      case b2 => intro u hu; simp at hu; subst hu; rfl
      case b3 => omega
      case b4 => omega
      case b5 => simp; omega
      intro ao5 cp5 W5 hown5 hgrow5
      have hb5 : Below B w W5 := below_append (hb.alloc hsz _) (by simp; omega) (HO.out.alloc _) hgrow5
      have hsz5 : B ≤ W5.heap.size := by have := hgrow5.size; simp at this; omega
      rw [← HN.out] at hown5
      have HO5 := Lib.hid hown5
      clear hgrow5 HO hown5 hb hsz
      go_wp2_with fail
      go_roundw
      case rel => exact ⟨k + 1, ao5, cp5, by omega, by go_num, rfl, HO5.out, hb5, hsz5⟩
      case measure => simp [intOf]; omega
    · have hd : decide ((k : Int) < 32) = false := by simp; omega
      obtain rfl : k = 32 := by omega
      obtain ⟨g, cq, hv, hos, hgw⟩ := HO.out.some (by rw [HL.out]; omega)
      rw [HL.out] at hv
      cases hv
      have hcv := run_string_row wr g cap (idL 32) (fun j x hx => hos.cells j _ (by simp [Lib.byteCells, hx]))
      rw [idL_length, idL_32] at hcv
      have H1 := Lib.hid (ownBlock_any ⟨#[0, 1, 2, 3, 4, 5, 6, 7, 8, 9, 10, 11, 12, 13, 14, 15, 16, 17, 18, 19, 20, 21, 22, 23, 24, 25, 26, 27, 28, 29, 30, 31]⟩ ⟨#[0, 0, 0, 9, 0, 0, 0, 74, 0, 0, 0, 0]⟩ 1 wr (by decide) (by decide) (by decide))
      obtain ⟨a1, a2, a3⟩ := cbegins (chaB [0, 1, 2, 3, 4, 5, 6, 7, 8, 9, 10, 11, 12, 13, 14, 15, 16, 17, 18, 19, 20, 21, 22, 23, 24, 25, 26, 27, 28, 29, 30, 31] [0, 0, 0, 9, 0, 0, 0, 74, 0, 0, 0, 0] 1) _ 64 (chaB_length _ _ _) cha_example (by omega)
      have A1 := Lib.hid a1; have A3 := Lib.hid a3; have A2 := Lib.hid a2
      clear a1 a2 a3 hos HO HL
      go_wp2_with fail
      refine H1.out.mono ?_
      rintro e W1 ⟨rfl, hb1⟩
      generalize (⟨(chaB [0, 1, 2, 3, 4, 5, 6, 7, 8, 9, 10, 11, 12, 13, 14, 15, 16, 17, 18, 19, 20, 21, 22, 23, 24, 25, 26, 27, 28, 29, 30, 31] [0, 0, 0, 9, 0, 0, 0, 74, 0, 0, 0, 0] 1).toArray⟩ : ByteArray) = a at *
      have a1 := A1.out; have a2 := A2.out; have a3 := A3.out
      clear A1 A2 A3 H1 hcv
      simp only [Int.cast_ofNat_Int] at a1
      go_wp2_with fail
      go_ret
      exact ⟨rfl, by rw [HBB.out]; exact hb.trans (hb1.mono hsz)⟩
end Go.Proofs.Ytnjeelfeaiakpaa
