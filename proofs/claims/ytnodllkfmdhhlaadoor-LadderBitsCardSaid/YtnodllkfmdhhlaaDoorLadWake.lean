/- The chapter's examples hold of the program. -/
import Derived.Test.YtnodllkfmdhhlaaDoorLadTop
namespace Go.Proofs.YtnodllkfmdhhlaaDoor
open Go.RowKit Go.Sort
set_option maxRecDepth 100000
set_option linter.unusedSimpArgs false
set_option linter.unusedVariables false

/-- So many bytes of one kind, with noughts behind. -/
def fillL (b : UInt8) (k : Nat) : List UInt8 := List.replicate k b ++ List.replicate (32 - k) 0
theorem fillL_length (b : UInt8) (k : Nat) (h : k ≤ 32) : (fillL b k).length = 32 := by simp [fillL]; omega
theorem fillL_zero (b : UInt8) : fillL b 0 = nilL 32 := rfl
theorem fillL_full (b : UInt8) : fillL b 32 = List.replicate 32 b := by simp [fillL]
theorem fillL_set (b : UInt8) (k : Nat) (h : k < 32) : (fillL b k).set k b = fillL b (k + 1) := by
  rw [fillL, fillL, List.set_append_right _ _ (by simp), List.length_replicate, Nat.sub_self, show 32 - k = (32 - (k + 1)) + 1 by omega, List.replicate_succ, List.set_cons_zero, List.replicate_succ']
  simp
/-- A text of 32 such bytes. -/
def fillT (b : UInt8) : ByteArray := ⟨(List.replicate 32 b).toArray⟩
set_option maxHeartbeats 1000000 in
theorem fill_any (b : UInt8) (w : World) :
    Calls Tryd.prog 23 #[.int .u8 (b.toNat : Int)] w fun e w' => e = .returned (.string (fillT b)) ∧ Below w.heap.size w w' := by
  have hmk := make_nil w 32 32 rfl (by omega)
  have hg0 : (w.alloc (nilO 32)).heap[w.heap.size]? = some (.cells (bcells (fillL b 0)) 5) := blk_new w _
  have HG0 := Lib.hid hg0
  have hb0 := below_new w (nilO 32)
  clear hg0
  generalize nilO 32 = o32 at *
  go_enter Tryd.func23, Tryd.ntmps23
  go_wp2_with fail
  clear hmk
  generalize (w.alloc _) = W0 at *
  generalize hBB : w.heap.size = B at *
  have HBB := Lib.hid hBB
  clear hBB
  go_loopw [4] (fun iv wr => ∃ k : Nat, k ≤ 32 ∧ iv = .int .i64 (k : Int) ∧ wr.heap[B]? = some (.cells (bcells (fillL b k)) 5) ∧ Below B w wr) (fun iv _ => 32 - (intOf iv).toNat)
  case atStart => exact ⟨0, by omega, rfl, HG0.out, hb0⟩
  case round =>
    clear HG0 hb0
    obtain ⟨k, hk, rfl, hg, hb⟩ := hrel
    have HG := Lib.hid hg
    clear hg
    by_cases hlt : k < 32
    · have hd : decide ((k : Int) < 32) = true := by simp; omega
      have r1 := bheap_set HG.out k b
      rw [fillL_set b k hlt] at r1
      have co := bcell_at HG.out k (by rw [fillL_length _ _ (by omega)]; exact hlt)
      have fo := frozen_of_row wr B k _ _ HG.out
      have HG2 := Lib.hid r1
      have hb2 : Below B w (wr.setCell ⟨B, k, none⟩ (.int .u8 (b.toNat : Int))) := hb.setCell (by simp) _
      clear r1 hb
      go_wp2_with fail
      go_roundw
      case rel => exact ⟨k + 1, by omega, by go_num, HG2.out, hb2⟩
      case measure => simp [intOf]; omega
    · have hd : decide ((k : Int) < 32) = false := by simp; omega
      obtain rfl : k = 32 := by omega
      rw [fillL_full] at HG
      have hc := text_row wr B 32 32 (List.replicate 32 b) (List.length_replicate ..) HG.out
      generalize hrow : List.replicate 32 b = row at *
      have HROW := Lib.hid hrow
      clear hrow
      go_wp2_with fail
      go_ret
      exact ⟨by rw [fillT, HROW.out]; rfl, by rw [HBB.out]; exact hb⟩

theorem ladbegins (l m : List UInt8) (n : Nat) (hl : l.length = n) (h : (l.take 4 == m) = true) (hn : 4 ≤ n) :
    (((⟨l.toArray⟩ : ByteArray).size : Int) == (n : Int)) = true ∧ (4 : Int) ≤ ((⟨l.toArray⟩ : ByteArray).size : Int) ∧ (((⟨l.toArray⟩ : ByteArray).extract 0 4).toList == m) = true := by
  have e : (⟨l.toArray⟩ : ByteArray).size = n := by rw [← hl]; rfl
  refine ⟨by rw [e]; simp, by rw [e]; omega, ?_⟩
  rw [Lib.toList_data, Lib.extract_data]
  simpa using h
theorem wake_some : shareX (fillT 17) nineT = ⟨(shareL (List.replicate 32 17) nineL).toArray⟩ ∧ shareE (fillT 17) nineT = 0 := by
  have h : okLB (fillT 17) nineT = true := by
    have h1 : (fillT 17).size = 32 := List.length_replicate ..
    have h2 := nineT_size
    have h3 : shareF (fillT 17).data.toList nineT.data.toList ≠ 0 := example_some
    simp [okLB, h1, h2, h3]
  rw [shareX, shareE, h]
  exact ⟨rfl, rfl⟩
theorem wake_none : shareE (fillT 1) (fillT 0) = 21 := by
  have h : okLB (fillT 1) (fillT 0) = false := by
    have h3 : shareF (fillT 1).data.toList (fillT 0).data.toList = 0 := example_none
    simp [okLB, h3]
  rw [shareE, h]
  rfl
set_option maxHeartbeats 1000000 in
theorem lawake_any (w : World) (hT : PrmQ w) :
    Calls Tryd.prog 9 #[] w fun e w' => e = .returned (.bool true) ∧ Below w.heap.size w w' := by
  have F1 : Hid (∀ W : World, Calls Tryd.prog 23 #[.int .u8 17] W fun e w' => e = .returned (.string (fillT 17)) ∧ Below W.heap.size W w') := Lib.hid (fun W => fill_any 17 W)
  have F2 : Hid (∀ W : World, Calls Tryd.prog 23 #[.int .u8 1] W fun e w' => e = .returned (.string (fillT 1)) ∧ Below W.heap.size W w') := Lib.hid (fun W => fill_any 1 W)
  have F3 : Hid (∀ W : World, Calls Tryd.prog 23 #[.int .u8 0] W fun e w' => e = .returned (.string (fillT 0)) ∧ Below W.heap.size W w') := Lib.hid (fun W => fill_any 0 W)
  have C1 := Lib.hid (fun W hW => publicT_any (fillT 17) W hW)
  have C2 := Lib.hid (fun W hW => shareT_any (fillT 1) (fillT 0) W hW)
  rw [wake_some.1, wake_some.2] at C1
  rw [wake_none] at C2
  obtain ⟨a1, a2, a3⟩ := ladbegins (shareL (List.replicate 32 17) nineL) [123, 78, 144, 155] 32 (shareL_length _ _) (by rw [example_public]; rfl) (by omega)
  generalize shareX (fillT 1) (fillT 0) = y at *
  generalize (⟨(shareL (List.replicate 32 17) nineL).toArray⟩ : ByteArray) = z at *
  generalize fillT 17 = t1 at *
  generalize fillT 1 = t2 at *
  generalize fillT 0 = t3 at *
  simp only [Int.cast_ofNat_Int] at a1
  have HT := Lib.hid hT
  clear hT
  go_enter Tryd.func9, Tryd.ntmps9
  go_wp2_with fail
  refine (F1.out w).mono ?_
  rintro e W1 ⟨rfl, b1⟩
  go_wp2_with fail
  refine (C1.out W1 (HT.out.step b1)).mono ?_
  rintro e W2 ⟨rfl, b2⟩
  have b2 := b1.trans (b2.mono b1.size)
  go_wp2_with fail
  refine (F2.out W2).mono ?_
  rintro e W3 ⟨rfl, b3⟩
  have b3 := b2.trans (b3.mono b2.size)
  go_wp2_with fail
  refine (F3.out W3).mono ?_
  rintro e W4 ⟨rfl, b4⟩
  have b4 := b3.trans (b4.mono b3.size)
  go_wp2_with fail
  refine (C2.out W4 (HT.out.step b4)).mono ?_
  rintro e W5 ⟨rfl, b5⟩
  go_wp2_with fail
  go_ret
  exact ⟨rfl, b4.trans (b5.mono b4.size)⟩
end Go.Proofs.YtnodllkfmdhhlaaDoor
