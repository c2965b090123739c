/- What the laws of signatures ask of the program's calls; 32 bytes of one kind; the chapter's examples. -/
import Derived.Test.YtcpnenjmbajbeaaDoorSgLaid
import Derived.Test.YtcpnenjmbajbeaaDoorSgEx
import Derived.Test.YtcpnenjmbajbeaaDoorConvS
namespace Go.Proofs.YtcpnenjmbajbeaaDoor
open Go.RowKit Go.Sort
set_option maxRecDepth 100000
set_option linter.unusedSimpArgs false
set_option linter.unusedVariables false

/-- What the program's calls answer. -/
structure SgCalls : Prop where
  pub : ∀ (s : ByteArray) (w : World), SgnQ w → Calls Tryd.prog 5 #[.string s] w fun e w' => e = .returned (.tuple #[.string (pubX s), .int .i64 (seedE s)]) ∧ Below w.heap.size w w'
  sgn : ∀ (s t : ByteArray) (w : World), t.size ≤ 1000000 → SgnQ w → Calls Tryd.prog 6 #[.string s, .string t] w fun e w' => e = .returned (.tuple #[.string (sgnX s t), .int .i64 (seedE s)]) ∧ Below w.heap.size w w'
  ver : ∀ (p t g : ByteArray) (w : World), t.size ≤ 1000000 → SgnQ w → Calls Tryd.prog 7 #[.string p, .string t, .string g] w fun e w' => e = .returned (.int .i64 (verE p t g)) ∧ Below w.heap.size w w'
def fillL (b : UInt8) (k : Nat) : List UInt8 := List.replicate k b ++ List.replicate (32 - k) 0
theorem fillL_length (b : UInt8) (k : Nat) (h : k ≤ 32) : (fillL b k).length = 32 := by simp [fillL]; omega
theorem fillL_set (b : UInt8) (k : Nat) (h : k < 32) : (fillL b k).set k b = fillL b (k + 1) := by
  rw [fillL, fillL, List.set_append_right _ _ (by simp), List.length_replicate, Nat.sub_self, show 32 - k = (32 - (k + 1)) + 1 by omega, List.replicate_succ, List.set_cons_zero, List.replicate_succ', List.append_assoc]
  rfl
set_option maxHeartbeats 2000000 in
theorem fill12_any (w : World) :
    Calls Tryd.prog 9 #[.int .u8 17] w fun e w' => e = .returned (.string tryT) ∧ Below w.heap.size w w' := by
  have hmk := make_nil w 32 32 rfl (by omega)
  have HN := Lib.hid (show (w.alloc (nilO 32)).heap[w.heap.size]? = some (.cells (bcells (fillL 17 0)) 5) from blk_new w (nilO 32))
  have hb0 := below_new w (nilO 32)
  go_enter Tryd.func9, Tryd.ntmps9
  go_wp2_with fail
  clear hmk
  generalize (w.alloc _) = W0 at *
  generalize hBB : w.heap.size = B at *
  have HBB := Lib.hid hBB
  clear hBB
  go_loopw [4] (fun iv wr => ∃ k : Nat, k ≤ 32 ∧ iv = .int .i64 (k : Int) ∧ wr.heap[B]? = some (.cells (bcells (fillL 17 k)) 5) ∧ Below B w wr) (fun iv _ => 32 - (intOf iv).toNat)
  case atStart => exact ⟨0, by omega, rfl, HN.out, hb0⟩
  case round =>
    clear HN hb0
    obtain ⟨k, hk, rfl, hg, hb⟩ := hrel
    have HG := Lib.hid hg
    clear hg
    by_cases hlt : k < 32
    · have hd : decide ((k : Int) < 32) = true := by simp; omega
      have hk32 : (k : Int) < 32 := by omega
      have co := bcell_at HG.out k (by rw [fillL_length _ _ (by omega)]; exact hlt)
      have fo := frozen_of_row wr B k _ _ HG.out
      have r1 := bheap_set HG.out k 17
      rw [fillL_set 17 k hlt] at r1
      have HG2 := Lib.hid r1
      have hb2 : Below B w (wr.setCell ⟨B, k, none⟩ (.int .u8 (((17 : UInt8).toNat : Nat) : Int))) := hb.setCell (by simp) _
      rw [show (((17 : UInt8).toNat : Nat) : Int) = 17 from rfl] at hb2 HG2
      clear r1 hb HG
      go_wp2_with fail
      go_roundw
      case rel => exact ⟨k + 1, by omega, by go_num, HG2.out, hb2⟩
      case measure => simp [intOf]; omega
    · have hd : decide ((k : Int) < 32) = false := by simp; omega
      obtain rfl : k = 32 := by omega
      have ht := text_row wr B 32 32 tryL rfl HG.out
      obtain ⟨tt, htt⟩ : ∃ tt, tryT = tt := ⟨_, rfl⟩
      rw [show (⟨tryL.toArray⟩ : ByteArray) = tryT from rfl, htt] at ht
      have HTT := Lib.hid htt
      clear htt
      go_wp2_with fail
      go_ret
      exact ⟨by rw [HTT.out]; rfl, by rw [HBB.out]; exact hb⟩
set_option maxHeartbeats 4000000 in
theorem sgwake_of (C : SgCalls) (w : World) (hT : SgnQ w) :
    Calls Tryd.prog 4 #[] w fun e w' => e = .returned (.bool true) ∧ Below w.heap.size w w' := by
  have CF := Lib.hid fill12_any
  have CP := Lib.hid (C.pub tryT)
  rw [show pubX tryT = pubT tryT from if_pos tryT_size, show seedE tryT = 0 from if_pos tryT_size] at CP
  have CV := Lib.hid (fun W hW => C.ver (pubT tryT) ⟨#[97]⟩ ⟨#[]⟩ W (by decide) hW)
  rw [try_verify] at CV
  obtain ⟨b1, b2, b3⟩ := begins (leF tryN 32) [208, 74, 178, 50] 32 (leF_length _ 32) try_begins (by omega)
  rw [← try_public] at b1 b2 b3
  simp only [Int.cast_ofNat_Int] at b1
  generalize pubT tryT = pb at *
  generalize tryT = tt at *
  have HP := Lib.hid hT
  have hb := Below.refl w.heap.size w
  clear hT
  go_enter Tryd.func4, Tryd.ntmps4
  go_wp2_with fail
  refine (CF.out w).mono ?_
  rintro e W1 ⟨rfl, bk⟩
  replace hb := hb.trans (bk.mono hb.size)
  replace HP := Lib.hid (HP.out.step bk)
  clear bk
  go_wp2_with fail
  refine (CP.out W1 HP.out).mono ?_
  rintro e W2 ⟨rfl, bk⟩
  replace hb := hb.trans (bk.mono hb.size)
  replace HP := Lib.hid (HP.out.step bk)
  clear bk
  go_wp2_with fail
  refine (CV.out W2 HP.out).mono ?_
  rintro e W3 ⟨rfl, bk⟩
  replace hb := hb.trans (bk.mono hb.size)
  clear bk
  go_wp2_with fail
  go_ret
  exact ⟨rfl, hb⟩
end Go.Proofs.YtcpnenjmbajbeaaDoor
