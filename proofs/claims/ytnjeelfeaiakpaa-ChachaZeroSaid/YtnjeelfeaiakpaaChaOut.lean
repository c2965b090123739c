/- The program's store and block: sixteen numbers as bytes. -/
import Derived.Test.YtnjeelfeaiakpaaChaMix
namespace Go.Proofs.Ytnjeelfeaiakpaa
open Go.RowKit Go.Sort
set_option maxRecDepth 100000
set_option linter.unusedSimpArgs false
set_option linter.unusedVariables false

/-- Bytes with so many of a number's four at a place. -/
def putB (l : List UInt8) (off : Nat) (v : Int) : Nat → List UInt8
  | 0 => l
  | k + 1 => (putB l off v k).set (off + k) (wbyte v (8 * k))
theorem putB_length (l : List UInt8) (off : Nat) (v : Int) (k : Nat) : (putB l off v k).length = l.length := by
  induction k with
  | zero => rfl
  | succ k ih => rw [putB, List.length_set, ih]
theorem putB_mid (p r : List UInt8) (x0 x1 x2 x3 : UInt8) (v : Int) : putB (p ++ x0 :: x1 :: x2 :: x3 :: r) p.length v 4 = p ++ leB v ++ r := by
  simp only [putB, leB, List.set_append, Nat.add_zero, Nat.mul_zero]
  simp
set_option maxHeartbeats 1000000 in
theorem store_any (l : List UInt8) (b off cap : Nat) (T : TypeId) (v : Int) (w : World) (hg : w.heap[b]? = some (.cells (bcells l) T)) (ho : off + 4 ≤ l.length) :
    Calls Try.prog 21 #[.slice (some ⟨b, off, none⟩) 4 cap, .int .u32 v] w fun e w' => e = .returned (.tuple #[]) ∧ w'.heap[b]? = some (.cells (bcells (putB l off v 4)) T) ∧ But b w w' := by
  have HG := Lib.hid hg
  clear hg
  go_enter Try.func21, Try.ntmps21
  go_wp2_with fail
  go_loopw [7] (fun i wr => ∃ k : Nat, k ≤ 4 ∧ i = .int .i64 (k : Int) ∧ wr.heap[b]? = some (.cells (bcells (putB l off v k)) T) ∧ But b w wr) (fun i _ => 4 - (intOf i).toNat)
  case atStart => exact ⟨0, by omega, rfl, HG.out, But.refl _ _⟩
  case round =>
    clear HG
    obtain ⟨k, hk, rfl, hg, hb⟩ := hrel
    have HG := Lib.hid hg
    clear hg
    by_cases hlt : k < 4
    · have hd : decide ((k : Int) < 4) = true := by simp; omega
      have hj : off + k < (putB l off v k).length := by rw [putB_length]; omega
      have hx : wr.cell? ⟨b, off + k, none⟩ = some (.int .u8 ((putB l off v k)[off + k].toNat : Int)) := by rw [cell_of_row wr _ _ _ _ _ HG.out]; exact bcells_get _ _ _ (List.getElem?_eq_getElem hj)
      have hf : wr.frozen? ⟨b, off + k, none⟩ = false := frozen_of_row wr _ _ _ _ HG.out
      generalize ((putB l off v k)[off + k].toNat : Int) = x at hx
      have HS := Lib.hid (show ∀ x : Int, x = v / 2 ^ (8 * k) % 256 → (wr.setCell ⟨b, off + k, none⟩ (.int .u8 x)).heap[b]? = some (.cells (bcells (putB l off v (k + 1))) T) from by
        rintro x rfl
        rw [← wbyte_toNat v (8 * k), putB, ← bcells_set]
        exact Go.heap_setCell_same _ _ _ _ _ _ HG.out)
      have e8 : (8 * (k : Int)).toNat = 8 * k := by omega
      have n8 : (0 : Int) ≤ 8 * (k : Int) := by omega
      go_wp2_with fail
      go_roundw
      case rel => exact ⟨k + 1, by omega, by go_num, HS.out _ (by simp), hb.trans (But.setCell _ _ _ _ rfl)⟩
      case measure => simp [intOf]; omega
    · have hd : decide ((k : Int) < 4) = false := by simp; omega
      obtain rfl : k = 4 := by omega
      go_wp2_with fail
      go_end0
      exact ⟨rfl, HG.out, hb⟩
end Go.Proofs.Ytnjeelfeaiakpaa
