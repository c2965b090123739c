/- What the laws on boxes say of a parameter of a suite, a key and an iv, and of a sealed record's bytes. -/
import Derived.Test.YtffnafikegakcaaGreatDoorRbS
import Derived.Test.YtffnafikegakcaaGreatDoorRbLaid
namespace Go.Proofs.YtffnafikegakcaaGreatDoor
open Go.RowKit Go.Sort
set_option maxRecDepth 100000
set_option linter.unusedSimpArgs false
set_option linter.unusedVariables false

theorem rbext_from (s : ByteArray) (k : Nat) : s.extract k s.size = ⟨(s.data.toList.drop k).toArray⟩ := by rw [Lib.extract_eq, Lib.size_eq, List.take_of_length_le (by simp)]
def kyC (su : Int) (k i : ByteArray) : Array Value := #[.int .i64 su, .string k, .string i]
theorem ky_cells {W : World} {b : Nat} {su : Int} {k i : ByteArray} {T : TypeId} (h : W.heap[b]? = some (.cells (kyC su k i) T)) : W.cell? ⟨b, 0, none⟩ = some (.int .i64 su) ∧ W.cell? ⟨b, 1, none⟩ = some (.string k) ∧ W.cell? ⟨b, 2, none⟩ = some (.string i) := by
  refine ⟨?_, ?_, ?_⟩ <;> rw [cell_of_row W _ _ _ _ _ h] <;> rfl
theorem sel_ok (s : BSt) (kind : Int) (plain : ByteArray) (pad : Nat) (hn : s.n < 65536) (hk : isK kind = true) (h1 : plain.size ≤ 16384) (h2 : plain.size + pad ≤ 16600) : selE s kind plain pad = 0 := by
  rw [selE, hk, if_neg (by decide), if_neg (by omega), if_neg (by omega), if_neg (by omega), if_neg (by omega)]
theorem selX_ok (s : BSt) (kind : Int) (plain : ByteArray) (pad : Nat) (h : selE s kind plain pad = 0) : selX s kind plain pad = headB 23 ((padB kind plain pad).size + 16) ++ hidB s (padB kind plain pad) := by
  rw [selX, if_pos h, Int.toNat_natCast]
theorem selX_size (s : BSt) (hok : BOk s) (kind : Int) (plain : ByteArray) (pad : Nat) (h : selE s kind plain pad = 0) : (selX s kind plain pad).size = plain.size + pad + 22 := by
  rw [selX_ok _ _ _ _ h, ByteArray.size_append, headB_size, (hid_ok s hok _).2, padB_size]; omega
theorem selX_head (s : BSt) (kind : Int) (plain : ByteArray) (pad : Nat) (h : selE s kind plain pad = 0) : (selX s kind plain pad).data.toList.getD 0 0 = 23 := by
  rw [selX_ok _ _ _ _ h]
  have e : ∀ (n : Nat) (t : ByteArray), (headB 23 n ++ t).data.toList.getD 0 0 = 23 := fun n t => by
    rw [ByteArray.data_append, Array.toList_append, show (headB 23 n).data.toList = headL 23 n from rfl, headL]
    exact show wbyte 23 0 = 23 by decide +kernel
  exact e _ _
theorem selX_tail (s : BSt) (kind : Int) (plain : ByteArray) (pad : Nat) (h : selE s kind plain pad = 0) : (selX s kind plain pad).extract 5 (selX s kind plain pad).size = hidB s (padB kind plain pad) := by
  rw [selX_ok _ _ _ _ h, rbext_from]
  apply ByteArray.ext
  show (List.drop 5 _).toArray = _
  rw [ByteArray.data_append, Array.toList_append, List.drop_append_of_le_length (by show 5 ≤ (headL 23 _).length; exact Nat.le_refl _), show (headB 23 ((padB kind plain pad).size + 16)).data.toList.drop 5 = [] from rfl]
  simp
end Go.Proofs.YtffnafikegakcaaGreatDoor
