/- The block key of package mac: an array of 128 bytes, with masks. -/
import Derived.Test.YthcfolefdalaiaaDoorMacSpec
import Derived.Lib.BufferWrite
namespace Go.Proofs.YthcfolefdalaiaaDoor
open Go.RowKit Go.Sort
set_option maxRecDepth 100000
set_option linter.unusedSimpArgs false
set_option linter.unusedVariables false

/-- The cells of a block key. -/
def bkc (b : List UInt8) : Array Value := bcells b
def zeros128 : Array Value := bcells (List.replicate 128 0)
theorem infoBk : (Tryd.prog.info? 75).map (fun i => (i.zero, i.size)) = some (some (.agg zeros128), 128) := by kernel_rfl
theorem bkc_size (b : List UInt8) : (bkc b).size = b.length := bcells_size b
theorem bkc_one (b : List UInt8) : (bkc b).all (·.oneCell') = true := by
  rw [Array.all_eq_true]
  intro i hi
  simp [bkc, bcells, Lib.byteCells, Value.oneCell']

/-- The copy of a key into a new block. -/
theorem copy_block (V : World) (k : ByteArray) (h : k.size ≤ 128) :
    (Builtin.copy_ #[46, 9] 3 #[.slice (some ⟨V.heap.size, 0, none⟩) 128 128, .string k]).run Tryd.prog (V.alloc (.cells zeros128 75)) = .ok (.int .i64 k.size) ((V.alloc (.cells zeros128 75)).setRow V.heap.size (bkc (blockL k.data.toList))) := by
  obtain ⟨i0, hi, hz0, hz1, hz2⟩ := info_parts info_u8
  have hinfo : (Tryd.prog.info? 5).map (·.size) = some 1 := by rw [hi]; simp [hz1]
  have hl : k.data.toList.length = k.size := (Lib.size_eq k).symm
  have hcp := Lib.run_copy_row_string (P := Tryd.prog) (V.alloc (.cells zeros128 75)) 46 9 3 5 V.heap.size 0 128 128 k zeros128 75 Tryd.underlying46 hinfo (blk_new V _) h (by rw [show zeros128.size = 128 from bcells_size _]; omega)
  rw [hcp]
  have e : (zeros128.toList.take 0 ++ Lib.byteCells k.data.toList ++ zeros128.toList.drop (0 + k.size)).toArray = bkc (blockL k.data.toList) := by
    rw [List.take_zero, List.nil_append, Nat.zero_add, zeros128, bcells, List.toList_toArray, bkc, bcells, blockL, Lib.byteCells_append, hl]
    congr 2
    rw [Lib.byteCells, Lib.byteCells, ← List.map_drop, List.drop_replicate]
  rw [e]
  rfl

theorem blockOf32 (w : World) : Calls Tryd.prog 60 #[.int .i64 32] w fun e w' => e = .returned (.int .i64 64) ∧ w = w' := by
  go_enter Tryd.func60, Tryd.ntmps60
  go_wp2
  go_ret
  exact ⟨rfl, rfl⟩
theorem blockOf64 (w : World) : Calls Tryd.prog 60 #[.int .i64 64] w fun e w' => e = .returned (.int .i64 128) ∧ w = w' := by
  go_enter Tryd.func60, Tryd.ntmps60
  go_wp2
  go_ret
  exact ⟨rfl, rfl⟩
theorem macDigest32 (s : ByteArray) (w : World) (hK : TabK w kf) (hH : TabH w hf) (hs : s.size ≤ 1099511627776) :
    Calls Tryd.prog 58 #[.int .i64 32, .string s] w fun e w' => e = .returned (.string ⟨(sha256L kf hf s.data.toList).toArray⟩) ∧ Below w.heap.size w w' := by
  generalize hx : (⟨(sha256L kf hf s.data.toList).toArray⟩ : ByteArray) = x
  have h1 := sum256_any kf hf s w hK hH hs
  rw [hx] at h1
  go_enter Tryd.func58, Tryd.ntmps58
  go_wp2_with fail
  refine h1.mono ?_
  rintro e W1 ⟨rfl, hb1⟩
  go_wp2_with fail
  go_ret
  exact ⟨rfl, hb1⟩
theorem macDigest64 (s : ByteArray) (w : World) (hK : TabK w kf) (hH : TabH w hf) (hs : s.size ≤ 1099511627776) :
    Calls Tryd.prog 58 #[.int .i64 64, .string s] w fun e w' => e = .returned (.string ⟨(sha512L kf hf s.data.toList).toArray⟩) ∧ Below w.heap.size w w' := by
  generalize hx : (⟨(sha512L kf hf s.data.toList).toArray⟩ : ByteArray) = x
  have h1 := sum512_any kf hf s w hK hH hs
  rw [hx] at h1
  go_enter Tryd.func58, Tryd.ntmps58
  go_wp2_with fail
  refine h1.mono ?_
  rintro e W1 ⟨rfl, hb1⟩
  go_wp2_with fail
  go_ret
  exact ⟨rfl, hb1⟩

/-- A block whose first k bytes are masked. -/
def mixM (m : Int) (b : List UInt8) (k : Nat) : List UInt8 := (b.take k).map (xorB m) ++ b.drop k
theorem mixM_length (m : Int) (b : List UInt8) (k : Nat) : (mixM m b k).length = b.length := by simp [mixM]; omega
theorem mixM_zero (m : Int) (b : List UInt8) : mixM m b 0 = b := by simp [mixM]
theorem mixM_take (m : Int) (b : List UInt8) (k : Nat) (h : k ≤ b.length) : (mixM m b k).take k = maskL k m b := by
  rw [mixM, List.take_append_of_le_length (by simp; omega), List.take_of_length_le (by simp; omega), maskL]
theorem mixM_get (m : Int) (b : List UInt8) (k : Nat) (x : UInt8) (h : b[k]? = some x) : (mixM m b k)[k]? = some x := by
  have hk : k < b.length := (List.getElem?_eq_some_iff.1 h).1
  rw [mixM, List.getElem?_append_right (by simp; omega)]
  simp only [List.length_map, List.length_take, List.getElem?_drop]
  rw [← h]; congr 1; omega
theorem mixM_set (m : Int) (b : List UInt8) (k : Nat) (x : UInt8) (h : b[k]? = some x) : (mixM m b k).set k (xorB m x) = mixM m b (k + 1) := by
  have hk : k < b.length := (List.getElem?_eq_some_iff.1 h).1
  have hx : b[k] = x := (List.getElem?_eq_some_iff.1 h).2
  have hl : ((b.take k).map (xorB m)).length = k := by simp; omega
  rw [mixM, List.set_append, if_neg (by omega), hl, Nat.sub_self, List.drop_eq_getElem_cons hk, List.set_cons_zero, mixM, List.take_succ_eq_append_getElem hk, hx]
  simp
end Go.Proofs.YthcfolefdalaiaaDoor
