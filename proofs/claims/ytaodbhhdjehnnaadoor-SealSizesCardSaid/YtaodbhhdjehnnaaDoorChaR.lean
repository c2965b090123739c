/- The reference's rolled and quarter: a quarter round on numbers in memory; The reference's numbers: bytes as numbers, the least first; The reference's Block: a block of a key's stream; The reference's Xor: data with a key's stream; what Block and Xor refuse. -/
import Derived.Test.YtaodbhhdjehnnaaDoorChaA
import Derived.Test.YtaodbhhdjehnnaaDoorBase
namespace Go.Proofs.YtaodbhhdjehnnaaDoor
section
open Go.RowKit Go.Sort
set_option maxRecDepth 100000
set_option linter.unusedSimpArgs false
set_option linter.unusedVariables false


/-- Sixteen numbers lie in block b. -/
structure QInv (W : World) (b : Nat) (v : List Int) : Prop where
  len : v.length = 16
  v : ∀ j, j < 16 → W.cell? ⟨b, j, none⟩ = some (.int .u32 (v.getD j 0))
  f : ∀ j, j < 16 → W.frozen? ⟨b, j, none⟩ = false
theorem QInv.lt {W : World} {b : Nat} {v : List Int} (i : QInv W b v) : b < W.heap.size := block_lt_of_cell (i.v 0 (by omega))
theorem QInv.step {W W' : World} {b : Nat} {v : List Int} (i : QInv W b v) (hb : Below W.heap.size W W') : QInv W' b v :=
  ⟨i.len, fun j hj => (hb.cell i.lt).trans (i.v j hj), fun j hj => (hb.frozen i.lt).trans (i.f j hj)⟩
theorem QInv.set {W : World} {b : Nat} {v : List Int} (i : QInv W b v) (k : Nat) (hk : k < 16) (x : Int) : QInv (W.setCell ⟨b, k, none⟩ (.int .u32 x)) b (v.set k x) := by
  have hl := i.len
  refine ⟨by simpa using hl, fun j hj => ?_, fun j hj => by rw [World.frozen?_setCell]; exact i.f j hj⟩
  by_cases hjk : j = k
  · subst hjk
    have e : (v.set j x).getD j 0 = x := by simp [List.getD_eq_getElem?_getD, hl, hj]
    rw [e]
    exact World.cell?_setCell_same _ _ _ (i.v j hj)
  · have e : (v.set k x).getD j 0 = v.getD j 0 := by simp [List.getD_eq_getElem?_getD, List.getElem?_set, Ne.symm hjk]
    rw [e, ← i.v j hj]
    exact World.cell?_setCell_other _ _ _ _ (by first | (simp; done) | (simp; omega) | (intro e; cases e; exact hjk rfl))

end

section
open Go.RowKit Go.Sort
set_option maxRecDepth 100000
set_option linter.unusedSimpArgs false
set_option linter.unusedVariables false

theorem info_u32 : (Tryd.prog.info? 44).map (fun i => (i.zero, i.size, i.bytes)) = some (some (.int .u32 0), 1, 4) := by kernel_rfl
theorem or_le32 (a b c d : UInt8) : bits .or .u32 (bits .or .u32 (bits .or .u32 ((a.toNat : Int) % 4294967296) ((b.toNat : Int) % 4294967296 * 256 % 4294967296)) ((c.toNat : Int) % 4294967296 * 65536 % 4294967296)) ((d.toNat : Int) % 4294967296 * 16777216 % 4294967296) = lw a b c d := by
  have ha := UInt8.toNat_lt a; have hb := UInt8.toNat_lt b; have hc := UInt8.toNat_lt c; have hd := UInt8.toNat_lt d
  unfold lw
  generalize a.toNat = a at *; generalize b.toNat = b at *; generalize c.toNat = c at *; generalize d.toNat = d at *
  rw [show (a : Int) % 4294967296 = a by omega, show (b : Int) % 4294967296 = b by omega, show (c : Int) % 4294967296 = c by omega, show (d : Int) % 4294967296 = d by omega]
  go_bits2
theorem getD_byte (s : ByteArray) (j : Nat) (h : j < s.size) : s.data.toList.getD j 0 = s[j] := by
  have h' : j < s.data.toList.length := by rw [← Lib.size_eq]; exact h
  rw [List.getD_eq_getElem?_getD, List.getElem?_eq_getElem h']
  rfl

theorem index_byte (s : ByteArray) (i : Int) (j : Nat) (hi : i = (j : Int)) (h : j < s.size) (w : World) : (Instr.index 9 (.string s) (.int .i64 i)).run Tryd.prog w = .ok (.int .u8 (s[j].toNat : Int)) w := by
  subst hi
  rw [run_index_string (P := Tryd.prog) w 9 s .i64 (j : Int) Tryd.underlying9]
  simp [h]
end

section
open Go.RowKit Go.Sort
set_option maxRecDepth 100000
set_option linter.unusedSimpArgs false
set_option linter.unusedVariables false

theorem own_new (w : World) (xs : List Value) (t : TypeId) : Own (w.alloc (.cells xs.toArray t)) w.heap.size (.slice (some ⟨w.heap.size, 0, none⟩) xs.length xs.length) xs := by
  refine .inr ⟨w.heap.size, xs.length, rfl, Nat.le_refl _, Nat.le_refl _, fun j u hj => ?_, fun j hj => ?_⟩
  · rw [cell_of_row _ _ _ _ _ _ (blk_new w _)]; simpa using hj
  · rw [cell_of_row _ _ _ _ _ _ (blk_new w _)]
    exact ⟨by simp [hj], frozen_of_row _ _ _ _ _ (blk_new w _)⟩
theorem OwnS.news {W : World} {base g cap : Nat} {xs : List Value} (h : OwnS W base g cap xs) : ∀ j u, xs[j]? = some u → W.cell? ((⟨g, 0, none⟩ : Addr).add j) = some u := fun j u hj => by
  rw [Addr.add_lit, Nat.zero_add]; exact h.cells j u hj
theorem u32s_one (l : List Int) : ∀ u ∈ u32s l, u.oneCell' = true := by
  intro u hu
  simp only [u32s, List.mem_map] at hu
  obtain ⟨_, _, rfl⟩ := hu; rfl
theorem four_new (w : World) (a b c d : Value) (t : TypeId) : ∀ j u, [a, b, c, d][j]? = some u → (w.alloc (.cells #[a, b, c, d] t)).cell? ((⟨w.heap.size, 0, none⟩ : Addr).add j) = some u := fun j u hj => by
  rw [Addr.add_lit, Nat.zero_add, cell_of_row _ _ _ _ _ _ (blk_new w _)]
  simpa using hj
theorem outB_take (v f : List Int) (n d : Nat) : outB v f (n + d) = outB v f n ++ (outB v f (n + d)).drop (4 * n) := by
  have h : (outB v f (n + d)).take (4 * n) = outB v f n := by
    induction d with
    | zero => rw [Nat.add_zero, List.take_of_length_le (by rw [outB_length]; omega)]
    | succ d ih => rw [← Nat.add_assoc, outB, List.take_append, ih, outB_length, show 4 * n - 4 * (n + d) = 0 by omega]; simp
  conv => lhs; rw [← List.take_append_drop (4 * n) (outB v f (n + d)), h]

end

section
open Go.RowKit Go.Sort
set_option maxRecDepth 100000
set_option linter.unusedSimpArgs false
set_option linter.unusedVariables false

theorem run_string_nil (w : World) : (convert 32 9 (.slice none 0 0)).run Tryd.prog w = .ok (.string ⟨#[]⟩) w := by
  rw [run_convert_bytes_string w 32 9 5 _ _ _ Tryd.underlying32 Tryd.underlying5 Tryd.underlying9]
  rfl
end
end Go.Proofs.YtaodbhhdjehnnaaDoor
