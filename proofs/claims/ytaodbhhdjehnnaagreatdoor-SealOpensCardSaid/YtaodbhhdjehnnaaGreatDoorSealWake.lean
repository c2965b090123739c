/- The chapter's examples; whether a job is not too much. -/
import Derived.Test.YtaodbhhdjehnnaaGreatDoorSealTop
import Derived.Test.YtaodbhhdjehnnaaGreatDoorAesP
namespace Go.Proofs.YtaodbhhdjehnnaaGreatDoor
open Go.RowKit Go.Sort
set_option maxRecDepth 100000
set_option linter.unusedSimpArgs false
set_option linter.unusedVariables false

/-- So many bytes 0, as a text and as a block of memory. -/
def zl (n : Nat) : List UInt8 := List.replicate n 0
def zb (n : Nat) : ByteArray := ⟨(zl n).toArray⟩
def zo (n : Nat) : Obj := .cells (bcells (zl n)) 5
theorem zb_size (n : Nat) : (zb n).size = n := List.length_replicate
theorem make_zeros (W : World) (n : Nat) (z : Int) (hz : z = (n : Int)) (hn : n ≤ 1048576) : (Instr.makeSlice 31 (.int .i64 z) (.int .i64 z)).run Tryz.prog W = .ok (.slice (some ⟨W.heap.size, 0, none⟩) n n) (W.alloc (zo n)) := by
  subst hz
  obtain ⟨i0, hi, hz0, hz1, hz2⟩ := info_parts info_u8
  have h := run_makeSlice W 31 5 i0 (.int .u8 0) Tryz.underlying31 hi hz0 .i64 .i64 n n (by omega) (by omega) (by rw [hz1]; omega) (by rw [hz2]; omega) (by omega)
  rw [hz1, made_zero, Int.toNat_natCast, Nat.mul_one] at h
  exact h
theorem string_zeros (W : World) (g n : Nat) (h : W.heap[g]? = some (zo n)) : (convert 31 9 (.slice (some ⟨g, 0, none⟩) n n)).run Tryz.prog W = .ok (.string (zb n)) W := by
  have hcs := run_string_row W g n (zl n) (cells_of_bcells h)
  rw [show (zl n).length = n from List.length_replicate] at hcs
  exact hcs

set_option maxHeartbeats 1000000 in
theorem swake_any (w : World) (hT : TabQ w) :
    Calls Tryz.prog 6 #[] w fun e w' => e = .returned (.bool true) ∧ Below w.heap.size w w' := by
  have hmk := make_zeros w 12 12 rfl (by omega)
  have hcs := string_zeros (w.alloc (zo 12)) w.heap.size 12 (blk_new w (zo 12))
  have hb0 := below_new w (zo 12)
  have HT0 := Lib.hid (hT.step hb0)
  obtain ⟨nn, hnn⟩ : ∃ s : ByteArray, s = ⟨(nonS (zb 12).data.toList 258 8).toArray⟩ := ⟨_, rfl⟩
  have HNo := Lib.hid (fun W => sNonce_any (zb 12) 258 W (zb_size 12) (by omega))
  rw [← hnn] at HNo
  have hns : nn.size = 12 := by rw [hnn]; show (nonS _ _ _).length = 12; rw [nonS_length]; rfl
  have h12 : ((nn.extract 10 nn.size).toList == [1, 2]) = true := by
    rw [hns, Lib.toList_data, Lib.extract_data, hnn]
    decide +kernel
  have hs1 : ((nn.size : Int) == 12) = true := by rw [hns]; rfl
  have hs2 : (10 : Int) ≤ (nn.size : Int) := by rw [hns]; decide
  have HOp := Lib.hid (fun W hq => openO_any 4867 (zb 32) (zb 12) noB noB W (by decide) (by decide) hq)
  rw [copenEmpty _ _ (zb_size 32) (zb_size 12)] at HOp
  unfold ansO at HOp
  have HSz := Lib.hid (fun W => sSize_any 4866 W)
  clear hnn hns hT
  go_enter Tryz.func6, Tryz.ntmps6
  go_wp2_with fail
  refine (HNo.out _).mono ?_
  rintro e W1 ⟨rfl, hb1⟩
  have hb2 := hb0.trans (hb1.mono hb0.size)
  have HT1 := Lib.hid (HT0.out.step hb1)
  clear HNo hmk hcs hb0 hb1 HT0
  go_wp2_with fail
  refine wp_region_made 9 39 [.new (zo 32) (mkS 32 32) [], .from (.string (zb 32)) [] [(0, 12, zo 32, mkS 32 32)], .new (zo 12) (mkS 12 12) [], .from (.string (zb 12)) [] [(2, 14, zo 12, mkS 12 12)],
    .val (.tuple #[.string noB, .int .i64 20]) [(13, .string (zb 32)), (15, .string (zb 12))], .val (.tuple #[.string noB, .int .i64 20]) [(16, .tuple #[.string noB, .int .i64 20])],
    .val (.string noB) [(11, .tuple #[.string noB, .int .i64 20])], .val (.int .i64 20) [(11, .tuple #[.string noB, .int .i64 20])], .val (.string noB) [(17, .string noB)]]
    (by kernel_rfl) (by kernel_rfl) (by kernel_rfl) rfl ?_ ?_ ?_ ?_
  · simp [madeMk, MadeSpec.val, MadeSpec.from, MadeSpec.new]
  · simp only [List.take_succ_cons, List.take_zero, madeObl, madeSpecObl, MadeSpec.val, MadeSpec.from, MadeSpec.new, and_true]
    refine ⟨?_, ?_, ?_, ?_, ?_, ?_, ?_, ?_, ?_⟩
    · refine ⟨fun g => rfl, ?_⟩
      intro a w1 hb h
      simp [go_sem, make_zeros w1 32 32 rfl (by omega), mkS]
    · intro a w1 hb h hm
      obtain ⟨g, e1, hgo⟩ := hm _ (List.mem_singleton.2 rfl)
      simp only [Array.getD_eq_getD_getElem?] at e1
      simp [go_sem, e1, sQuiet, mkS, string_zeros w1 g 32 hgo]
    · refine ⟨fun g => rfl, ?_⟩
      intro a w1 hb h
      simp [go_sem, make_zeros w1 12 12 rfl (by omega), mkS]
    · intro a w1 hb h hm
      obtain ⟨g, e1, hgo⟩ := hm _ (List.mem_singleton.2 rfl)
      simp only [Array.getD_eq_getD_getElem?] at e1
      simp [go_sem, e1, sQuiet, mkS, string_zeros w1 g 12 hgo]
    · intro a w1 hb h _
      have e0 := h (13, .string (zb 32)) (by simp)
      have e1 := h (15, .string (zb 12)) (by simp)
      simp only [Array.getD_eq_getD_getElem?] at e0 e1
      simp [go_sem, e0, e1, sQuiet]
      exact HOp.out w1 (HT1.out.step hb)
    · intro a w1 hb h _
      have e0 := h (16, .tuple #[.string noB, .int .i64 20]) (by simp)
      simp only [Array.getD_eq_getD_getElem?] at e0
      simp [go_sem, e0, sQuiet]
    · intro a w1 hb h _
      have e0 := h (11, .tuple #[.string noB, .int .i64 20]) (by simp)
      simp only [Array.getD_eq_getD_getElem?] at e0
      simp [go_sem, e0, sQuiet]
    · intro a w1 hb h _
      have e0 := h (11, .tuple #[.string noB, .int .i64 20]) (by simp)
      simp only [Array.getD_eq_getD_getElem?] at e0
      simp [go_sem, e0, sQuiet]
    · intro a w1 hb h _
      have e0 := h (17, .string noB) (by simp)
      simp only [Array.getD_eq_getD_getElem?] at e0
      simp [go_sem, e0, sQuiet]
  · simp [madeReads, headPut, madeV, MadeSpec.val, MadeSpec.from, MadeSpec.new, Act.put]
  · simp only [List.take_succ_cons, List.take_zero, List.drop_succ_cons, List.drop_zero, madeEnd, MadeSpec.val, MadeSpec.from, MadeSpec.new, Act.put, List.setIfInBounds_toArray, List.set_cons_succ, List.set_cons_zero]
    intro g0 _ _ g2 _ _ W2 hb3 _
    have hb4 := hb2.trans (hb3.mono hb2.size)
    clear hb2 hb3 HOp HT1
    simp only [mkS]
    go_wp2_with fail
    refine (HSz.out W2).mono ?_
    rintro e W ⟨rfl, rfl⟩
    rw [show sizeS 4866 = 0 from rfl]
    go_wp2_with fail
    go_ret
    exact ⟨rfl, hb4⟩

def jobC (k n b d : ByteArray) : Array Value := #[.string k, .string n, .string b, .string d]
theorem job_cells {W : World} {B : Nat} {k n b d : ByteArray} {T : TypeId} {fr : Nat × Nat} (h : W.heap[B]? = some (.cells (jobC k n b d) T fr)) : W.cell? ⟨B, 0, none⟩ = some (.string k) ∧ W.cell? ⟨B, 1, none⟩ = some (.string n) ∧ W.cell? ⟨B, 2, none⟩ = some (.string b) ∧ W.cell? ⟨B, 3, none⟩ = some (.string d) := by
  rw [cell_of_row _ _ _ _ _ _ h, cell_of_row _ _ _ _ _ _ h, cell_of_row _ _ _ _ _ _ h, cell_of_row _ _ _ _ _ _ h]; exact ⟨rfl, rfl, rfl, rfl⟩
def fewB (b d : ByteArray) : Bool := decide (b.size ≤ 2000) && decide (d.size ≤ 2000)
set_option maxHeartbeats 1000000 in
theorem few_any (k n b d : ByteArray) (w : World) :
    Calls Tryz.prog 5 #[.agg (jobC k n b d)] w fun e w' => e = .returned (.bool (fewB b d)) ∧ Below w.heap.size w w' := by
  have hb0 := below_new w (.cells (jobC k n b d) 23)
  obtain ⟨c0, c1, c2, c3⟩ := job_cells (blk_new w (.cells (jobC k n b d) 23))
  have HF : Hid (fewB b d = (decide (b.size ≤ 2000) && decide (d.size ≤ 2000))) := Lib.hid rfl
  by_cases h1 : b.size ≤ 2000
  · have d1 : decide ((b.size : Int) ≤ 2000) = true := by simp; omega
    by_cases h2 : d.size ≤ 2000
    · have d2 : decide ((d.size : Int) ≤ 2000) = true := by simp; omega
      have hf : fewB b d = true := by rw [HF.out]; simp [h1, h2]
      rw [hf]
      go_enter Tryz.func5, Tryz.ntmps5
      go_wp2_with fail
      go_ret
      exact ⟨rfl, hb0⟩
    · have d2 : decide ((d.size : Int) ≤ 2000) = false := by simp; omega
      have hf : fewB b d = false := by rw [HF.out]; simp [h2]
      rw [hf]
      go_enter Tryz.func5, Tryz.ntmps5
      go_wp2_with fail
      go_ret
      exact ⟨rfl, hb0⟩
  · have d1 : decide ((b.size : Int) ≤ 2000) = false := by simp; omega
    have hf : fewB b d = false := by rw [HF.out]; simp [h1]
    rw [hf]
    go_enter Tryz.func5, Tryz.ntmps5
    go_wp2_with fail
    go_ret
    exact ⟨rfl, hb0⟩
theorem few_true {b d : ByteArray} (h : fewB b d = true) : b.size ≤ 2000 ∧ d.size ≤ 2000 := by
  simpa [fewB] using h
end Go.Proofs.YtaodbhhdjehnnaaGreatDoor
