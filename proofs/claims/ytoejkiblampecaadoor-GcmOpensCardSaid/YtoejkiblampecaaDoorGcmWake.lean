/- The chapter's examples; whether a job is not too much. -/
import Derived.Test.YtoejkiblampecaaDoorGcmRtop
import Derived.Test.YtoejkiblampecaaDoorAesLaid
namespace Go.Proofs.YtoejkiblampecaaDoor
open Go.RowKit Go.Sort
set_option maxRecDepth 100000
set_option linter.unusedSimpArgs false
set_option linter.unusedVariables false

set_option maxHeartbeats 1000000 in
theorem gawake_any (w : World) (hT : TabQ w) :
    Calls Tryd.prog 9 #[] w fun e w' => e = .returned (.bool true) ∧ Below w.heap.size w w' := by
  obtain ⟨i0, hi, hz0, hz1, hz2⟩ := info_parts info_u8
  have hmk : ∀ W : World, (Instr.makeSlice 31 (.int .i64 16) (.int .i64 16)).run Tryd.prog W = .ok (.slice (some ⟨W.heap.size, 0, none⟩) 16 16) (W.alloc (.cells (bcells zeroB) 5)) := fun W => by
    have h := run_makeSlice W 31 5 i0 (.int .u8 0) Tryd.underlying31 hi hz0 .i64 .i64 16 16 (by omega) (by omega) (by rw [hz1]; omega) (by rw [hz2]; omega) (by omega)
    rw [hz1, made_zero] at h
    exact h
  have hcs := run_string_row (w.alloc (.cells (bcells zeroB) 5)) w.heap.size 16 zeroB (cells_of_bcells (blk_new w (.cells (bcells zeroB) 5)))
  rw [show zeroB.length = 16 from List.length_replicate] at hcs
  have hzs : (⟨zeroB.toArray⟩ : ByteArray).size = 16 := List.length_replicate
  have hb0 := below_new w (.cells (bcells zeroB) 5)
  have hT0 := hT.step hb0
  obtain ⟨z, hz⟩ : ∃ z : ByteArray, z = ⟨zeroB.toArray⟩ := ⟨_, rfl⟩
  have hz12 : (z.extract 0 12).data.toList = List.replicate 12 0 := by rw [hz, Lib.extract_data]; rfl
  have hs12 : (z.extract 0 12).size = 12 := by rw [Lib.size_eq, hz12]; rfl
  have hzd : z.data.toList = zeroB := by rw [hz]
  rw [← hz] at hcs hzs
  have HSe := Lib.hid (fun W (hq : TabQ W) => gseal_any z (z.extract 0 12) ⟨#[]⟩ z W hzs hs12 (by show 0 ≤ 15000; omega) (by omega) hq)
  have HOp := Lib.hid (fun W => gopenShort_any z (z.extract 0 12) ⟨#[]⟩ ⟨#[120]⟩ W hzs hs12 (by show 1 < 16; omega))
  rw [hz12, hzd] at HSe
  obtain ⟨r, hr⟩ : ∃ r : ByteArray, r = ⟨(sealG zeroB (List.replicate 12 0) [] zeroB).toArray⟩ := ⟨_, rfl⟩
  have hrs : r.size = 32 := by rw [hr]; exact sealG_length _ _ _ _
  have h4 : ((r.extract 0 4).toList == [0x03, 0x88, 0xda, 0xce]) = true := by
    rw [Lib.toList_data, Lib.extract_data, hr]
    simpa using example_seal
  have HSe2 : Hid (∀ W, TabQ W → Calls Tryd.prog 13 #[.string z, .string (z.extract 0 12), .string ⟨#[]⟩, .string z] W fun e w' => e = .returned (.tuple #[.string r, .int .i64 0]) ∧ Below W.heap.size W w') := Lib.hid (by rw [hr]; exact HSe.out)
  have hs1 : ((r.size : Int) == 32) = true := by rw [hrs]; rfl
  have hs2 : (4 : Int) ≤ (r.size : Int) := by rw [hrs]; decide
  have hs3 : (12 : Int) ≤ (z.size : Int) := by rw [hzs]; decide
  have HT := Lib.hid hT0
  clear hr hrs HSe hz12 hs12 hzd hz hT hT0 hi hz0 hz1 hz2 hzs
  go_enter Tryd.func9, Tryd.ntmps9
  go_wp2_with fail
  refine (HSe2.out _ HT.out).mono ?_
  rintro e W1 ⟨rfl, hb1⟩
  have hb2 := hb0.trans (hb1.mono hb0.size)
  clear HSe2 hmk hcs
  go_wp2_with fail
  refine (HOp.out W1).mono ?_
  rintro e W ⟨rfl, rfl⟩
  go_wp2_with fail
  go_ret
  exact ⟨rfl, hb2⟩

def jobC (k n b d : ByteArray) : Array Value := #[.string k, .string n, .string b, .string d]
theorem job_cells {W : World} {B : Nat} {k n b d : ByteArray} {T : TypeId} {fr : Nat × Nat} (h : W.heap[B]? = some (.cells (jobC k n b d) T fr)) : W.cell? ⟨B, 0, none⟩ = some (.string k) ∧ W.cell? ⟨B, 1, none⟩ = some (.string n) ∧ W.cell? ⟨B, 2, none⟩ = some (.string b) ∧ W.cell? ⟨B, 3, none⟩ = some (.string d) := by
  rw [cell_of_row _ _ _ _ _ _ h, cell_of_row _ _ _ _ _ _ h, cell_of_row _ _ _ _ _ _ h, cell_of_row _ _ _ _ _ _ h]; exact ⟨rfl, rfl, rfl, rfl⟩
def fewB (b d : ByteArray) : Bool := decide (b.size ≤ 2000) && decide (d.size ≤ 2000)
set_option maxHeartbeats 1000000 in
theorem few_any (k n b d : ByteArray) (w : World) :
    Calls Tryd.prog 12 #[.agg (jobC k n b d)] w fun e w' => e = .returned (.bool (fewB b d)) ∧ Below w.heap.size w w' := by
  have hb0 := below_new w (.cells (jobC k n b d) 28)
  obtain ⟨c0, c1, c2, c3⟩ := job_cells (blk_new w (.cells (jobC k n b d) 28))
  have HF : Hid (fewB b d = (decide (b.size ≤ 2000) && decide (d.size ≤ 2000))) := Lib.hid rfl
  by_cases h1 : b.size ≤ 2000
  · have d1 : decide ((b.size : Int) ≤ 2000) = true := by simp; omega
    by_cases h2 : d.size ≤ 2000
    · have d2 : decide ((d.size : Int) ≤ 2000) = true := by simp; omega
      have hf : fewB b d = true := by rw [HF.out]; simp [h1, h2]
      rw [hf]
      go_enter Tryd.func12, Tryd.ntmps12
      go_wp2_with fail
      go_ret
      exact ⟨rfl, hb0⟩
    · have d2 : decide ((d.size : Int) ≤ 2000) = false := by simp; omega
      have hf : fewB b d = false := by rw [HF.out]; simp [h2]
      rw [hf]
      go_enter Tryd.func12, Tryd.ntmps12
      go_wp2_with fail
      go_ret
      exact ⟨rfl, hb0⟩
  · have d1 : decide ((b.size : Int) ≤ 2000) = false := by simp; omega
    have hf : fewB b d = false := by rw [HF.out]; simp [h1]
    rw [hf]
    go_enter Tryd.func12, Tryd.ntmps12
    go_wp2_with fail
    go_ret
    exact ⟨rfl, hb0⟩
theorem few_true {b d : ByteArray} (h : fewB b d = true) : b.size ≤ 2000 ∧ d.size ≤ 2000 := by
  simpa [fewB] using h
end Go.Proofs.YtoejkiblampecaaDoor
