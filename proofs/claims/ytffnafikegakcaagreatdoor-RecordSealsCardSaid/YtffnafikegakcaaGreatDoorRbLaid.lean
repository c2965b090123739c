/- From the rows' conditions on the tables that they lay to what the walks ask; a suite, a key and an iv among a law's parameters. -/
import Derived.Test.YtffnafikegakcaaGreatDoorAesP
import Derived.Test.YtffnafikegakcaaGreatDoorRows
import Derived.ProofKit
import Derived.LaidMore
import Derived.OpenShut
import Derived.Stop.Joined
import Derived.Lib.LaidTab
import Derived.Lib.SmallJoins
import Derived.Lay
namespace Go.Proofs.YtffnafikegakcaaGreatDoor
open Go.ChangeShapes Go.WideShapes Go.ChangeAt Go.WideMaps Go.WideElems Go.RowKit
set_option maxRecDepth 100000
set_option linter.unusedSimpArgs false
set_option linter.unusedVariables false

def laid3 : List (String × DataW Unit) := [("unicode/utf8.acceptRanges", Rows.laid_unicode_utf8_acceptRanges), ("cresset/aes.squares", Rows.laid_cresset_aes_squares), ("unicode/utf8.first", Rows.laid_unicode_utf8_first)]
theorem own3 : ownKnob Tryz.prog.godebug = none := by kernel_rfl
/-- A heap that lays them meets the condition. -/
theorem door_met3 (os : Os) (args : Array Value) : laidMetH Tryz.prog laid3 ((World.laidAll Tryz.prog os laid3).forCall (fun _ _ => 0) ⟨#[], args, []⟩).memory := by
  rw [MakeChecks.laidMetH_plain _ _ _ (by kernel_rfl)]
  exact laidMet_laidAll _ (by kernel_rfl) (by kernel_rfl)
/-- What the condition gives the walks. -/
theorem of_laid3 {W : World} (h : laidMetH Tryz.prog laid3 W) : TabQ W := by
  rw [MakeChecks.laidMetH_plain _ _ _ (by kernel_rfl)] at h
  obtain ⟨ps, ⟨gA, tA, csA, fA, pA, qA, hgA, htA, hvA, hdA, ⟨g0, t0, cs0, f0, p0, q0, hg0, ht0, hv0, hd0, _, _⟩, _⟩, _, _⟩ := h
  obtain rfl := Option.some.inj (gQ.symm.trans hg0)
  obtain rfl := Option.some.inj (tQ.symm.trans ht0)
  have e0 : cs0.toList = ([1, 4, 16, 64, 27, 108, 171, 154] : List Int).map fun z => Value.int .u64 z := Lib.cells_of_tab (n := 8) Tryz.underlying204 Tryz.underlying185 (by kernel_rfl) (by kernel_rfl) hd0
  intro t ht
  have := World.var?_cell hg0 hv0 t
  rw [this, ← Array.getElem?_toList, e0]
  rcases (show t = 0 ∨ t = 1 ∨ t = 2 ∨ t = 3 ∨ t = 4 ∨ t = 5 ∨ t = 6 ∨ t = 7 by omega) with rfl | rfl | rfl | rfl | rfl | rfl | rfl | rfl <;> rfl

section
variable {H : Type} {enc : TypeId × Value → H} {w : World} {base : Nat} {spare : Nat → Bool} {held : Bool}
theorem open_keys {r : Reach} {b0 : Nat} {v : Value} {dd : DataW H} {p : List MemPlace} (hv : Value.okWide Tryz.prog w r b0 23 v) (h : DataW.Trod enc Tryz.prog w base spare held 23 v dd p) :
    ∃ (su : Int) (k i : ByteArray), v = .agg #[.int .i64 su, .string k, .string i] ∧ dd = .agg [.lit (.int .i64 su), .lit (.string k.data.toList), .lit (.string i.data.toList)] ∧ p = [] ∧ (Lit.int .i64 su).wf = true ∧ k.size ≤ maxLen ∧ i.size ≤ maxLen := by
  obtain ⟨c0, c1, c2, y0, y1, y2, m, rfl, rfl, rfl, hy0, hy1, hy2⟩ := Joins.open_agg3 Tryz.underlying23 (by kernel_rfl) (by kernel_rfl) hv h
  obtain ⟨su, e0, rfl, w0⟩ := DataW.trod_int Tryz.underlying3 hy0
  obtain ⟨k, e1, rfl, w1⟩ := DataW.trod_string Tryz.underlying9 hy1
  obtain ⟨i, e2, rfl, w2⟩ := DataW.trod_string Tryz.underlying9 hy2
  simp at e0 e1 e2
  subst e0 e1 e2
  exact ⟨su, k, i, rfl, rfl, rfl, w0, w1, w2⟩
theorem shut_keys {su : Int} {k i : ByteArray} (w0 : (Lit.int .i64 su).wf = true) (w1 : k.size ≤ maxLen) (w2 : i.size ≤ maxLen) :
    DataW.Trod enc Tryz.prog w base spare held 23 (.agg #[.int .i64 su, .string k, .string i]) (.agg [.lit (.int .i64 su), .lit (.string k.data.toList), .lit (.string i.data.toList)]) [] :=
  Joins.shut_agg3 (y0 := (.lit (.int .i64 su), [])) (y1 := (.lit (.string k.data.toList), [])) (y2 := (.lit (.string i.data.toList), [])) Tryz.underlying23 (by kernel_rfl) (by kernel_rfl)
    ⟨1, by simp [DataW.trod, Tryz.underlying3, w0]⟩ ⟨1, by simp [DataW.trod, Tryz.underlying9, w1]⟩ ⟨1, by simp [DataW.trod, Tryz.underlying9, w2]⟩
end
end Go.Proofs.YtffnafikegakcaaGreatDoor
