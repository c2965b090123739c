/- From the row's condition on the table of squares to what the walks ask; the chapter's examples; two lists of texts that are the same. -/
import Derived.Test.YtlbhhnjchhncgaaDoorAesTop
import Derived.Test.YtlbhhnjchhncgaaDoorRows
import Derived.ProofKit
import Derived.LaidMore
import Derived.OpenShut
import Derived.Stop.Joined
import Derived.Lib.LaidTab
namespace Go.Proofs.YtlbhhnjchhncgaaDoor
open Go.ChangeShapes Go.WideShapes Go.ChangeAt Go.WideMaps Go.WideElems Go.RowKit
set_option maxRecDepth 100000
set_option linter.unusedSimpArgs false
set_option linter.unusedVariables false

def laid1 : List (String × DataW Unit) := [("cresset/aes.squares", Rows.laid_cresset_aes_squares)]
theorem own1 : ownKnob Tryd.prog.godebug = none := by kernel_rfl
theorem gQ : Tryd.prog.globalNamed "cresset/aes.squares" = some 0 := by kernel_rfl
theorem tQ : (Tryd.prog.globals[0]?).map (·.type) = some 72 := by kernel_rfl
/-- The door's own heap meets the condition. -/
theorem door_met1 (os : Os) (args : Array Value) : laidMetH Tryd.prog laid1 ((World.doorLaid Tryd.prog 400 os).forCall (fun _ _ => 0) ⟨#[], args, []⟩).memory :=
  laidMetH_of_parts3 (fuel := 8) (laidMet_of_run' 8 (by kernel_rfl) (by kernel_rfl)) (by kernel_rfl) (by kernel_rfl)
/-- What the condition gives the walks. -/
theorem of_laid1 {W : World} (h : laidMetH Tryd.prog laid1 W) : TabQ W := by
  rw [MakeChecks.laidMetH_plain _ _ _ (by kernel_rfl)] at h
  obtain ⟨ps, ⟨g0, t0, cs0, f0, p0, q0, hg0, ht0, hv0, hd0, _, _⟩, _, _⟩ := h
  obtain rfl := Option.some.inj (gQ.symm.trans hg0)
  obtain rfl := Option.some.inj (tQ.symm.trans ht0)
  have e0 : cs0.toList = ([1, 4, 16, 64, 27, 108, 171, 154] : List Int).map fun z => Value.int .u64 z := Lib.cells_of_tab (n := 8) Tryd.underlying72 Tryd.underlying50 (by kernel_rfl) (by kernel_rfl) hd0
  intro t ht
  have := World.var?_cell hg0 hv0 t
  rw [this, ← Array.getElem?_toList, e0]
  rcases (show t = 0 ∨ t = 1 ∨ t = 2 ∨ t = 3 ∨ t = 4 ∨ t = 5 ∨ t = 6 ∨ t = 7 by omega) with rfl | rfl | rfl | rfl | rfl | rfl | rfl | rfl <;> rfl

set_option maxHeartbeats 1000000 in
/-- Two lists of the same texts. -/
theorem texts_same (ao bo : Option Addr) (n ca cb : Nat) (f : Nat → ByteArray) (w : World) (hn : n ≤ 1000) (ha : TextsAt w ao n f) (hb : TextsAt w bo n f) :
    Calls Tryd.prog 13 #[.slice ao n ca, .slice bo n cb] w fun e w' => e = .returned (.bool true) ∧ Below w.heap.size w w' := by
  have HA := Lib.hid ha; have HB := Lib.hid hb
  have hd0 : ((n : Int) != (n : Int)) = false := by simp
  clear ha hb
  go_enter Tryd.func13, Tryd.ntmps13
  go_wp2_with fail
  go_loopw [5] (fun iv wr => ∃ k : Nat, k ≤ n ∧ iv = .int .i64 (k : Int) ∧ Below w.heap.size w wr) (fun iv _ => n - (intOf iv).toNat)
  case atStart => exact ⟨0, by omega, rfl, Below.refl _ _⟩
  case round =>
    obtain ⟨k, hk, rfl, hbr⟩ := hrel
    by_cases hlt : k < n
    · have hd : decide ((k : Int) < (n : Int)) = true := by simp; omega
      obtain ⟨g, off, rfl, c1⟩ := (HA.out.step hbr) k hlt
      obtain ⟨g2, off2, rfl, c2⟩ := (HB.out.step hbr) k hlt
      have ex : ((f k).toList == (f k).toList) = true := by simp
      generalize f k = t at *
      go_wp2_with fail
      go_quiet (fail)
      go_wp2_with fail
      go_roundw
      case rel => exact ⟨k + 1, by omega, by go_num, below_drewN hbr _⟩
      case measure => simp [intOf]; omega
    · have hd : decide ((k : Int) < (n : Int)) = false := by simp; omega
      go_wp2_with fail
      go_ret
      exact ⟨rfl, hbr⟩

theorem texts_of_own {W : World} {base n cap : Nat} {ao : Option Addr} {f : Nat → ByteArray} (h : Own W base (.slice ao n cap) ((List.range n).map fun i => Value.string (f i))) : TextsAt W ao n f := fun j hj => by
  obtain ⟨g, c, hv, ho, _⟩ := h.some (by simp; omega)
  injection hv with h1 _ _
  refine ⟨g, 0, h1, ?_⟩
  rw [Nat.zero_add]
  exact ho.cells j _ (by simp [hj])
theorem first_four (l : List UInt8) (h : l.length = 16) : (⟨l.toArray⟩ : ByteArray).size = 16 := h
set_option maxHeartbeats 1000000 in
theorem aawake_any (w : World) (hT : TabQ w) :
    Calls Tryd.prog 10 #[] w fun e w' => e = .returned (.bool true) ∧ Below w.heap.size w w' := by
  have HBk := Lib.hid (block_enc ⟨#[0, 1, 2, 3, 4, 5, 6, 7, 8, 9, 10, 11, 12, 13, 14, 15]⟩ ⟨#[0, 17, 34, 51, 68, 85, 102, 119, 136, 153, 170, 187, 204, 221, 238, 255]⟩ w rfl rfl hT)
  obtain ⟨r, hr⟩ : ∃ r, r = encS ⟨#[0, 1, 2, 3, 4, 5, 6, 7, 8, 9, 10, 11, 12, 13, 14, 15]⟩ ⟨#[0, 17, 34, 51, 68, 85, 102, 119, 136, 153, 170, 187, 204, 221, 238, 255]⟩ := ⟨_, rfl⟩
  have hs : r.size = 16 := by rw [hr]; exact encS_size _ _
  have h4 : ((r.extract 0 4).toList == [0x69, 0xc4, 0xe0, 0xd8]) = true := by
    rw [Lib.toList_data, Lib.extract_data, hr]
    simpa [encS] using fips
  rw [← hr] at HBk
  have hs1 : ((r.size : Int) == 16) = true := by rw [hs]; rfl
  have hs2 : (4 : Int) ≤ (r.size : Int) := by rw [hs]; decide
  have HS := Lib.hid (fun W hT => ownSwap_any 0 W hT)
  rw [show ((sb 0).toNat : Int) = 99 from by decide +kernel] at HS
  have HT := Lib.hid hT
  clear hr hs hT
  go_enter Tryd.func10, Tryd.ntmps10
  go_wp2_with fail
  refine HBk.out.mono ?_
  rintro e W1 ⟨rfl, hb1⟩
  have HT1 := Lib.hid (HT.out.step hb1)
  clear HBk HT
  go_wp2_with fail
  refine (HS.out _ HT1.out).mono ?_
  rintro e W2 ⟨rfl, hb2⟩
  go_wp2_with fail
  go_ret
  exact ⟨rfl, hb1.trans (hb2.mono hb1.size)⟩
end Go.Proofs.YtlbhhnjchhncgaaDoor
