/- The chapter's examples hold. -/
import Derived.Test.YthcfolefdalaiaaDoorMacX
namespace Go.Proofs.YthcfolefdalaiaaDoor
open Go.RowKit Go.Sort
set_option maxRecDepth 100000
set_option linter.unusedSimpArgs false
set_option linter.unusedVariables false

set_option maxHeartbeats 1000000 in
theorem mawake_any (w : World) (hK : TabK w kf) (hH : TabH w hf) :
    Calls Tryd.prog 20 #[] w fun e w' => e = .returned (.bool true) ∧ Below w.heap.size w w' := by
  have H1 := Lib.hid (mac32_any ⟨#[107, 101, 121]⟩ ⟨#[84, 104, 101, 32, 113, 117, 105, 99, 107, 32, 98, 114, 111, 119, 110, 32, 102, 111, 120, 32, 106, 117, 109, 112, 115, 32, 111, 118, 101, 114, 32, 116, 104, 101, 32, 108, 97, 122, 121, 32, 100, 111, 103]⟩ w hK hH (by decide) (by decide))
  go_enter Tryd.func20, Tryd.ntmps20
  go_wp2_with fail
  refine H1.out.mono ?_
  rintro e W1 ⟨rfl, hb1⟩
  have hK1 := hK.below hb1 hK.lt
  have hH1 := hH.below hb1 hH.lt
  obtain ⟨a1, a2, a3⟩ := begins (mac32 [107, 101, 121] [84, 104, 101, 32, 113, 117, 105, 99, 107, 32, 98, 114, 111, 119, 110, 32, 102, 111, 120, 32, 106, 117, 109, 112, 115, 32, 111, 118, 101, 114, 32, 116, 104, 101, 32, 108, 97, 122, 121, 32, 100, 111, 103]) _ 32 (code32_length _ _) fox (by omega)
  have A1 := Lib.hid a1; have A3 := Lib.hid a3; have A2 := Lib.hid a2
  clear a1 a2 a3 hK hH H1
  generalize (⟨(mac32 [107, 101, 121] [84, 104, 101, 32, 113, 117, 105, 99, 107, 32, 98, 114, 111, 119, 110, 32, 102, 111, 120, 32, 106, 117, 109, 112, 115, 32, 111, 118, 101, 114, 32, 116, 104, 101, 32, 108, 97, 122, 121, 32, 100, 111, 103]).toArray⟩ : ByteArray) = a at *
  go_wp2_with fail
  refine (expand_any ⟨#[107]⟩ ⟨#[]⟩ 0 _ hK1 hH1 (by decide) (by decide) (by decide)).mono ?_
  rintro e W2 ⟨rfl, hb2⟩
  have HE := Lib.hid (show (⟨(expL (blockL (keyOf32 (⟨#[107]⟩ : ByteArray).data.toList)) (⟨#[]⟩ : ByteArray).data.toList 0).toArray⟩ : ByteArray) = ⟨#[]⟩ from by simp [expL])
  rw [HE.out]
  go_wp2_with fail
  refine (macNone_any 48 ⟨#[107]⟩ ⟨#[100]⟩ _ (by decide) (by decide)).mono ?_
  rintro e W3 ⟨rfl, hb3⟩
  have a1 := A1.out; have a2 := A2.out; have a3 := A3.out
  clear A1 A2 A3
  simp only [Int.cast_ofNat_Int] at a1
  go_wp2_with fail
  go_ret
  exact ⟨rfl, (hb1.trans (hb2.mono hb1.size)).trans (hb3.mono (Nat.le_trans hb1.size hb2.size))⟩
end Go.Proofs.YthcfolefdalaiaaDoor
