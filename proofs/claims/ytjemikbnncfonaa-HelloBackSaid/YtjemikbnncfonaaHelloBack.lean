/- HelloBack: the message of a message's bytes is it, whatever is behind it, and what is read is written again. No condition. -/
import Derived.Test.YtjemikbnncfonaaRows
import Derived.ProofKit
import Derived.OpenShut
import Derived.Lib.SmallJoins
import Derived.Carry
import Derived.Test.YtjemikbnncfonaaHeI
import Derived.Test.YtjemikbnncfonaaHpD
import Derived.Test.YtjemikbnncfonaaHpO
namespace Go.Proofs.Ytjemikbnncfonaa
open Go.ChangeShapes Go.WideShapes Go.ChangeAt Go.WideMaps Go.WideElems Go.RowKit
open Go.ChangeMaps (open_string shut_string)
set_option maxRecDepth 100000
set_option linter.unusedSimpArgs false
set_option linter.unusedVariables false

theorem helloBack_any (w : World) (m : HMsg) (ao : Option Addr) (n c : Nat) (hn : m.su.length = n) (hz : ∀ k, -9223372036854775808 ≤ m.su.getD k 0 ∧ m.su.getD k 0 ≤ 9223372036854775807) (hI : IntsAt w ao m.su) (r : ByteArray) (hr : r.size ≤ maxLen) :
    Calls Try.prog 5 #[.agg (msC m (.slice ao n c)), .string r] w fun e w' => e = .returned (.bool true) ∧ Below w.heap.size w w' := helloBack_of heCalls m ao n c r w hr hn hz hI

theorem helloBack_laidOut : laidOutB Try.prog = true := by kernel_rfl
theorem helloBack_own : ownKnob Try.prog.godebug = none := by kernel_rfl
theorem helloBack_lifted (os : Os) (started : os.Started) (H : Type) (enc : TypeId × Value → H) :
    ReturnsInHanded {} Try.checked os 5 .any (Rows.helloBackSpec.pre6 enc Try.prog Try.f5 Rows.helloBackRow.domain false) (Rows.helloBackSpec.post enc Try.prog Try.f5 false true false false) := by
  refine returnsInHanded_of_change (C := Try.checked) helloBack_own started (by kernel_rfl) Try.func5
    (ChangeSpec.witness6 (enc := enc) (C := Try.checked) false ⟨#[], #[.agg #[.int .i64 0, .string ⟨#[]⟩, .string ⟨#[]⟩, .slice none 0 0, .string ⟨#[]⟩, .bool false], .string ⟨#[]⟩], []⟩ 8 (by kernel_rfl) (by kernel_rfl) (by kernel_rfl) (by kernel_rfl)) ?_
  intro W base args ds gs before hval0 hW hcnd _
  have hval : ∀ (j : Nat) t v, Try.f5.params[j]? = some t → args[j]? = some v → Value.okWide Try.prog W .any base t v := hval0
  have hW' := hW
  obtain ⟨p, q, hA0, hV, rfl, hfz, hnd⟩ := hW
  have hA : DataW.TrodAll enc Try.prog W 0 (fun _ => true) true Try.f5.params.toList args.toList ds p := hA0
  rw [Try.params5] at hA hval
  obtain ⟨v0, v1, d0, d1, p0, p1, rfl, rfl, rfl, h0, h1⟩ := trodAll_two hA
  obtain ⟨rfl, rfl⟩ := trodVars_none hV
  clear hA0 hval0
  simp only [List.append_nil, List.nil_append] at hW'
  obtain ⟨cs0, rfl, hz0⟩ := okWide_struct Try.underlying24 (hval 0 24 v0 rfl rfl)
  have hk0 := h0
  obtain ⟨m0, a0, n0, c0, rfl, hl0, hw0, hI0⟩ := msg_open hz0 h0
  obtain ⟨s1, rfl, rfl, rfl, w1⟩ := open_string Try.underlying9 (hval 1 9 v1 rfl rfl) h1
  try simp only [List.append_nil, List.nil_append] at hW'
  have hlt0 : ∀ x ∈ p0, x.block < W.heap.size := fun x hx => hW'.lt x (by simp [hx])
  refine (helloBack_any W m0 a0 n0 c0 hl0 hw0 hI0 s1 w1).mono fun e W' ⟨he, hb⟩ => ?_
  subst he
  refine ⟨_, rfl, _, _, _, [], p0 ++ [], [], hW', ?_, ?_, rfl, hb.frame _, fun h => by cases h⟩
  · exact trodAll_mk1 (shut_bool Try.underlying4 _)
  · exact trodAll_mk2 (Below.trod helloBack_laidOut (by kernel_rfl) (of_decide_eq_true (by kernel_rfl)) hk0 hb hlt0) (shut_string Try.underlying9 w1)

theorem helloBack_holds : Rows.HelloBackSaid :=
  OpenClaim.holds_of_wide 5 Try.f5 rfl rfl rfl rfl rfl rfl rfl ⟨rfl, rfl, rfl, rfl, rfl⟩ rfl rfl rfl rfl rfl (by kernel_rfl) Try.func5 (by kernel_rfl)
    (of_decide_eq_true (by kernel_rfl)) (by unfold Func.isWrapper; first | (rw [if_pos (by decide +kernel)]; kernel_rfl) | (rw [if_neg (by decide +kernel)]; exact ⟨rfl, rfl⟩))
    (fun os started H enc _ => helloBack_lifted os started H enc)
#print axioms helloBack_holds
end Go.Proofs.Ytjemikbnncfonaa
