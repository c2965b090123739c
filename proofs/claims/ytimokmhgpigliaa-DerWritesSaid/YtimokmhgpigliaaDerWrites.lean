/- DerWrites: for every tag and all bytes up to 70000 the program's thing, and its error, are the reference's; longer bytes are passed over; the chapter's examples hold. No condition. -/
import Derived.Test.YtimokmhgpigliaaRows
import Derived.ProofKit
import Derived.OpenShut
import Derived.Lib.SmallJoins
import Derived.Test.YtimokmhgpigliaaDpCalls
import Derived.Test.YtimokmhgpigliaaDrAwake
import Derived.Test.YtimokmhgpigliaaDerWritesOf
namespace Go.Proofs.Ytimokmhgpigliaa
open Go.ChangeShapes Go.WideShapes Go.ChangeAt Go.WideMaps Go.WideElems Go.RowKit
open Go.ChangeMaps (open_string shut_string)
set_option maxRecDepth 100000
set_option linter.unusedSimpArgs false
set_option linter.unusedVariables false

theorem derWrites_any (n : Int) (s1 : ByteArray) (w : World) (hw : (Lit.int .i64 n).wf = true) (_ : s1.size ≤ maxLen) :
    Calls Try.prog 3 #[.int .i64 n, .string s1] w fun e w' => e = .returned (.bool true) ∧ Below w.heap.size w w' :=
  derWrites_of drCalls (fun W => drwake_of drCalls W) n s1 w (bounds_i64 hw).1 (bounds_i64 hw).2

theorem derWrites_own : ownKnob Try.prog.godebug = none := by kernel_rfl
theorem derWrites_lifted (os : Os) (started : os.Started) (H : Type) (enc : TypeId × Value → H) :
    ReturnsInHanded {} Try.checked os 3 .any (Rows.derWritesSpec.pre6 enc Try.prog Try.f3 Rows.derWritesRow.domain false) (Rows.derWritesSpec.post enc Try.prog Try.f3 false true false false) := by
  refine returnsInHanded_of_change (C := Try.checked) derWrites_own started (by kernel_rfl) Try.func3
    (ChangeSpec.witness6 (enc := enc) (C := Try.checked) false ⟨#[], #[.int .i64 0, .string ⟨#[]⟩], []⟩ 8 (by kernel_rfl) (by kernel_rfl) (by kernel_rfl) (by kernel_rfl)) ?_
  intro W base args ds gs before hval0 hW hcnd _
  have hval : ∀ (j : Nat) t v, Try.f3.params[j]? = some t → args[j]? = some v → Value.okWide Try.prog W .any base t v := hval0
  have hW' := hW
  obtain ⟨p, q, hA0, hV, rfl, hfz, hnd⟩ := hW
  have hA : DataW.TrodAll enc Try.prog W 0 (fun _ => true) true Try.f3.params.toList args.toList ds p := hA0
  rw [Try.params3] at hA hval
  obtain ⟨v0, v1, d0, d1, p0, p1, rfl, rfl, rfl, h0, h1⟩ := trodAll_two hA
  obtain ⟨rfl, rfl⟩ := trodVars_none hV
  obtain ⟨s0, rfl, rfl, rfl, w0⟩ := open_int Try.underlying3 (hval 0 3 v0 rfl rfl) h0
  obtain ⟨s1, rfl, rfl, rfl, w1⟩ := open_string Try.underlying9 (hval 1 9 v1 rfl rfl) h1
  clear hA0 hval0
  simp only [List.append_nil] at hW'
  refine (derWrites_any s0 s1 W w0 w1).mono fun e W' ⟨he, hb⟩ => ?_
  subst he
  refine ⟨_, rfl, _, _, _, [], [], [], hW', ?_, ?_, rfl, hb.frame _, fun h => by cases h⟩
  · exact trodAll_mk1 (shut_bool Try.underlying4 _)
  · exact trodAll_mk2 (shut_int Try.underlying3 w0) (shut_string Try.underlying9 w1)

theorem derWrites_holds : Rows.DerWritesSaid :=
  OpenClaim.holds_of_wide 3 Try.f3 rfl rfl rfl rfl rfl rfl rfl ⟨rfl, rfl, rfl, rfl, rfl⟩ rfl rfl rfl rfl rfl (by kernel_rfl) Try.func3 (by kernel_rfl)
    (of_decide_eq_true (by kernel_rfl)) (by unfold Func.isWrapper; first | (rw [if_pos (by decide +kernel)]; kernel_rfl) | (rw [if_neg (by decide +kernel)]; exact ⟨rfl, rfl⟩))
    (fun os started H enc _ => derWrites_lifted os started H enc)
#print axioms derWrites_holds
end Go.Proofs.Ytimokmhgpigliaa
