/- DerOids: for all numbers up to 50 their bytes, and for all bytes up to 1000 their numbers, with the errors, are the reference's; more numbers and longer bytes are passed over; the chapter's examples hold. No condition. -/
import Derived.Test.YtimokmhgpigliaaRows
import Derived.ProofKit
import Derived.OpenShut
import Derived.Lib.SmallJoins
import Derived.ChangeSlices
import Derived.Carry
import Derived.Test.YtimokmhgpigliaaDpCalls
import Derived.Test.YtimokmhgpigliaaDrAwake
import Derived.Test.YtimokmhgpigliaaDerOidsOf
namespace Go.Proofs.Ytimokmhgpigliaa
open Go.ChangeShapes Go.WideShapes Go.ChangeAt Go.WideMaps Go.WideElems Go.RowKit
open Go.ChangeMaps (open_string shut_string)
set_option maxRecDepth 100000
set_option linter.unusedSimpArgs false
set_option linter.unusedVariables false

theorem derOids_any (ao : Option Addr) (ln cp : Nat) (zs : List Int) (hl : zs.length = ln) (hz : ∀ k, -9223372036854775808 ≤ zs.getD k 0 ∧ zs.getD k 0 ≤ 9223372036854775807) (hlc : ln ≤ cp) (s1 : ByteArray) (w : World) (hi : IntsAt w ao zs) :
    Calls Try.prog 7 #[.slice ao ln cp, .string s1] w fun e w' => e = .returned (.bool true) ∧ Below w.heap.size w w' :=
  derOids_of drCalls (fun W => drwake_of drCalls W) ao ln cp zs hl hz hlc s1 w hi

theorem derOids_own : ownKnob Try.prog.godebug = none := by kernel_rfl
theorem derOids_laidOut : laidOutB Try.prog = true := by kernel_rfl
theorem derOids_lifted (os : Os) (started : os.Started) (H : Type) (enc : TypeId × Value → H) :
    ReturnsInHanded {} Try.checked os 7 .any (Rows.derOidsSpec.pre6 enc Try.prog Try.f7 Rows.derOidsRow.domain false) (Rows.derOidsSpec.post enc Try.prog Try.f7 false true false false) := by
  refine returnsInHanded_of_change (C := Try.checked) derOids_own started (by kernel_rfl) Try.func7
    (ChangeSpec.witness6 (enc := enc) (C := Try.checked) false ⟨#[], #[.slice none 0 0, .string ⟨#[]⟩], []⟩ 8 (by kernel_rfl) (by kernel_rfl) (by kernel_rfl) (by kernel_rfl)) ?_
  intro W base args ds gs before hval0 hW hcnd _
  have hval : ∀ (j : Nat) t v, Try.f7.params[j]? = some t → args[j]? = some v → Value.okWide Try.prog W .any base t v := hval0
  have hW' := hW
  obtain ⟨p, q, hA0, hV, rfl, hfz, hnd⟩ := hW
  have hA : DataW.TrodAll enc Try.prog W 0 (fun _ => true) true Try.f7.params.toList args.toList ds p := hA0
  rw [Try.params7] at hA hval
  obtain ⟨v0, v1, d0, d1, p0, p1, rfl, rfl, rfl, h0, h1⟩ := trodAll_two hA
  obtain ⟨rfl, rfl⟩ := trodVars_none hV
  obtain ⟨a0, len, cap, rfl⟩ := okWide_slice Try.underlying34 (hval 0 34 v0 rfl rfl)
  have hk := h0
  obtain ⟨fuel, hf⟩ := h0
  obtain ⟨s1, rfl, rfl, rfl, w1⟩ := open_string Try.underlying9 (hval 1 9 v1 rfl rfl) h1
  clear hA0 hval0
  simp only [List.append_nil, List.nil_append] at hW'
  have hlt : ∀ x ∈ p0, x.block < W.heap.size := fun x hx => by simpa using hW'.lt x (by simpa using hx)
  obtain ⟨zs, hzl, hzcap, hzb, hzc⟩ : ∃ zs : List Int, zs.length = len ∧ len ≤ cap ∧ (∀ k, -9223372036854775808 ≤ zs.getD k 0 ∧ zs.getD k 0 ≤ 9223372036854775807) ∧ IntsAt W a0 zs := by
    rcases open_ints Try.underlying34 Try.underlying3 (by kernel_rfl) hf with ⟨hcs, hx⟩ | ⟨a, len', cap', zs, hcs, _, hl, hm, hz, hx, hcell, hws⟩
    · simp [Value.cells] at hcs
      obtain ⟨rfl, rfl, rfl⟩ := hcs
      exact ⟨[], rfl, Nat.le_refl _, fun k => by simp, IntsAt.nil _ _⟩
    · simp [Value.cells] at hcs
      obtain ⟨rfl, rfl, rfl⟩ := hcs
      simp only [if_true] at hz
      refine ⟨zs.take len, by rw [List.length_take]; omega, by omega, fun k => ?_, fun j hj => ?_⟩
      · by_cases hk' : k < (zs.take len).length
        · rw [List.getD_eq_getElem?_getD, List.getElem?_eq_getElem hk', Option.getD_some]
          exact bounds_i64 (hws _ (List.mem_of_mem_take (List.getElem_mem hk')))
        · rw [List.getD_eq_getElem?_getD, List.getElem?_eq_none (by omega)]
          simp
      · rw [List.length_take] at hj
        obtain ⟨g, off, spot⟩ := a
        have hspot : spot = none := by simpa [Addr.add] using World.cell?_spot (hcell 0 (by omega))
        subst hspot
        have hc := hcell j (by omega)
        have hadd : (⟨g, off, none⟩ : Addr).add j = ⟨g, off + j, none⟩ := by unfold Addr.add; split <;> simp_all
        rw [hadd] at hc
        refine ⟨g, off, rfl, ?_⟩
        rw [hc, List.getD_eq_getElem?_getD, List.getD_eq_getElem?_getD, List.getElem?_take, if_pos (by omega)]
  refine (derOids_any a0 len cap zs hzl hzb hzcap s1 W hzc).mono fun e W' ⟨he, hb⟩ => ?_
  subst he
  refine ⟨_, rfl, _, _, _, [], p0 ++ [], [], hW', ?_, ?_, rfl, hb.frame _, fun h => by cases h⟩
  · exact trodAll_mk1 (shut_bool Try.underlying4 _)
  · exact trodAll_mk2 (Below.trod derOids_laidOut (by kernel_rfl) (of_decide_eq_true (by kernel_rfl)) hk hb hlt) (shut_string Try.underlying9 w1)

theorem derOids_holds : Rows.DerOidsSaid :=
  OpenClaim.holds_of_wide 7 Try.f7 rfl rfl rfl rfl rfl rfl rfl ⟨rfl, rfl, rfl, rfl, rfl⟩ rfl rfl rfl rfl rfl (by kernel_rfl) Try.func7 (by kernel_rfl)
    (of_decide_eq_true (by kernel_rfl)) (by unfold Func.isWrapper; first | (rw [if_pos (by decide +kernel)]; kernel_rfl) | (rw [if_neg (by decide +kernel)]; exact ⟨rfl, rfl⟩))
    (fun os started H enc _ => derOids_lifted os started H enc)
#print axioms derOids_holds
end Go.Proofs.Ytimokmhgpigliaa
