/- ChachaXors: for every key, nonce, number and text of at most 10000 bytes the program's Xor is the reference's; the chapter's example holds. No condition. -/
import Derived.Test.YtnjeelfeaiakpaaRows
import Derived.ProofKit
import Derived.OpenShut
import Derived.Lib.SmallJoins
import Derived.Test.YtnjeelfeaiakpaaChaWake
import Derived.Test.YtnjeelfeaiakpaaChaSame
namespace Go.Proofs.Ytnjeelfeaiakpaa
open Go.ChangeShapes Go.WideShapes Go.ChangeAt Go.WideMaps Go.WideElems Go.RowKit
open Go.ChangeMaps (open_string shut_string)
set_option maxRecDepth 100000
set_option linter.unusedSimpArgs false
set_option linter.unusedVariables false

set_option maxHeartbeats 2000000 in
theorem chachaXors_any (k n : ByteArray) (i : Int) (s : ByteArray) (w : World) (_ : k.size ≤ maxLen) (_ : n.size ≤ maxLen) (_ : (Lit.int .i64 i).wf = true) (hs : s.size ≤ maxLen) :
    Calls Try.prog 4 #[.string k, .string n, .agg #[.int .i64 i, .string s]] w fun e w' => e = .returned (.bool true) ∧ Below w.heap.size w w' := by
  unfold maxLen at *
  have hb0 := below_new w (.cells #[.int .i64 i, .string s] 28)
  by_cases h0 : 10000 < s.size
  · have hd0 : decide ((10000 : Int) < (s.size : Int)) = true := by simp; omega
    go_enter Try.func4, Try.ntmps4
    go_wp2_with fail
    refine (cawake_any _).mono ?_
    rintro e W1 ⟨rfl, hb1⟩
    go_wp2_with fail
    go_ret
    exact ⟨rfl, hb0.trans (hb1.mono (by simp))⟩
  have hd0 : decide ((10000 : Int) < (s.size : Int)) = false := by simp; omega
  obtain ⟨x, q, x1, x2⟩ := chaXorSame k n i s (by omega)
  have X1 := Lib.hid x1; have X2 := Lib.hid x2
  clear x1 x2
  have ex : (x.toList == x.toList) = true := by simp
  have eq : (q == q) = true := by simp
  have HG0 := Lib.hid (blk_new w (.cells #[.int .i64 i, .string s] 28))
  go_enter Try.func4, Try.ntmps4
  go_wp2_with fail
  refine (X1.out _).mono ?_
  rintro e W1 ⟨rfl, hb1⟩
  have HG1 := Lib.hid (blk_below hb1 (by simp) HG0.out)
  have hB1 : Below w.heap.size w W1 := hb0.trans (hb1.mono (by simp))
  have hsz1 : w.heap.size < W1.heap.size := blk_lt HG1.out
  have c0 : W1.cell? ⟨w.heap.size, 0, none⟩ = some (.int .i64 i) := by rw [cell_of_row W1 _ _ _ _ _ HG1.out]; rfl
  have c1 : W1.cell? ⟨w.heap.size, 1, none⟩ = some (.string s) := by rw [cell_of_row W1 _ _ _ _ _ HG1.out]; rfl
  clear X1 HG0 hb1 hb0
  go_wp2_with fail
  clear c0 c1
  refine (X2.out W1).mono ?_
  rintro e W2 ⟨rfl, hb2⟩
  have hB2 : Below w.heap.size w W2 := hB1.trans (hb2.mono (by omega))
  have hsz2 : w.heap.size ≤ W2.heap.size := Nat.le_trans (by omega) hb2.size
  clear X2 hb2 hB1
  go_wp2_with fail
  refine (cawake_any W2).mono ?_
  rintro e W3 ⟨rfl, hb3⟩
  go_wp2_with fail
  go_ret
  exact ⟨rfl, hB2.trans (hb3.mono hsz2)⟩

theorem chachaXors_own : ownKnob Try.prog.godebug = none := by kernel_rfl
theorem chachaXors_lifted (os : Os) (started : os.Started) (H : Type) (enc : TypeId × Value → H) :
    ReturnsInHanded {} Try.checked os 4 .any (Rows.chachaXorsSpec.pre6 enc Try.prog Try.f4 Rows.chachaXorsRow.domain false) (Rows.chachaXorsSpec.post enc Try.prog Try.f4 false true false false) := by
  refine returnsInHanded_of_change (C := Try.checked) chachaXors_own started (by kernel_rfl) Try.func4
    (ChangeSpec.witness6 (enc := enc) (C := Try.checked) false ⟨#[], #[.string ⟨#[]⟩, .string ⟨#[]⟩, .agg #[.int .i64 0, .string ⟨#[]⟩]], []⟩ 8 (by kernel_rfl) (by kernel_rfl) (by kernel_rfl) (by kernel_rfl)) ?_
  intro W base args ds gs before hval0 hW hcnd _
  have hval : ∀ (j : Nat) t v, Try.f4.params[j]? = some t → args[j]? = some v → Value.okWide Try.prog W .any base t v := hval0
  have hW' := hW
  obtain ⟨p, q, hA0, hV, rfl, hfz, hnd⟩ := hW
  have hA : DataW.TrodAll enc Try.prog W 0 (fun _ => true) true Try.f4.params.toList args.toList ds p := hA0
  rw [Try.params4] at hA hval
  obtain ⟨v0, v1, v2, d0, d1, d2, p0, p1, p2, rfl, rfl, rfl, h0, h1, h2⟩ := trodAll_three hA
  obtain ⟨rfl, rfl⟩ := trodVars_none hV
  obtain ⟨s0, rfl, rfl, rfl, w0⟩ := open_string Try.underlying9 (hval 0 9 v0 rfl rfl) h0
  obtain ⟨s1, rfl, rfl, rfl, w1⟩ := open_string Try.underlying9 (hval 1 9 v1 rfl rfl) h1
  obtain ⟨c0, c1, y0, y1, m, rfl, rfl, rfl, hy0, hy1⟩ := Joins.open_agg2 Try.underlying28 (by kernel_rfl) (by kernel_rfl) (hval 2 28 v2 rfl rfl) h2
  obtain ⟨sn, e0, rfl, wn⟩ := DataW.trod_int Try.underlying3 hy0
  obtain ⟨ss, e1, rfl, ws⟩ := DataW.trod_string Try.underlying9 hy1
  simp at e0 e1
  subst e0 e1
  clear hA0 hval0
  simp only [List.append_nil] at hW'
  refine (chachaXors_any s0 s1 sn ss W w0 w1 wn ws).mono fun e W' ⟨he, hb⟩ => ?_
  subst he
  refine ⟨_, rfl, _, _, _, [], [], [], hW', ?_, ?_, rfl, hb.frame _, fun h => by cases h⟩
  · exact trodAll_mk1 (shut_bool Try.underlying4 _)
  · exact trodAll_mk3 (shut_string Try.underlying9 w0) (shut_string Try.underlying9 w1) (Joins.shut_agg2 (y0 := (.lit (.int .i64 sn), [])) (y1 := (.lit (.string ss.data.toList), [])) Try.underlying28 (by kernel_rfl) (by kernel_rfl) ⟨1, by simp [DataW.trod, Try.underlying3, wn]⟩ ⟨1, by simp [DataW.trod, Try.underlying9, ws]⟩)

theorem chachaXors_holds : Rows.ChachaXorsSaid :=
  OpenClaim.holds_of_wide 4 Try.f4 rfl rfl rfl rfl rfl rfl rfl ⟨rfl, rfl, rfl, rfl, rfl⟩ rfl rfl rfl rfl rfl (by kernel_rfl) Try.func4 (by kernel_rfl)
    (of_decide_eq_true (by kernel_rfl)) (by unfold Func.isWrapper; first | (rw [if_pos (by decide +kernel)]; kernel_rfl) | (rw [if_neg (by decide +kernel)]; exact ⟨rfl, rfl⟩))
    (fun os started H enc _ => chachaXors_lifted os started H enc)
#print axioms chachaXors_holds
end Go.Proofs.Ytnjeelfeaiakpaa
