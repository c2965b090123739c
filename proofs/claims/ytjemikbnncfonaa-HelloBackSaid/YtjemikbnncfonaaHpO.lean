/- A message that came in. -/
import Derived.Test.YtjemikbnncfonaaHeP
import Derived.ProofKit
import Derived.OpenShut
import Derived.ChangeSlices
import Derived.SliceStrings
import Derived.Deep.Fields
namespace Go.Proofs.Ytjemikbnncfonaa
open Go.ChangeShapes Go.WideShapes Go.ChangeAt Go.WideMaps Go.WideElems Go.RowKit Go.Deep
set_option maxRecDepth 100000
set_option linter.unusedSimpArgs false
set_option linter.unusedVariables false

section
variable {H : Type} {enc : TypeId × Value → H} {W : World}
theorem ints_open {c3 : Value} {fuel : Nat} {x : DataW H × List MemPlace} (h : DataW.trod enc Try.prog W 0 (fun _ => true) true fuel 22 [c3] = some x) : ∃ (a : Option Addr) (n c : Nat) (zs : List Int), c3 = .slice a n c ∧ zs.length = n ∧ (∀ k, -9223372036854775808 ≤ zs.getD k 0 ∧ zs.getD k 0 ≤ 9223372036854775807) ∧ IntsAt W a zs := by
  rcases open_ints Try.underlying22 Try.underlying3 (by kernel_rfl) h with ⟨hcs, hx⟩ | ⟨a, len, cap, zs, hcs, _, hl, hm, hz, hx, hcell, hws⟩
  · simp at hcs
    exact ⟨none, 0, 0, [], hcs, rfl, fun k => by simp, IntsAt.nil _ _⟩
  · simp at hcs
    simp only [if_true] at hz
    refine ⟨some a, len, cap, zs.take len, hcs, by rw [List.length_take]; omega, fun k => ?_, fun j hj => ?_⟩
    · by_cases hk' : k < (zs.take len).length
      · rw [List.getD_eq_getElem?_getD, List.getElem?_eq_getElem hk', Option.getD_some]
        exact bounds_i64 (hws _ (List.mem_of_mem_take (List.getElem_mem hk')))
      · rw [List.getD_eq_getElem?_getD, List.getElem?_eq_none (by omega)]
        simp
    · rw [List.length_take] at hj
      obtain ⟨g, off, spot⟩ := a
      have hspot : spot = none := by simpa [Addr.add] using World.cell?_spot (hcell 0 (by omega))
      subst hspot
      have hc := hcell j (by omega)
      have hadd : (⟨g, off, none⟩ : Addr).add j = ⟨g, off + j, none⟩ := by unfold Addr.add; split <;> simp_all
      rw [hadd] at hc
      refine ⟨g, off, rfl, ?_⟩
      rw [hc, List.getD_eq_getElem?_getD, List.getD_eq_getElem?_getD, List.getElem?_take, if_pos (by omega)]
theorem msg_open {cs : Array Value} {d : DataW H} {ps : List MemPlace} (hz : cs.size = Try.prog.cellsOf 24) (h : DataW.Trod enc Try.prog W 0 (fun _ => true) true 24 (.agg cs) d ps) : ∃ (m : HMsg) (a : Option Addr) (n c : Nat), cs = msC m (.slice a n c) ∧ m.su.length = n ∧ (∀ k, -9223372036854775808 ≤ m.su.getD k 0 ∧ m.su.getD k 0 ≤ 9223372036854775807) ∧ IntsAt W a m.su := by
  obtain ⟨fuel, hf⟩ := h
  obtain ⟨f0, f1, f2, f3, f4, f5, hu⟩ : ∃ f0 f1 f2 f3 f4 f5, Try.prog.underlying 24 = some (.struct #[f0, f1, f2, f3, f4, f5]) ∧ oneCellFields Try.prog #[f0, f1, f2, f3, f4, f5] = true ∧ f0.type = 3 ∧ f1.type = 9 ∧ f2.type = 9 ∧ f3.type = 22 ∧ f4.type = 9 ∧ f5.type = 4 :=
    ⟨_, _, _, _, _, _, Try.underlying24, by kernel_rfl, by kernel_rfl, by kernel_rfl, by kernel_rfl, by kernel_rfl, by kernel_rfl, by kernel_rfl⟩
  obtain ⟨hs, hone, t0, t1, t2, t3, t4, t5⟩ := hu
  have hcells : (Value.agg cs).cells.toList = cs.toList := by simp [Value.cells]
  rw [hcells] at hf
  obtain ⟨xs, m', _, hx, hcl, hlen, hff⟩ := DataW.trod_struct hs hf
  obtain ⟨cl⟩ := cs
  have hc6 : Try.prog.cellsOf 24 = 6 := by kernel_rfl
  rw [hc6] at hcl
  match cl, hcl with
  | [c0, c1, c2, c3, c4, c5], _ =>
    match xs, hlen with
    | [y0, y1, y2, y3, y4, y5], _ =>
      obtain ⟨o0, k0⟩ := hone_of hone 0 f0 rfl
      obtain ⟨o1, k1⟩ := hone_of hone 1 f1 rfl
      obtain ⟨o2, k2⟩ := hone_of hone 2 f2 rfl
      obtain ⟨o3, k3⟩ := hone_of hone 3 f3 rfl
      obtain ⟨o4, k4⟩ := hone_of hone 4 f4 rfl
      obtain ⟨o5, k5⟩ := hone_of hone 5 f5 rfl
      have h0 := hff 0 f0 rfl; have h1 := hff 1 f1 rfl; have h2 := hff 2 f2 rfl; have h3 := hff 3 f3 rfl; have h4 := hff 4 f4 rfl; have h5 := hff 5 f5 rfl
      rw [o0, k0, t0] at h0; rw [o1, k1, t1] at h1; rw [o2, k2, t2] at h2; rw [o3, k3, t3] at h3; rw [o4, k4, t4] at h4; rw [o5, k5, t5] at h5
      obtain ⟨z0, e0, _, w0⟩ := DataW.trod_int Try.underlying3 (show DataW.trod enc Try.prog W 0 (fun _ => true) true m' 3 [c0] = some y0 from h0)
      obtain ⟨s1, e1, _, w1⟩ := DataW.trod_string Try.underlying9 (show DataW.trod enc Try.prog W 0 (fun _ => true) true m' 9 [c1] = some y1 from h1)
      obtain ⟨s2, e2, _, w2⟩ := DataW.trod_string Try.underlying9 (show DataW.trod enc Try.prog W 0 (fun _ => true) true m' 9 [c2] = some y2 from h2)
      obtain ⟨a, n, c, zs, e3, hn, hb, hi⟩ := ints_open (show DataW.trod enc Try.prog W 0 (fun _ => true) true m' 22 [c3] = some y3 from h3)
      obtain ⟨s4, e4, _, w4⟩ := DataW.trod_string Try.underlying9 (show DataW.trod enc Try.prog W 0 (fun _ => true) true m' 9 [c4] = some y4 from h4)
      obtain ⟨b5, e5, _⟩ := DataW.trod_bool Try.underlying4 (show DataW.trod enc Try.prog W 0 (fun _ => true) true m' 4 [c5] = some y5 from h5)
      simp only [List.cons.injEq, and_true] at e0 e1 e2 e4 e5
      refine ⟨⟨z0, s1, s2, zs, s4, b5⟩, a, n, c, ?_, hn, hb, hi⟩
      rw [e0, e1, e2, e3, e4, e5]; rfl
theorem int_in {z : Int} (h : (Lit.int .i64 z).wf = true) : -9223372036854775808 ≤ z ∧ z ≤ 9223372036854775807 := bounds_i64 h
end
end Go.Proofs.Ytjemikbnncfonaa
