/- Arguments: an array of integers, of whatever length. -/
import Derived.Test.YtbbpgplfdodpmaaCommon
import Derived.ProofKit
import Derived.OpenShut
import Derived.Lib.SmallJoins
namespace Go.Proofs.Ytbbpgplfdodpmaa
open Go.ChangeShapes Go.WideShapes Go.ChangeAt Go.WideMaps Go.WideElems Go.RowKit
set_option maxRecDepth 100000
set_option linter.unusedSimpArgs false
set_option linter.unusedVariables false

theorem mapM_some {α β : Type} (f : α → Option β) (g : α → β) : ∀ (l : List α), (∀ x ∈ l, f x = some (g x)) → l.mapM f = some (l.map g)
  | [], _ => rfl
  | x :: l, h => by
    rw [List.mapM_cons, h x (by simp), mapM_some f g l fun y hy => h y (by simp [hy])]
    rfl
def numOfV (v : Value) : Int := match v with | .int _ a => a | _ => 0
section
variable {H : Type} {enc : TypeId × Value → H} {P : Program} {w : World} {base b0 : Nat} {spare : Nat → Bool} {held : Bool}
theorem open_intsN {r : Reach} {t e : TypeId} {n : Nat} {k : IntKind} {v : Value} {d : DataW H} {p : List MemPlace} (ht : P.underlying t = some (.array n e)) (he : P.underlying e = some (.int k)) (hct : P.cellsOf t = n) (hce : P.cellsOf e = 1)
    (hv : Value.okWide P w r b0 t v) (h : DataW.Trod enc P w base spare held t v d p) :
    ∃ l : List Int, l.length = n ∧ v = .agg (l.map (Value.int k)).toArray ∧ d = .agg (l.map fun x => .lit (.int k x)) ∧ p = [] ∧ ∀ x ∈ l, (Lit.int k x).wf = true := by
  obtain ⟨cs, rfl, hsz, _⟩ : ∃ cs, v = .agg cs ∧ cs.size = P.cellsOf t ∧ Row.okWide P w r b0 t cs := by
    simpa [Value.okWide, ht] using hv
  rw [hct] at hsz
  obtain ⟨fuel, hf⟩ := h
  obtain ⟨xs, m, hfm, hx, hcl, hxl, hg⟩ := DataW.trod_array ht hf
  have key : ∀ i (hi : i < n) (hi' : i < cs.toList.length) (hx' : i < xs.length), ∃ a, cs.toList[i] = .int k a ∧ xs[i] = (.lit (.int k a), []) ∧ (Lit.int k a).wf = true := fun i hi hi' hx' => by
    have h0 := hg i hi
    rw [hce, Nat.mul_one, List.getElem?_eq_getElem hx'] at h0
    obtain ⟨a, e1, e2, e3⟩ := DataW.trod_int he h0
    have e4 : (cs.toList.drop i).take 1 = [cs.toList[i]] := by
      rw [List.drop_eq_getElem_cons hi']; rfl
    simp only [Value.cells] at e1
    rw [e4] at e1
    exact ⟨a, by simpa using e1, e2, e3⟩
  have hsl : cs.toList.length = n := by simpa using hsz
  refine ⟨cs.toList.map numOfV, by simpa using hsz, ?_, ?_, ?_, ?_⟩
  · have e : (cs.toList.map numOfV).map (Value.int k) = cs.toList := by
      apply List.ext_getElem (by simp)
      intro i h1 h2
      obtain ⟨a, e1, _, _⟩ := key i (by omega) h2 (by omega)
      simp only [List.getElem_map, e1, numOfV]
    rw [e]
  · simp only [Prod.mk.injEq] at hx
    rw [hx.1]
    congr 1
    apply List.ext_getElem (by simp [hxl]; omega)
    intro i h1 h2
    have hxi : i < xs.length := by simpa using h1
    obtain ⟨a, e1, e2, _⟩ := key i (by omega) (by omega) hxi
    simp only [List.getElem_map, e1, e2, numOfV]
  · simp only [Prod.mk.injEq] at hx
    rw [hx.2, List.flatMap_eq_nil_iff]
    intro y hy
    obtain ⟨i, hi, rfl⟩ := List.mem_iff_getElem.1 hy
    obtain ⟨a, _, e2, _⟩ := key i (by omega) (by omega) hi
    rw [e2]
  · intro x hx2
    obtain ⟨i, hi, rfl⟩ := List.mem_iff_getElem.1 hx2
    have hi' : i < cs.toList.length := by simpa using hi
    obtain ⟨a, e1, _, e3⟩ := key i (by omega) hi' (by omega)
    simp only [List.getElem_map, e1, numOfV]
    exact e3
theorem shut_intsN {t e : TypeId} {n : Nat} {k : IntKind} {l : List Int} (ht : P.underlying t = some (.array n e)) (he : P.underlying e = some (.int k)) (hct : P.cellsOf t = n) (hce : P.cellsOf e = 1) (hl : l.length = n) (hw : ∀ x ∈ l, (Lit.int k x).wf = true) :
    DataW.Trod enc P w base spare held t (.agg (l.map (Value.int k)).toArray) (.agg (l.map fun x => .lit (.int k x))) [] := by
  refine ⟨2, ?_⟩
  unfold DataW.trod
  have hm := mapM_some (fun i => DataW.trod enc P w base spare held 1 e ((((l.map (Value.int k)).toArray).toList.drop (i * P.cellsOf e)).take (P.cellsOf e))) (fun i => ((DataW.lit (Lit.int k (l.getD i 0)) : DataW H), ([] : List MemPlace))) (List.range n) (fun i hi => by
    have hin : i < l.length := by rw [hl]; exact List.mem_range.1 hi
    have e4 : (((l.map (Value.int k)).toArray).toList.drop (i * P.cellsOf e)).take (P.cellsOf e) = [.int k l[i]] := by
      rw [hce, Nat.mul_one, List.toList_toArray, List.drop_eq_getElem_cons (by simpa using hin)]
      simp
    rw [e4, List.getD_eq_getElem?_getD, List.getElem?_eq_getElem hin]
    simp [DataW.trod, he, hw l[i] (List.getElem_mem hin)])
  have hcs : (Value.agg (l.map (Value.int k)).toArray).cells.toList.length = P.cellsOf t := by rw [hct]; simpa [Value.cells] using hl
  simp only [ht]
  rw [if_pos (by simpa [Value.cells] using hcs)]
  simp only [Value.cells] at hm ⊢
  rw [hm]
  simp only [Option.map_some, List.map_map, List.flatMap_map]
  congr 2
  · congr 1
    apply List.ext_getElem (by simp [hl])
    intro i h1 h2
    have hin : i < l.length := by simpa using h2
    simp [hin]
  · simp
end
end Go.Proofs.Ytbbpgplfdodpmaa
