/- Whether two of the program's numbers are the same. -/
import Derived.Test.YtfidcdkoggfjaaaDoorFldFns
import Derived.Laws.StructEq
import Derived.ChangeKeysEq
namespace Go.Proofs.YtfidcdkoggfjaaaDoor
open Go.RowKit Go.Sort
set_option maxRecDepth 100000
set_option linter.unusedSimpArgs false
set_option linter.unusedVariables false

theorem part_limb (l : List Nat) (h : l.length = 4) (i : Nat) (hi : i < 4) (w : World) : (part 22 (uc l) (i * Tryd.prog.cellsOf 22)).run Tryd.prog w = .ok (.int .u64 ((l.getD i 0 : Nat) : Int)) w := by
  rw [show Tryd.prog.cellsOf 22 = 1 from by kernel_rfl, Nat.mul_one]
  exact run_part_plain w (by kernel_rfl) (nc_get .u64 l i (by omega))
theorem infoU : ∃ i, Tryd.prog.info? 22 = some i := by
  cases h : Tryd.prog.info? 22 with
  | none => exact absurd (show (Tryd.prog.info? 22).isSome = true from by kernel_rfl) (by rw [h]; simp)
  | some i => exact ⟨i, rfl⟩
theorem limbs_eq (l m : List Nat) (hl : l.length = 4) (hm : m.length = 4) (k : Nat) (w : World) : (Op.equalIn (k + 2) 24 (.agg (uc l)) (.agg (uc m))).run Tryd.prog w = .ok (decide (l = m)) w := by
  obtain ⟨i, hi⟩ := infoU
  rw [run_equalIn_array w (k + 1) (uc l) (uc m) Tryd.underlying24 hi]
  have e : ∀ (a b : Int) (w : World), (Op.equalIn (k + 1) 22 (.int .u64 a) (.int .u64 b)).run Tryd.prog w = .ok (a == b) w := fun a b w => run_equalIn_int w k 22 .u64 .u64 a b Tryd.underlying22
  obtain ⟨a, b, c, d, rfl⟩ : ∃ a b c d, l = [a, b, c, d] := by
    match l, hl with
    | [a, b, c, d], _ => exact ⟨a, b, c, d, rfl⟩
  obtain ⟨p, q, r, s, rfl⟩ : ∃ a b c d, m = [a, b, c, d] := by
    match m, hm with
    | [a, b, c, d], _ => exact ⟨a, b, c, d, rfl⟩
  have P := part_limb [a, b, c, d] rfl
  have Q := part_limb [p, q, r, s] rfl
  simp only [show List.range 4 = [0, 1, 2, 3] from rfl, Op.eqItems, Sem.run_bind, Sem.run_ite, Sem.run_pure, P 0 (by decide), P 1 (by decide), P 2 (by decide), P 3 (by decide), Q 0 (by decide), Q 1 (by decide), Q 2 (by decide), Q 3 (by decide), Result.andThen_ok, e]
  by_cases h1 : a = p
  · by_cases h2 : b = q
    · by_cases h3 : c = r
      · by_cases h4 : d = s
        · simp [h1, h2, h3, h4]
        · simp [h1, h2, h3, h4]; intros; omega
      · simp [h1, h2, h3]; intros; omega
    · simp [h1, h2]; intros; omega
  · simp [h1]; intros; omega
theorem part_num (l : List Nat) (h : l.length = 4) (w : World) : (part 24 (uc l) 0).run Tryd.prog w = .ok (.agg (uc l)) w := by
  unfold part
  rw [Sem.run_bind]
  have hagg : (isAgg 24).run Tryd.prog w = .ok true w := by
    unfold isAgg
    rw [Sem.run_bind, run_underlying Tryd.underlying24 w]
    rfl
  have hsz : (sizeOf 24).run Tryd.prog w = .ok 4 w := by
    have h4 := (zero_of_info infoL).2
    cases hq : Tryd.prog.info? 24 with
    | none => simp [hq] at h4
    | some i => simp [hq] at h4; simp [sizeOf, typeInfo, hq, h4]
  have he : (uc l).extract 0 4 = uc l := by
    have := uc_size l
    rw [h] at this
    rw [← this]
    simp
  simp [hagg, hsz, he]
theorem num_eq (l m : List Nat) (hl : l.length = 4) (hm : m.length = 4) (w : World) : (Op.equalIn 10000 26 (.agg (uc l)) (.agg (uc m))).run Tryd.prog w = .ok (decide (l = m)) w := by
  have hf : (Tryd.prog.fieldsOf 26).toList.map (fun f => (f.name == "_", f.type, f.offset)) = [(false, 24, 0)] := by kernel_rfl
  rw [run_equalIn_agg w 9999 26 _ _ (by kernel_rfl) (by kernel_rfl)]
  generalize (Tryd.prog.fieldsOf 26).toList = fs at hf ⊢
  cases fs with
  | nil => simp at hf
  | cons f fs =>
    cases fs with
    | cons g fs => simp at hf
    | nil =>
      simp only [List.map_cons, List.map_nil, List.cons.injEq, Prod.mk.injEq, and_true] at hf
      obtain ⟨h1, h2, h3⟩ := hf
      have h1' : f.name ≠ "_" := by simpa using h1
      simp only [Op.eqFields, h1', ne_eq, not_false_eq_true, if_true, h2, h3, Sem.run_bind, Sem.run_ite, Sem.run_pure, part_num l hl, part_num m hm, Result.andThen_ok, limbs_eq l m hl hm 9997]
      cases decide (l = m) <;> rfl
end Go.Proofs.YtfidcdkoggfjaaaDoor
