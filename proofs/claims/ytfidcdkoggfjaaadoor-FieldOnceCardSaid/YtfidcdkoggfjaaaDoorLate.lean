/- A region that draws its order: a head that reads and calls what changes nothing that was there, then two components of the call's tuple, then a tail in one forced order ('a[i], c = f(..)': the second component is not waited for by the store, so it may come behind it). One walk of the text's order serves every order. -/
import Derived.Test.YtfidcdkoggfjaaaDoorMove
namespace Go.Proofs.YtfidcdkoggfjaaaDoor
open Go.RowKit Go.Sort
set_option maxRecDepth 100000
set_option linter.unusedSimpArgs false
set_option linter.unusedVariables false

theorem run_extract_all {P : Program} {ρ : Operand → Value} {o : Oper} {t : Operand} {ix : Nat} (h : o.op = .extract t ix) {w0 : World} {v : Value} {C : World → Prop}
    (hq : Oper.quietUpon P C w0 v ((execOp ρ o).run P w0)) : ∀ w, (execOp ρ o).run P w = .ok (.value v) w := by
  have e : ∀ w, (execOp ρ o).run P w = (do pure (Next.value (← Instr.extract (ρ t) ix)) : Sem Next).run P w := fun w => by unfold execOp; rw [h]
  rw [e] at hq
  intro w
  rw [e]
  generalize ρ t = tv at hq ⊢
  cases tv
  case tuple vs =>
    cases hx : vs[ix]? with
    | some x =>
      have e2 : ∀ w, (do pure (Next.value (← Instr.extract (.tuple vs) ix)) : Sem Next).run P w = .ok (.value x) w := fun w => by unfold Instr.extract; simp only [hx]; rfl
      rw [e2] at hq
      rw [e2]
      simp only [Oper.quietUpon] at hq
      rw [hq.2]
    | none =>
      unfold Instr.extract at hq
      simp only [hx] at hq
      exact (hq : False).elim
  all_goals exact (hq : False).elim

section
variable {P : Program} {ops : Array Oper} {md : Region.Mode} {C : World → Prop}

/-- Each operation of the tail waits for one before it that is in the tail or is the head's last. -/
def hangB (md : Region.Mode) (ops : Array Oper) (n : Nat) : Bool :=
  (List.range ops.size).all fun t => decide (t < n) || (List.range t).any fun j => decide (n ≤ j + 1) && Region.waitsFor md ops t j
theorem last_unlisted {m n : Nat} {listed : Array Bool} (hs : sinkFrom m md ops (n - 1) = true) (inv : HeadInv md ops n listed) (hn : n ≤ ops.size) :
    ∀ (d i : Nat), n - i = d → m ≤ i → i < n → listed.getD i true = false → listed.getD (n - 1) true = false := by
  intro d
  induction d using Nat.strongRecOn with
  | _ d ih =>
    intro i hd hm hi hun
    by_cases hin : i = n - 1
    · rw [← hin]; exact hun
    · have h1 := List.all_eq_true.1 hs i (List.mem_range.2 (by omega))
      simp only [Bool.or_eq_true, decide_eq_true_eq] at h1
      rcases h1 with h1 | h1
      · omega
      · obtain ⟨j, hj, hj2⟩ := List.any_eq_true.1 h1
        simp only [Bool.and_eq_true, decide_eq_true_eq] at hj2
        obtain ⟨oj, hoj, e, he, hb, hon⟩ := Region.waitsFor_spec hj2.2
        have hjle : j ≤ n - 1 := by have := List.mem_range.1 hj; omega
        cases hl : listed.getD j false with
        | true =>
          have h2 := inv.closed j oj hoj hl e he hb
          rw [hon, getD_both hun] at h2
          cases h2
        | false =>
          have hjs : j < listed.size := by rw [inv.size]; omega
          exact ih (n - j) (by omega) j rfl (by omega) (by omega) (getD_in hjs hl)
theorem tail_stays_late {m n : Nat} {listed : Array Bool} (hn0 : 0 < n) (hs : sinkFrom m md ops (n - 1) = true) (hc : hangB md ops n = true) (inv : HeadInv md ops n listed) :
    ∀ (i : Nat), m ≤ i → i < n → listed.getD i true = false → ∀ t, n ≤ t → t ∉ Region.ready md ops listed := by
  intro i hm hi hun t ht hr
  obtain ⟨_, ot, hot, hall⟩ := mem_ready.1 hr
  have htlt : t < ops.size := (Array.getElem?_eq_some_iff.1 hot).1
  have hl := last_unlisted hs inv (by omega) _ i rfl hm hi hun
  have h1 := List.all_eq_true.1 hc t (List.mem_range.2 htlt)
  simp only [Bool.or_eq_true, decide_eq_true_eq] at h1
  rcases h1 with h1 | h1
  · omega
  · obtain ⟨j, hj, hj2⟩ := List.any_eq_true.1 h1
    simp only [Bool.and_eq_true, decide_eq_true_eq] at hj2
    have hjt := List.mem_range.1 hj
    obtain ⟨o', ho', e, he, hb, hon⟩ := Region.waitsFor_spec hj2.2
    have : o' = ot := Option.some.inj (ho'.symm.trans hot)
    rw [this] at he
    have h2 := hall e he hb
    by_cases hjn : j = n - 1
    · rw [hon, hjn, getD_both hl] at h2
      cases h2
    · rw [hon, getD_both (inv.tail j (by omega) (by omega))] at h2
      cases h2

theorem mheadAny_firstL {m n i : Nat} {oi : Oper} {v : Value} {L : Array Bool → Act → Prop} (hi : ops[i]? = some oi) (hsel : ∀ (j : Nat) (o : Oper) cs b, ops[j]? = some o → o.op ≠ .select cs b)
    (hn0 : 0 < n) (hs : sinkFrom m md ops (n - 1) = true) (hc : hangB md ops n = true) (him : m ≤ i) (hin : i < n)
    (hdone : ∀ listed a, L listed a → ∀ j ∈ Region.ready md ops listed, n ≤ j) :
    ∀ (f : Nat) (listed : Array Bool) (a : Act), HeadInv md ops n listed →
      (∀ j oj, ops[j]? = some oj → j ≠ i → listed.getD j true = false → (∀ e ∈ oj.after, Region.binds md e = true → e.on ≠ i) → oi.apart ops oj = true) →
      i ∈ Region.ready md ops listed → YieldsIn P ops C oi v a →
      mheadAny P md ops C n L f (listed.setIfInBounds i true) (a.put oi.dst v) → mheadAny P md ops C n L (f + 1) listed a := by
  intro f
  induction f with
  | zero =>
    intro listed a inv _ hr hy H
    have hun := (mem_ready.1 hr).1
    refine ⟨fun h => (by rw [h] at hr; cases hr), fun j hj => ?_⟩
    have hjn : j < n := Nat.lt_of_not_le fun h => absurd hj (tail_stays_late hn0 hs hc inv i him hin hun j h)
    refine ⟨hjn, ?_⟩
    by_cases hji : j = i
    · subst hji; exact hy.qOp hi H
    · have := hdone _ _ H j (ready_mono hj hji)
      omega
  | succ f ih =>
    intro listed a inv hfree hr hy H
    have hun := (mem_ready.1 hr).1
    refine ⟨fun h => (by rw [h] at hr; cases hr), fun j hj => ?_⟩
    have hjn : j < n := Nat.lt_of_not_le fun h => absurd hj (tail_stays_late hn0 hs hc inv i him hin hun j h)
    refine ⟨hjn, ?_⟩
    by_cases hji : j = i
    · subst hji; exact hy.qOp hi H
    · have h1 := (H.2 j (ready_mono hj hji)).2
      obtain ⟨hjun, oj, hoj, hall⟩ := mem_ready.1 hj
      have hnot : ∀ e ∈ oj.after, Region.binds md e = true → e.on ≠ i := fun e he hb heq => by
        have h1 := hall e he hb
        rw [heq, getD_both hun] at h1
        cases h1
      have h2 := qOp_put hoj (hfree j oj hoj hji hjun hnot) (fun cs b => hsel i oi cs b hi) (fun cs b => hsel j oj cs b hoj) hy h1
      refine qOp_mono (fun a' h3 => ih (listed.setIfInBounds j true) a' (inv.set hj hjn) (fun k ok hk hki hu hno => hfree k ok hk hki ?_ hno) (ready_mono hr (Ne.symm hji)) h3.1 ?_) h2
      · by_cases hjk : j = k
        · subst hjk; exact hjun
        · rwa [getD_set_ne true hjk] at hu
      · rw [Array.setIfInBounds_comm _ _ hji]
        exact h3.2

/-- The head in the text's order, then a test of what has come up. -/
def lexThen (md : Region.Mode) (ops : Array Oper) (E : Array Bool → Bool) : Nat → Nat → Array Bool → Bool
  | 0, _, listed => E listed
  | f + 1, k, listed => (Region.ready md ops listed).contains k && Region.free md ops listed k && lexThen md ops E f (k + 1) (listed.setIfInBounds k true)

theorem mheadAny_lexL {m n : Nat} {E : Array Bool → Bool} {Lq : Act → Prop} (hsel : Region.noSelect ops = true) (hn0 : 0 < n) (hs : sinkFrom m md ops (n - 1) = true) (hc : hangB md ops n = true)
    (hE : ∀ listed, E listed = true → ∀ j ∈ Region.ready md ops listed, n ≤ j) :
    ∀ (l : List Oper) (k : Nat) (listed : Array Bool) (a : Act), m ≤ k → (∀ j, j < l.length → l[j]? = ops[k + j]?) → k + l.length = n → HeadInv md ops n listed →
    lexThen md ops E l.length k listed = true → wpQuiet P ops C Lq l a →
    mheadAny P md ops C n (fun listed' a' => E listed' = true ∧ Lq a') l.length listed a
  | [], k, listed, a, _, _, hk, _, hB, h => by
    obtain rfl : k = n := by simpa using hk
    exact ⟨by simpa [lexThen] using hB, h⟩
  | o :: l, k, listed, a, hmk, hl, hk, inv, hB, h => by
    have h0 : ops[k]? = some o := by simpa using (hl 0 (by simp)).symm
    simp only [List.length_cons, lexThen, Bool.and_eq_true] at hB
    obtain ⟨⟨hr, hf⟩, hB'⟩ := hB
    have hkn : k < n := by simp only [List.length_cons] at hk; omega
    have hr' : k ∈ Region.ready md ops listed := by simpa using hr
    have hst : qOp P ops C k (wpQuiet P ops C Lq l) a := by unfold qOp; simp only [h0]; exact h
    obtain ⟨v, hy, hK⟩ := yieldsIn_of_qOp h0 hst
    exact mheadAny_firstL h0 (Region.noSelect_spec hsel) hn0 hs hc hmk hkn (fun listed' a' hL => hE _ hL.1) l.length listed a inv (Region.free_spec h0 hf) hr' hy
      (mheadAny_lexL hsel hn0 hs hc hE l (k + 1) _ _ (by omega) (fun j hj => by have := hl (j + 1) (by simp; omega); simpa [Nat.add_assoc, Nat.add_comm 1 j] using this) (by simp only [List.length_cons] at hk; omega) (inv.set hr' hkn) hB' hK)

theorem wpQuiet_append {Q : Act → Prop} : ∀ (l1 l2 : List Oper) (a : Act), wpQuiet P ops C Q (l1 ++ l2) a → wpQuiet P ops C (wpQuiet P ops C Q l2) l1 a
  | [], _, _, h => h
  | o :: l1, l2, a, h => by
    simp only [List.cons_append, wpQuiet] at h ⊢
    split at h
    · rename_i hw
      rw [if_pos hw]
      exact Oper.quiet_mono (fun a' h' => wpQuiet_append l1 l2 a' h') h
    · rename_i hw
      rw [if_neg hw]
      exact wpQuiet_append l1 l2 _ h

theorem yields_extract {o : Oper} {t : Operand} {ix : Nat} (ho : o.op = .extract t ix) (hg : o.guard = none) {a : Act} {K : Act → Prop} {l : List Oper} {w0 : World} (hw0 : C w0) (h : wpQuiet P ops C K (o :: l) a) :
    ∃ v, Yields P ops o v a ∧ wpQuiet P ops C K l (a.put o.dst v) := by
  have hw : Region.wanted o (yielded ops a.tmps) = true := by simp [Region.wanted, hg]
  simp only [wpQuiet, hw, if_true] at h
  obtain ⟨v, h1, h2⟩ := h
  exact ⟨v, .inl ⟨hw, run_extract_all ho (h1 w0 hw0)⟩, h2⟩

/-- What is asked once the head has come up: nothing of it is left, the two components may be taken first, the rest has one order. -/
def lateB (md : Region.Mode) (ops : Array Oper) (g n : Nat) (listed : Array Bool) : Bool :=
  (Region.ready md ops listed).all (fun j => decide (n ≤ j)) && (Region.ready md ops listed).contains n && Region.free md ops listed n &&
    (Region.ready md ops (listed.setIfInBounds n true)).contains (n + 1) && Region.free md ops (listed.setIfInBounds n true) (n + 1) && Region.seqB md ops g (n + 2) ((listed.setIfInBounds n true).setIfInBounds (n + 1) true)
def lexLateB (ops : Array Oper) (n : Nat) : Bool :=
  Region.noSelect ops && decide (n + 2 ≤ ops.size) && decide (0 < n) && sinkFrom 1 .any ops (n - 1) && hangB .any ops n && Region.free .any ops (Array.replicate ops.size false) 0 && (Region.ready .any ops (Array.replicate ops.size false)).contains 0 &&
    lexThen .any ops (lateB .any ops (ops.size - (n + 2)) n) (n - 1) 1 ((Array.replicate ops.size false).setIfInBounds 0 true)

/-- A move first, then the head (operations 1 to n - 1), the two components (n, n + 1), the tail. -/
theorem wp_region_late_tail {id : Nat} {Q : Exit → Act → World → Prop} {a : Act} {w : World} {o : Oper} {l : List Oper} (n : Nat) (x : Operand) (ho : o.op = .move x) (hg : o.guard = none) (ha : o.after = #[])
    {o1 o2 : Oper} {t1 t2 : Operand} {i1 i2 : Nat} (e1 : l[n - 1]? = some o1) (e2 : l[n]? = some o2) (p1 : o1.op = .extract t1 i1) (p2 : o2.op = .extract t2 i2) (g1 : o1.guard = none) (g2 : o2.guard = none)
    (hm : P.follows .mixedOrders = true) (hB : lexLateB (o :: l).toArray n = true) (hC : C { w with drawn := w.drawn + 1 })
    (hQ : ∀ c (a : Act) v w, Q (.panic c) (a.put o.dst v) w → Q (.panic c) a w) (hQ1 : ∀ c (a : Act) v w, Q (.panic c) (a.put o1.dst v) w → Q (.panic c) a w) (hQ2 : ∀ c (a : Act) v w, Q (.panic c) (a.put o2.dst v) w → Q (.panic c) a w)
    (h : wpQuiet P (o :: l).toArray C (fun a' => ∀ w', C w' → wpList P (o :: l).toArray Q (l.drop (n + 1)) a' w') (l.take (n + 1)) (a.put o.dst (a.eval x))) : (Code.region id (o :: l).toArray true).wp P Q a w := by
  simp only [lexLateB, Bool.and_eq_true, decide_eq_true_eq] at hB
  obtain ⟨⟨⟨⟨⟨⟨⟨hsel, hn⟩, hn0⟩, hs⟩, hc⟩, hf⟩, hr⟩, hlex⟩ := hB
  have hn' : n + 2 ≤ l.length + 1 := by simpa using hn
  have htl : (l.take (n - 1)).length = n - 1 := by simp; omega
  have hdl : (l.drop (n + 1)).length = (o :: l).toArray.size - (n + 2) := by simp
  have h0 : (o :: l).toArray[0]? = some o := by simp
  have h1 : (o :: l).toArray[n]? = some o1 := by
    obtain ⟨k, rfl⟩ : ∃ k, n = k + 1 := ⟨n - 1, by omega⟩
    simpa using e1
  have h2 : (o :: l).toArray[n + 1]? = some o2 := by simpa using e2
  have hsplit : l.take (n + 1) = l.take (n - 1) ++ [o1, o2] := by
    have hd : l.drop (n - 1) = o1 :: o2 :: l.drop (n + 1) := by
      obtain ⟨k, rfl⟩ : ∃ k, n = k + 1 := ⟨n - 1, by omega⟩
      simp only [Nat.add_sub_cancel] at e1 ⊢
      rw [List.drop_eq_getElem_cons (by omega), List.drop_eq_getElem_cons (by omega)]
      have q1 := (List.getElem?_eq_some_iff.1 e1).2
      have q2 := (List.getElem?_eq_some_iff.1 e2).2
      rw [q1, q2]
    have := List.take_append_drop (n - 1) l
    calc l.take (n + 1) = (l.take (n - 1) ++ l.drop (n - 1)).take (n + 1) := by rw [this]
      _ = l.take (n - 1) ++ [o1, o2] := by
        rw [List.take_append, htl, hd, show n + 1 - (n - 1) = 2 by omega, List.take_of_length_le (by rw [htl]; omega)]; try rfl
  rw [hsplit] at h
  have h := wpQuiet_append _ _ _ h
  have inv0 : HeadInv .any (o :: l).toArray n ((Array.replicate (o :: l).toArray.size false).setIfInBounds 0 true) := by
    refine ⟨by simp, fun j oj hj hl e he hb => ?_, fun t ht ht' => ?_⟩
    · by_cases hj0 : 0 = j
      · subst hj0
        have : oj = o := Option.some.inj (hj.symm.trans h0)
        subst this
        rw [ha] at he
        simp at he
      · rw [getD_set_ne false hj0, getD_replicate_false] at hl; cases hl
    · rw [getD_set_ne true (by omega)]
      exact getD_in (by simpa using ht') (getD_replicate_false _ _)
  have H := mheadAny_lexL (m := 1) (md := .any) (n := n) hsel hn0 hs hc (fun listed hE j hj => by
      have hE := (show lateB .any (o :: l).toArray ((o :: l).toArray.size - (n + 2)) n listed = true from hE)
      simp only [lateB, Bool.and_eq_true] at hE
      have := List.all_eq_true.1 hE.1.1.1.1.1 j hj
      simpa using this) (l.take (n - 1)) 1 _ (a.put o.dst (a.eval x)) (Nat.le_refl _) (fun j hj => by
    have hj' : j < n - 1 := by rw [htl] at hj; exact hj
    rw [List.getElem?_take, if_pos hj']
    simp [Nat.add_comm 1 j]) (by rw [htl]; omega) inv0 (by rw [htl]; exact hlex) h
  refine wp_region_any hm ?_
  have hsz : (o :: l).toArray.size = (n - 1 + ((o :: l).toArray.size - (n + 2) + 1 + 1)) + 1 := by omega
  rw [hsz]
  refine wpAny_take h0 hsel ?_ ?_ (fun c a w hh => hQ c a _ w hh) (v := a.eval x) (.inl ⟨by simp [Region.wanted, hg], fun w => BigFrame.run_move x ho w⟩) ?_
  · rw [← hsz]; exact hf
  · rw [← hsz]; exact hr
  · rw [← hsz]
    have := any_of_mhead (Q' := Q) (g := (o :: l).toArray.size - (n + 2) + 1 + 1) (fun listed a' w' hw' hL => by
      obtain ⟨hE, hL⟩ := hL
      simp only [lateB, Bool.and_eq_true] at hE
      obtain ⟨⟨⟨⟨⟨_, r1⟩, f1⟩, r2⟩, f2⟩, hseq⟩ := hE
      obtain ⟨v1, y1, hL⟩ := yields_extract p1 g1 hw' hL
      obtain ⟨v2, y2, hL⟩ := yields_extract p2 g2 hw' hL
      refine wpAny_take h1 hsel f1 r1 (fun c a w hh => hQ1 c a _ w hh) y1 ?_
      refine wpAny_take h2 hsel f2 r2 (fun c a w hh => hQ2 c a _ w hh) y2 ?_
      have := wpAny_of_seq (md := .any) (Q' := Q) (l.drop (n + 1)) (n + 2) ((listed.setIfInBounds n true).setIfInBounds (n + 1) true) _ w' (fun j => by
        rw [List.getElem?_drop]
        have : n + 2 + j = (n + 1 + j) + 1 := by omega
        rw [this]; simp) (by rw [hdl]; exact hseq) (hL w' hw')
      rwa [hdl] at this) _ _ _ _ hC H
    rw [htl] at this
    exact this
end

/-- The same at the class 'nothing that was there has changed'. -/
theorem wp_region_late {P : Program} {id : Nat} {Q : Exit → Act → World → Prop} {a : Act} {w : World} {o : Oper} {l : List Oper} (n : Nat) (x : Operand) (ho : o.op = .move x) (hg : o.guard = none) (ha : o.after = #[])
    {o1 o2 : Oper} {t1 t2 : Operand} {i1 i2 : Nat} (e1 : l[n - 1]? = some o1) (e2 : l[n]? = some o2) (p1 : o1.op = .extract t1 i1) (p2 : o2.op = .extract t2 i2) (g1 : o1.guard = none) (g2 : o2.guard = none)
    (hm : P.follows .mixedOrders = true) (hB : lexLateB (o :: l).toArray n = true)
    (hQ : ∀ c (a : Act) v w, Q (.panic c) (a.put o.dst v) w → Q (.panic c) a w) (hQ1 : ∀ c (a : Act) v w, Q (.panic c) (a.put o1.dst v) w → Q (.panic c) a w) (hQ2 : ∀ c (a : Act) v w, Q (.panic c) (a.put o2.dst v) w → Q (.panic c) a w)
    (h : wpQuiet P (o :: l).toArray (fun w' => ∃ p : Regrown, w' = grow (redrawn w p.d) p.os) (fun a' => ∀ w', Below w.heap.size w w' → wpList P (o :: l).toArray Q (l.drop (n + 1)) a' w') (l.take (n + 1)) (a.put o.dst (a.eval x))) : (Code.region id (o :: l).toArray true).wp P Q a w := by
  refine wp_region_late_tail (C := fun w' => ∃ p : Regrown, w' = grow (redrawn w p.d) p.os) n x ho hg ha e1 e2 p1 p2 g1 g2 hm hB ⟨⟨w.drawn + 1, #[]⟩, by rw [grow_empty]; rfl⟩ hQ hQ1 hQ2 ?_
  have e : (fun a' => ∀ w', Below w.heap.size w w' → wpList P (o :: l).toArray Q (l.drop (n + 1)) a' w') = (fun a' => ∀ w', (∃ p : Regrown, w' = grow (redrawn w p.d) p.os) → wpList P (o :: l).toArray Q (l.drop (n + 1)) a' w') := by
    funext a'
    refine propext ⟨fun h w' ⟨p, hp⟩ => h w' (hp ▸ below_regrown w p.d p.os), fun h w' hb => h w' (regrown_of_below hb)⟩
  rw [← e]
  exact h
end Go.Proofs.YtfidcdkoggfjaaaDoor
