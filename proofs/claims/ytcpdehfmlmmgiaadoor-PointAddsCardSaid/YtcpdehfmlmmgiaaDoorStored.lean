/- A region that draws its order, with a store in its midst: operations of fixed values, some ahead of the store and some behind it, then a tail in one forced order. One invariant of the world ahead of the store, one behind it. -/
import Derived.Test.YtcpdehfmlmmgiaaDoorTold
namespace Go.Proofs.YtcpdehfmlmmgiaaDoor
open Go.RowKit Go.Sort
set_option maxRecDepth 100000
set_option linter.unusedSimpArgs false
set_option linter.unusedVariables false

section
variable {P : Program} {ops : Array Oper}

def storedB (ops : Array Oper) (n m : Nat) (rds : List (List Nat)) (srd : List Nat) : Bool :=
  decide (n + 1 < ops.size) && Region.sinkB .any ops (n + 1) && Region.chainB .any ops (n + 1) && (List.range n).all (headOpB ops n m) && (List.range n).all (fun i => headRdB ops n i (List.replicate n false) (rds.getD i [])) && headRdB ops n n (List.replicate n false) srd && decide (rds.length = n) &&
  (match ops[n]? with
    | some o => o.guard.isNone && o.dst.isNone && o.after.all (fun x => !Region.binds .any x || decide (x.on < n))
    | none => false) &&
  Region.seqB .any ops (ops.size - (n + 1)) (n + 1) (Array.replicate (n + 1) true ++ Array.replicate (ops.size - (n + 1)) false)
def storedObl (P : Program) (K : World → Prop) : List Oper → List HeadSpec → Prop
  | o :: l, s :: S => (∀ (a : Act) (w : World), K w → (∀ p ∈ s.rd, a.tmps.getD p.1 undef = p.2) → sQuiet P w s.v ((execOp a.eval o).run P w)) ∧ storedObl P K l S
  | [], [] => True
  | _, _ => False
theorem storedObl_get {K : World → Prop} : ∀ {l : List Oper} {S : List HeadSpec}, storedObl P K l S → l.length = S.length ∧ ∀ (i : Nat) (o : Oper) (s : HeadSpec), l[i]? = some o → S[i]? = some s →
    ∀ (a : Act) (w : World), K w → (∀ p ∈ s.rd, a.tmps.getD p.1 undef = p.2) → sQuiet P w s.v ((execOp a.eval o).run P w)
  | [], [], _ => ⟨rfl, fun i o s h _ => by simp at h⟩
  | o :: l, s :: S, h => by
    obtain ⟨h1, h2⟩ := h
    obtain ⟨hl, hg⟩ := storedObl_get h2
    refine ⟨by simp [hl], fun i o' s' ho hs => ?_⟩
    cases i with
    | zero => simp at ho hs; subst ho hs; exact h1
    | succ i => simp at ho hs; exact hg i o' s' ho hs
  | [], _ :: _, h => h.elim
  | _ :: _, [], h => h.elim
/-- The region. -/
theorem wp_region_stored {id : Nat} {Q : Exit → Act → World → Prop} {a : Act} {w : World} {l : List Oper} (n m : Nat) (S : List HeadSpec) (srd : List (Nat × Value)) (K0 K1 : World → Prop) (so : Oper) (hso : l[n]? = some so) (hm : P.follows .mixedOrders = true)
    (hB : storedB l.toArray n m (S.map fun s => s.rd.map (·.1)) (srd.map (·.1)) = true) (hsz : a.tmps.size = m)
    (h0 : K0 { w with drawn := w.drawn + 1 }) (k0 : ∀ w1 w2, K0 w1 → Below w1.heap.size w1 w2 → K0 w2) (k1 : ∀ w1 w2, K1 w1 → Below w1.heap.size w1 w2 → K1 w2)
    (hob : storedObl P (fun w' => K0 w' ∨ K1 w') (l.take n) S)
    (hst : ∀ (a' : Act) (w' : World), K0 w' → (∀ p ∈ srd, a'.tmps.getD p.1 undef = p.2) → ∃ w2, (execOp a'.eval so).run P w' = .ok .skip w2 ∧ K1 w2)
    (hrd : headReads (headPut a (l.take n) (specV S) 0) S) (hsr : ∀ p ∈ srd, (headPut a (l.take n) (specV S) 0).tmps.getD p.1 undef = p.2)
    (hend : ∀ w', K1 w' → wpList P l.toArray Q (l.drop (n + 1)) (headPut a (l.take n) (specV S) 0) w') : (Code.region id l.toArray true).wp P Q a w := by
  have hB0 := hB
  unfold storedB at hB0
  simp only [Bool.and_eq_true, decide_eq_true_eq] at hB0
  obtain ⟨⟨⟨⟨⟨⟨⟨⟨hn, hsk⟩, hch⟩, hops⟩, hrds⟩, hsrd⟩, hlen⟩, hst0⟩, hsq⟩ := hB0
  have hn' : n + 1 < l.length := by simpa using hn
  have hsoA : l.toArray[n]? = some so := by simpa using hso
  rw [hsoA] at hst0
  simp only [Bool.and_eq_true, Option.isNone_iff_eq_none] at hst0
  obtain ⟨⟨hsg, hsd⟩, hsaft⟩ := hst0
  have htl : (l.take n).length = n := by simp; omega
  obtain ⟨hSl, hget⟩ := storedObl_get hob
  rw [htl] at hSl
  have hopi : ∀ i, i < n → ∃ o d, l.toArray[i]? = some o ∧ o.guard = none ∧ o.dst = some d ∧ dstOf l.toArray i = some d ∧ d < a.tmps.size ∧ ∀ j, j < n → j ≠ i → dstOf l.toArray j ≠ some d := fun i hi => by
    have hop := List.all_eq_true.1 hops i (List.mem_range.2 hi)
    unfold headOpB at hop
    have hio : l.toArray[i]? = some l.toArray[i] := Array.getElem?_eq_getElem (by simp; omega)
    rw [hio] at hop
    simp only [Bool.and_eq_true] at hop
    obtain ⟨⟨hg, _⟩, hd⟩ := hop
    cases hdd : l.toArray[i].dst with
    | none => rw [hdd] at hd; cases hd
    | some d =>
      rw [hdd] at hd
      simp only [Bool.and_eq_true, decide_eq_true_eq] at hd
      refine ⟨_, d, hio, by simpa using hg, hdd, by rw [dstOf, hio]; exact hdd, by rw [hsz]; exact hd.1, fun j hj hji e => ?_⟩
      have := List.all_eq_true.1 hd.2 j (List.mem_range.2 hj)
      simp only [Bool.or_eq_true, beq_iff_eq, bne_iff_ne] at this
      rcases this with h | h
      · exact hji h
      · exact h e
  have hfr0 : FrameIs l.toArray n a (specV S) (Array.replicate l.toArray.size false) a := ⟨rfl, rfl, fun j d _ h _ => (by rw [Go.getD_replicate_false] at h; cases h), fun _ _ => rfl⟩
  obtain ⟨lF, hlF, hF⟩ := headPut_is (ops := l.toArray) (n := n) (a0 := a) (vs := specV S) (fun i hi => by obtain ⟨o, d, _, _, _, h1, h2, h3⟩ := hopi i hi; exact ⟨d, h1, h2, h3⟩)
    (l.take n) 0 (Array.replicate l.toArray.size false) a (by omega) (fun j hj => by rw [htl] at hj; simp [List.getElem?_take, hj]) (by simp; omega) (fun i hi => by rw [Go.getD_replicate_false]; simp) hfr0
  -- what an operation reads
  have hread : ∀ (i : Nat) (rd : List (Nat × Value)) (listed : Array Bool) (a' : Act), headRdB l.toArray n i (List.replicate n false) (rd.map (·.1)) = true → i ∈ Region.ready .any l.toArray listed → FrameIs l.toArray n a (specV S) listed a' →
      ∀ p ∈ rd, a'.tmps.getD p.1 undef = (headPut a (l.take n) (specV S) 0).tmps.getD p.1 undef := fun i rd listed a' hR hr hf p hp => by
    unfold headRdB at hR
    have hR2 := List.all_eq_true.1 hR p.1 (List.mem_map.2 ⟨p, hp, rfl⟩)
    by_cases hx : ∃ j, j < n ∧ dstOf l.toArray j = some p.1
    · obtain ⟨j, hj, hdj⟩ := hx
      have hR3 := List.all_eq_true.1 hR2 j (List.mem_range.2 hj)
      simp only [hdj, bne_self_eq_false, Bool.false_or, Bool.and_eq_true] at hR3
      obtain ⟨oj, hoj, e, he, hbi, heq⟩ := Region.waitsFor_spec hR3.1
      have hlj : listed.getD j false = true := by
        obtain ⟨_, o2, ho2, hall⟩ := mem_ready.1 hr
        rw [hoj] at ho2; cases ho2
        rw [← heq]; exact hall e he hbi
      rw [hf.put j p.1 hj hlj hdj, hF.put j p.1 hj (hlF j hj) hdj]
    · rw [hf.old p.1 fun j hj _ e => hx ⟨j, hj, e⟩, hF.old p.1 fun j hj _ e => hx ⟨j, hj, e⟩]
  refine wp_region_inv_g (n + 1) hm hn' hsk hch (fun i hi o ho => (by
      by_cases hin : i = n
      · subst hin; rw [hsoA] at ho; cases ho; exact hsaft
      · have hop := List.all_eq_true.1 hops i (List.mem_range.2 (by omega))
        unfold headOpB at hop
        rw [ho] at hop
        simp only [Bool.and_eq_true] at hop
        exact hop.1.2)) hsq (fun listed a' w' => listed.size = l.toArray.size ∧ FrameIs l.toArray n a (specV S) listed a' ∧ (listed.getD n false = false → K0 w') ∧ (listed.getD n false = true → K1 w')) ?_ ?_ ?_
  · exact ⟨by simp, hfr0, fun _ => h0, fun h => (by rw [Go.getD_replicate_false] at h; cases h)⟩
  · intro i hi listed a' w' hr inv hJ
    obtain ⟨hls, hf, hA, hK⟩ := hJ
    have hil : i < listed.size := by rw [hls]; omega
    have hu : listed.getD i false = false := Go.getD_both (mem_ready.1 hr).1
    by_cases hin : i = n
    · subst hin
      obtain ⟨w2, hrun, hk1⟩ := hst a' w' (hA hu) (fun p hp => (hread i srd listed a' hsrd hr hf p hp).trans (hsr p hp))
      unfold wpOp
      simp only [hsoA]
      have hw : Region.wanted so (yielded l.toArray a'.tmps) = true := by simp [Region.wanted, hsg]
      rw [if_pos hw]
      refine .inl ?_
      unfold Oper.wp
      rw [hrun]
      simp only [Oper.upon]
      rw [hsd]
      have hli : ∀ j, j < i → (listed.setIfInBounds i true).getD j false = listed.getD j false := fun j hj => getD_set_not _ _ _ (by omega) _
      exact ⟨by simpa using hls, ⟨hf.defers, hf.size, fun j d hj hlj hdj => hf.put j d hj (by rw [← hli j hj]; exact hlj) hdj, fun d hno => hf.old d fun j hj hlj => hno j hj (by rw [hli j hj]; exact hlj)⟩,
        fun h => (by rw [getD_set_self _ _ hil] at h; cases h), fun _ => hk1⟩
    · have hi' : i < n := by omega
      obtain ⟨o, d, ho, hg, hod, hd, hdm, hne⟩ := hopi i hi'
      obtain ⟨s, hs⟩ : ∃ s, S[i]? = some s := ⟨S[i]'(by omega), List.getElem?_eq_getElem (by omega)⟩
      have hK01 : K0 w' ∨ K1 w' := by
        cases hln : listed.getD n false with
        | false => exact .inl (hA hln)
        | true => exact .inr (hK hln)
      have hR := List.all_eq_true.1 hrds i (List.mem_range.2 hi')
      rw [show (S.map fun s => s.rd.map (·.1)).getD i [] = s.rd.map (·.1) by simp [List.getD_eq_getElem?_getD, hs]] at hR
      have hobl := hget i o s (by simpa [List.getElem?_take, hi'] using ho) hs a' w' hK01 (fun p hp => (hread i s.rd listed a' hR hr hf p hp).trans (headReads_get hrd i s hs p hp))
      unfold wpOp
      simp only [ho]
      have hw : Region.wanted o (yielded l.toArray a'.tmps) = true := by simp [Region.wanted, hg]
      rw [if_pos hw]
      refine .inl (wp_of_sQuiet hobl fun w'' hb2 => ?_)
      rw [hod]
      have hv : (fun j => if j = i then s.v else specV S j) = specV S := by
        funext j
        by_cases hji : j = i
        · subst hji; simp [specV, hs]
        · simp [hji]
      have hstep := hf.step hi' hil hu hd hdm hne s.v
      rw [hv] at hstep
      have hlin : (listed.setIfInBounds i true).getD n false = listed.getD n false := getD_set_not _ _ _ (by omega) _
      exact ⟨by simpa using hls, hstep, fun h => k0 _ _ (hA (by rw [← hlin]; exact h)) hb2, fun h => k1 _ _ (hK (by rw [← hlin]; exact h)) hb2⟩
  · intro listed a' w' hall hJ
    obtain ⟨hls, hf, hA, hK⟩ := hJ
    rw [hf.eq hF (fun i hi => hall i (by omega)) hlF]
    exact hend w' (hK (hall n (by omega)))
end
end Go.Proofs.YtcpdehfmlmmgiaaDoor
