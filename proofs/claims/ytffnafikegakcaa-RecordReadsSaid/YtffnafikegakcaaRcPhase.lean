/- A region that draws its order, two of whose operations (calls) change what was there: the values are fixed; an invariant of the world for each set of the two that is behind. -/
import Derived.Test.YtffnafikegakcaaBase
namespace Go.Proofs.Ytffnafikegakcaa
open Go.RowKit Go.Sort
set_option maxRecDepth 100000
set_option linter.unusedSimpArgs false
set_option linter.unusedVariables false

section
variable {P : Program} {ops : Array Oper}

def phQuiet (P : Program) (w : World) (K : World → Prop) (v : Value) : Result Next → Prop
  | .ok (.value u) w' => w' = w ∧ u = v ∧ K w'
  | .ok (.enter f args) w' => w' = w ∧ Calls P f args w (fun e w'' => e = .returned v ∧ K w'')
  | _ => False
theorem wp_of_phQuiet {o : Oper} {a : Act} {w : World} {v : Value} {L : World → Prop} {K : Act → World → Prop} {Q : Exit → Act → World → Prop}
    (h : phQuiet P w L v ((execOp a.eval o).run P w)) (hK : ∀ w', L w' → K (a.put o.dst v) w') : o.wp P a w K Q := by
  unfold Oper.wp
  generalize (execOp a.eval o).run P w = r at *
  cases r with
  | ok n w' =>
    cases n <;> simp only [phQuiet] at h <;> simp only [Oper.upon]
    case value u => obtain ⟨rfl, rfl, h⟩ := h; exact hK _ h
    case enter f args =>
      obtain ⟨rfl, hc⟩ := h
      exact hc.mono fun e w'' ⟨he, hw''⟩ => by subst he; exact hK _ hw''
  | halt x w' => simp only [phQuiet] at h
def phObl (P : Program) (K : Bool → Bool → World → Prop) (c1 c2 : Nat) : List Oper → List HeadSpec → Nat → Prop
  | o :: l, s :: S, i => (∀ (a : Act) (w : World) (x y : Bool), K x y w → (i = c1 → x = false) → (i = c2 → y = false) → (∀ p ∈ s.rd, a.tmps.getD p.1 undef = p.2) → phQuiet P w (K (x || i == c1) (y || i == c2)) s.v ((execOp a.eval o).run P w)) ∧ phObl P K c1 c2 l S (i + 1)
  | [], [], _ => True
  | _, _, _ => False
theorem phObl_get {K : Bool → Bool → World → Prop} {c1 c2 : Nat} : ∀ {l : List Oper} {S : List HeadSpec} {k : Nat}, phObl P K c1 c2 l S k → l.length = S.length ∧ ∀ (i : Nat) (o : Oper) (s : HeadSpec), l[i]? = some o → S[i]? = some s →
    ∀ (a : Act) (w : World) (x y : Bool), K x y w → (k + i = c1 → x = false) → (k + i = c2 → y = false) → (∀ p ∈ s.rd, a.tmps.getD p.1 undef = p.2) → phQuiet P w (K (x || k + i == c1) (y || k + i == c2)) s.v ((execOp a.eval o).run P w)
  | [], [], _, _ => ⟨rfl, fun i o s h _ => by simp at h⟩
  | o :: l, s :: S, k, h => by
    obtain ⟨h1, h2⟩ := h
    obtain ⟨hl, hg⟩ := phObl_get h2
    refine ⟨by simp [hl], fun i o' s' ho hs => ?_⟩
    cases i with
    | zero => simp at ho hs; subst ho hs; exact h1
    | succ i => simp at ho hs; rw [show k + (i + 1) = k + 1 + i by omega]; exact hg i o' s' ho hs
  | [], _ :: _, _, h => h.elim
  | _ :: _, [], _, h => h.elim
/-- The region. -/
theorem wp_region_phase {id : Nat} {Q : Exit → Act → World → Prop} {a : Act} {w : World} {l : List Oper} (n m c1 c2 : Nat) (S : List HeadSpec) (K : Bool → Bool → World → Prop) (hm : P.follows .mixedOrders = true)
    (hB : freshB l.toArray n m (List.replicate n false) (S.map fun s => s.rd.map (·.1)) = true) (hsz : a.tmps.size = m) (hc1 : c1 < n) (hc2 : c2 < n)
    (h0 : K false false { w with drawn := w.drawn + 1 }) (hob : phObl P K c1 c2 (l.take n) S 0)
    (hrd : headReads (headPut a (l.take n) (specV S) 0) S) (hend : ∀ w', K true true w' → wpList P l.toArray Q (l.drop n) (headPut a (l.take n) (specV S) 0) w') : (Code.region id l.toArray true).wp P Q a w := by
  have hB0 := hB
  unfold freshB at hB0
  simp only [Bool.and_eq_true, decide_eq_true_eq] at hB0
  obtain ⟨⟨⟨⟨⟨⟨hn, _⟩, _⟩, hops⟩, hrds⟩, hlen⟩, _⟩ := hB0
  have hn' : n < l.length := by simpa using hn
  have htl : (l.take n).length = n := by simp; omega
  obtain ⟨hSl, hget⟩ := phObl_get hob
  rw [htl] at hSl
  have hopi : ∀ i, i < n → ∃ o d, l.toArray[i]? = some o ∧ o.guard = none ∧ o.dst = some d ∧ dstOf l.toArray i = some d ∧ d < a.tmps.size ∧ ∀ j, j < n → j ≠ i → dstOf l.toArray j ≠ some d := fun i hi => by
    have hop := List.all_eq_true.1 hops i (List.mem_range.2 hi)
    unfold headOpB at hop
    have hio : l.toArray[i]? = some l.toArray[i] := Array.getElem?_eq_getElem (by simp; omega)
    rw [hio] at hop
    simp only [Bool.and_eq_true] at hop
    obtain ⟨⟨hg, _⟩, hd⟩ := hop
    cases hdd : l.toArray[i].dst with
    | none => rw [hdd] at hd; cases hd
    | some d =>
      rw [hdd] at hd
      simp only [Bool.and_eq_true, decide_eq_true_eq] at hd
      refine ⟨_, d, hio, by simpa using hg, hdd, by rw [dstOf, hio]; exact hdd, by rw [hsz]; exact hd.1, fun j hj hji e => ?_⟩
      have := List.all_eq_true.1 hd.2 j (List.mem_range.2 hj)
      simp only [Bool.or_eq_true, beq_iff_eq, bne_iff_ne] at this
      rcases this with h | h
      · exact hji h
      · exact h e
  have hfr0 : FrameIs l.toArray n a (specV S) (Array.replicate l.toArray.size false) a := ⟨rfl, rfl, fun j d _ h _ => (by rw [Go.getD_replicate_false] at h; cases h), fun _ _ => rfl⟩
  obtain ⟨lF, hlF, hF⟩ := headPut_is (ops := l.toArray) (n := n) (a0 := a) (vs := specV S) (fun i hi => by obtain ⟨o, d, _, _, _, h1, h2, h3⟩ := hopi i hi; exact ⟨d, h1, h2, h3⟩)
    (l.take n) 0 (Array.replicate l.toArray.size false) a (by omega) (fun j hj => by rw [htl] at hj; simp [List.getElem?_take, hj]) (by simp; omega) (fun i hi => by rw [Go.getD_replicate_false]; simp) hfr0
  have hread : ∀ (i : Nat) (rd : List (Nat × Value)) (listed : Array Bool) (a' : Act), headRdB l.toArray n i (List.replicate n false) (rd.map (·.1)) = true → i ∈ Region.ready .any l.toArray listed → FrameIs l.toArray n a (specV S) listed a' →
      ∀ p ∈ rd, a'.tmps.getD p.1 undef = (headPut a (l.take n) (specV S) 0).tmps.getD p.1 undef := fun i rd listed a' hR hr hf p hp => by
    unfold headRdB at hR
    have hR2 := List.all_eq_true.1 hR p.1 (List.mem_map.2 ⟨p, hp, rfl⟩)
    by_cases hx : ∃ j, j < n ∧ dstOf l.toArray j = some p.1
    · obtain ⟨j, hj, hdj⟩ := hx
      have hR3 := List.all_eq_true.1 hR2 j (List.mem_range.2 hj)
      simp only [hdj, bne_self_eq_false, Bool.false_or, Bool.and_eq_true] at hR3
      obtain ⟨oj, hoj, e, he, hbi, heq⟩ := Region.waitsFor_spec hR3.1
      have hlj : listed.getD j false = true := by
        obtain ⟨_, o2, ho2, hall⟩ := mem_ready.1 hr
        rw [hoj] at ho2; cases ho2
        rw [← heq]; exact hall e he hbi
      rw [hf.put j p.1 hj hlj hdj, hF.put j p.1 hj (hlF j hj) hdj]
    · rw [hf.old p.1 fun j hj _ e => hx ⟨j, hj, e⟩, hF.old p.1 fun j hj _ e => hx ⟨j, hj, e⟩]
  refine wp_region_inv n m _ _ hm hB (fun listed a' w' => listed.size = l.toArray.size ∧ FrameIs l.toArray n a (specV S) listed a' ∧ K (listed.getD c1 false) (listed.getD c2 false) w') ?_ ?_ ?_
  · exact ⟨by simp, hfr0, by rw [Go.getD_replicate_false, Go.getD_replicate_false]; exact h0⟩
  · intro i hi listed a' w' hr inv hJ
    obtain ⟨hls, hf, hk⟩ := hJ
    have hil : i < listed.size := by rw [hls]; omega
    have hu : listed.getD i false = false := Go.getD_both (mem_ready.1 hr).1
    obtain ⟨o, d, ho, hg, hod, hd, hdm, hne⟩ := hopi i hi
    obtain ⟨s, hs⟩ : ∃ s, S[i]? = some s := ⟨S[i]'(by omega), List.getElem?_eq_getElem (by omega)⟩
    have hR := List.all_eq_true.1 hrds i (List.mem_range.2 hi)
    rw [show (S.map fun s => s.rd.map (·.1)).getD i [] = s.rd.map (·.1) by simp [List.getD_eq_getElem?_getD, hs]] at hR
    have hobl := hget i o s (by simpa [List.getElem?_take, hi] using ho) hs a' w' _ _ hk (fun e => by rw [← e, Nat.zero_add]; exact hu) (fun e => by rw [← e, Nat.zero_add]; exact hu) (fun p hp => (hread i s.rd listed a' hR hr hf p hp).trans (headReads_get hrd i s hs p hp))
    unfold wpOp
    simp only [ho]
    have hw : Region.wanted o (yielded l.toArray a'.tmps) = true := by simp [Region.wanted, hg]
    rw [if_pos hw]
    refine .inl (wp_of_phQuiet hobl fun w'' hk2 => ?_)
    rw [hod]
    have hv : (fun j => if j = i then s.v else specV S j) = specV S := by
      funext j
      by_cases hji : j = i
      · subst hji; simp [specV, hs]
      · simp [hji]
    have hstep := hf.step hi hil hu hd hdm hne s.v
    rw [hv] at hstep
    have hset : ∀ c, (listed.setIfInBounds i true).getD c false = (listed.getD c false || 0 + i == c) := fun c => by
      by_cases hc : i = c
      · subst hc; rw [getD_set_self _ _ hil]; simp
      · rw [getD_set_not _ _ _ hc]
        have : (0 + i == c) = false := by simpa using hc
        rw [this, Bool.or_false]
    exact ⟨by simpa using hls, hstep, by rw [hset c1, hset c2]; exact hk2⟩
  · intro listed a' w' hall hJ
    obtain ⟨hls, hf, hk⟩ := hJ
    rw [hf.eq hF (fun i hi => hall i (by omega)) hlF]
    rw [hall c1 hc1, hall c2 hc2] at hk
    exact hend w' hk
end
end Go.Proofs.Ytffnafikegakcaa
