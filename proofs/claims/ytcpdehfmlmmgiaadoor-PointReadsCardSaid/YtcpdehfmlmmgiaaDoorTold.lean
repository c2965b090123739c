/- A region that draws its order, whose head reads, calls, and makes memory, and of whose operations' values only so much is known (where they lie hangs on the order); and a tail in one forced order. One walk of the text's order serves every order: the values are variables. -/
import Derived.Test.YtcpdehfmlmmgiaaDoorBase
namespace Go.Proofs.YtcpdehfmlmmgiaaDoor
open Go.RowKit Go.Sort
set_option maxRecDepth 100000
set_option linter.unusedSimpArgs false
set_option linter.unusedVariables false

/-- What is known of a value in a world, kept by whatever changes nothing that was there. -/
structure Told where
  T : World → Value → Prop
  keep : ∀ w w' v, Below w.heap.size w w' → T w v → T w' v
def Told.val (v : Value) : Told := ⟨fun _ u => u = v, fun _ _ _ _ h => h⟩
/-- An operation of the head: what is known of its value, and the slots that it reads. -/
abbrev ToldSpec := Told × List Nat
def toldGet : List Oper → List ToldSpec → Nat → Option Told
  | o :: l, s :: S, k => if o.dst = some k then some s.1 else toldGet l S k
  | _, _, _ => none
/-- What an operation knows of a slot that it reads. -/
def toldFact (l : List Oper) (S : List ToldSpec) (a0 : Act) (k : Nat) (a : Act) (w : World) : Prop :=
  match toldGet l S k with
  | some t => t.T w (a.tmps.getD k undef)
  | none => a.tmps.getD k undef = a0.tmps.getD k undef
def toldQuiet (P : Program) (w : World) (t : Told) : Result Next → Prop
  | .ok (.value u) w' => Below w.heap.size w w' ∧ t.T w' u
  | .ok (.enter f args) w' => w' = w ∧ Calls P f args w (fun e w'' => ∃ v, e = .returned v ∧ t.T w'' v ∧ Below w.heap.size w w'')
  | _ => False
theorem wp_of_toldQuiet {P : Program} {o : Oper} {a : Act} {w : World} {t : Told} {K : Act → World → Prop} {Q : Exit → Act → World → Prop}
    (h : toldQuiet P w t ((execOp a.eval o).run P w)) (hK : ∀ v w', Below w.heap.size w w' → t.T w' v → K (a.put o.dst v) w') : o.wp P a w K Q := by
  unfold Oper.wp
  generalize (execOp a.eval o).run P w = r at *
  cases r with
  | ok n w' =>
    cases n <;> simp only [toldQuiet] at h <;> simp only [Oper.upon]
    case value u => exact hK _ _ h.1 h.2
    case enter f args =>
      obtain ⟨rfl, hc⟩ := h
      exact hc.mono fun e w'' ⟨v, he, hv, hw''⟩ => by subst he; exact hK _ _ hw'' hv
  | halt x w' => simp only [toldQuiet] at h

section
variable {P : Program} {ops : Array Oper}

def toldOblOf (P : Program) (w0 : World) (l0 : List Oper) (S0 : List ToldSpec) (a0 : Act) (o : Oper) (s : ToldSpec) : Prop :=
  ∀ (a : Act) (w : World), Below w0.heap.size w0 w → (∀ k ∈ s.2, toldFact l0 S0 a0 k a w) → toldQuiet P w s.1 ((execOp a.eval o).run P w)
def toldObl (P : Program) (w0 : World) (l0 : List Oper) (S0 : List ToldSpec) (a0 : Act) : List Oper → List ToldSpec → Prop
  | o :: l, s :: S => toldOblOf P w0 l0 S0 a0 o s ∧ toldObl P w0 l0 S0 a0 l S
  | [], [] => True
  | _, _ => False
def toldEnd (P : Program) (ops : Array Oper) (Q : Exit → Act → World → Prop) (rest : List Oper) (w' : World) : List Oper → List ToldSpec → Act → Prop
  | o :: l, s :: S, a => ∀ u : Value, s.1.T w' u → toldEnd P ops Q rest w' l S (a.put o.dst u)
  | _, _, a => wpList P ops Q rest a w'
theorem toldObl_get {w0 : World} {l0 : List Oper} {S0 : List ToldSpec} {a0 : Act} : ∀ {l : List Oper} {S : List ToldSpec}, toldObl P w0 l0 S0 a0 l S → l.length = S.length ∧ ∀ (i : Nat) (o : Oper) (s : ToldSpec), l[i]? = some o → S[i]? = some s → toldOblOf P w0 l0 S0 a0 o s
  | [], [], _ => ⟨rfl, fun i o s h _ => by simp at h⟩
  | o :: l, s :: S, h => by
    obtain ⟨h1, h2⟩ := h
    obtain ⟨hl, hg⟩ := toldObl_get h2
    refine ⟨by simp [hl], fun i o' s' ho hs => ?_⟩
    cases i with
    | zero => simp at ho hs; subst ho hs; exact h1
    | succ i => simp at ho hs; exact hg i o' s' ho hs
  | [], _ :: _, h => h.elim
  | _ :: _, [], h => h.elim
theorem toldGet_some {k : Nat} {t : Told} : ∀ {l : List Oper} {S : List ToldSpec}, toldGet l S k = some t → ∃ (j : Nat) (o : Oper) (s : ToldSpec), l[j]? = some o ∧ S[j]? = some s ∧ o.dst = some k ∧ t = s.1
  | [], _, h => by simp [toldGet] at h
  | _ :: _, [], h => by simp [toldGet] at h
  | o :: l, s :: S, h => by
    rw [toldGet] at h
    by_cases hd : o.dst = some k
    · rw [if_pos hd] at h
      exact ⟨0, o, s, by simp, by simp, hd, (Option.some.inj h).symm⟩
    · rw [if_neg hd] at h
      obtain ⟨j, o', s', h1, h2, h3, h4⟩ := toldGet_some h
      exact ⟨j + 1, o', s', by simpa using h1, by simpa using h2, h3, h4⟩
theorem toldGet_none {k : Nat} : ∀ {l : List Oper} {S : List ToldSpec}, l.length = S.length → toldGet l S k = none → ∀ (j : Nat) (o : Oper), l[j]? = some o → o.dst ≠ some k
  | [], _, _, _, j, o, h => by simp at h
  | _ :: _, [], hl, _, _, _, _ => by simp at hl
  | o :: l, s :: S, hl, h, j, o', ho => by
    rw [toldGet] at h
    by_cases hd : o.dst = some k
    · rw [if_pos hd] at h; cases h
    · rw [if_neg hd] at h
      cases j with
      | zero => simp at ho; subst ho; exact hd
      | succ j => simp at ho; exact toldGet_none (by simpa using hl) h j o' ho
theorem toldEnd_use {Q : Exit → Act → World → Prop} {rest : List Oper} {w' : World} {vs : Nat → Value} :
    ∀ (l' : List Oper) (S' : List ToldSpec) (b : Act) (k : Nat), l'.length = S'.length → (∀ (i : Nat) (s : ToldSpec), S'[i]? = some s → s.1.T w' (vs (k + i))) →
    toldEnd P ops Q rest w' l' S' b → wpList P ops Q rest (headPut b l' vs k) w'
  | [], [], b, k, _, _, h => by rw [headPut]; exact h
  | o :: l', s :: S', b, k, hl, h1, h => by
    have hs := h1 0 s (by simp)
    rw [Nat.add_zero] at hs
    rw [headPut]
    exact toldEnd_use l' S' _ (k + 1) (by simpa using hl) (fun i t ht => by
      have := h1 (i + 1) t (by simpa using ht); rwa [show k + (i + 1) = k + 1 + i by omega] at this) (h _ hs)
  | [], _ :: _, _, _, hl, _, _ => by simp at hl
  | _ :: _, [], _, _, hl, _, _ => by simp at hl

/-- The region. -/
theorem wp_region_told {id : Nat} {Q : Exit → Act → World → Prop} {a : Act} {w : World} {l : List Oper} (n m : Nat) (S : List ToldSpec) (hm : P.follows .mixedOrders = true)
    (hB : freshB l.toArray n m (S.map fun _ => false) (S.map fun s => s.2) = true) (hsz : a.tmps.size = m)
    (hob : toldObl P w (l.take n) S a (l.take n) S) (hend : ∀ w', Below w.heap.size w w' → toldEnd P l.toArray Q (l.drop n) w' (l.take n) S a) : (Code.region id l.toArray true).wp P Q a w := by
  have hB0 := hB
  unfold freshB at hB0
  simp only [Bool.and_eq_true, decide_eq_true_eq] at hB0
  obtain ⟨⟨⟨⟨⟨⟨hn, _⟩, _⟩, hops⟩, hrds⟩, hlen⟩, _⟩ := hB0
  have hn' : n < l.length := by simpa using hn
  have htl : (l.take n).length = n := by simp; omega
  obtain ⟨hSl0, hget⟩ := toldObl_get hob
  have hSl := hSl0
  rw [htl] at hSl
  have hopi : ∀ i, i < n → ∃ o d, l.toArray[i]? = some o ∧ o.guard = none ∧ o.dst = some d ∧ dstOf l.toArray i = some d ∧ d < a.tmps.size ∧ ∀ j, j < n → j ≠ i → dstOf l.toArray j ≠ some d := fun i hi => by
    have hop := List.all_eq_true.1 hops i (List.mem_range.2 hi)
    unfold headOpB at hop
    have hio : l.toArray[i]? = some l.toArray[i] := Array.getElem?_eq_getElem (by simpa using Nat.lt_trans hi hn')
    rw [hio] at hop
    simp only [Bool.and_eq_true] at hop
    obtain ⟨⟨hg, _⟩, hd⟩ := hop
    cases hdd : l.toArray[i].dst with
    | none => rw [hdd] at hd; cases hd
    | some d =>
      rw [hdd] at hd
      simp only [Bool.and_eq_true, decide_eq_true_eq] at hd
      refine ⟨_, d, hio, by simpa using hg, hdd, by rw [dstOf, hio]; exact hdd, by rw [hsz]; exact hd.1, fun j hj hji e => ?_⟩
      have := List.all_eq_true.1 hd.2 j (List.mem_range.2 hj)
      simp only [Bool.or_eq_true, beq_iff_eq, bne_iff_ne] at this
      rcases this with h | h
      · exact hji h
      · exact h e
  have hfr0 : FrameIs l.toArray n a (fun _ => undef) (Array.replicate l.toArray.size false) a := ⟨rfl, rfl, fun j d _ h _ => (by rw [Go.getD_replicate_false] at h; cases h), fun _ _ => rfl⟩
  refine wp_region_inv n m _ _ hm hB (fun listed a' w' => listed.size = l.toArray.size ∧ ∃ vs : Nat → Value, FrameIs l.toArray n a vs listed a' ∧ Below w.heap.size w w' ∧
      (∀ (i : Nat) (s : ToldSpec), i < n → listed.getD i false = true → S[i]? = some s → s.1.T w' (vs i))) ?_ ?_ ?_
  · exact ⟨by simp, fun _ => undef, hfr0, ⟨rfl, rfl, rfl, Nat.le_refl _, fun _ _ => rfl⟩, fun i s _ h => (by rw [Go.getD_replicate_false] at h; cases h)⟩
  · intro i hi listed a' w' hr inv hJ
    obtain ⟨hls, vs, hf, hb, hsp⟩ := hJ
    obtain ⟨o, d, ho, hg, hod, hd, hdm, hne⟩ := hopi i hi
    have hu : listed.getD i false = false := Go.getD_both (mem_ready.1 hr).1
    have hil : i < listed.size := by rw [hls]; omega
    obtain ⟨s, hs⟩ : ∃ s, S[i]? = some s := ⟨S[i]'(by omega), List.getElem?_eq_getElem (by omega)⟩
    have hobl := hget i o s (by simpa [List.getElem?_take, hi] using ho) hs
    have hwaits : ∀ j, j < n → Region.waitsFor .any l.toArray i j = true → listed.getD j false = true := fun j hj hw1 => by
      obtain ⟨oj, hoj, e, he, hbi, heq⟩ := Region.waitsFor_spec hw1
      rw [ho] at hoj; cases hoj
      obtain ⟨_, o2, ho2, hall⟩ := mem_ready.1 hr
      rw [ho] at ho2; cases ho2
      rw [← heq]; exact hall e he hbi
    have hreads : ∀ k ∈ s.2, toldFact (l.take n) S a k a' w' := fun k hk => by
      have hR := List.all_eq_true.1 hrds i (List.mem_range.2 hi)
      unfold headRdB at hR
      have hki : k ∈ (S.map fun s => s.2).getD i [] := by
        simp only [List.getD_eq_getElem?_getD, List.getElem?_map, hs, Option.map_some, Option.getD_some]
        exact hk
      have hR2 := List.all_eq_true.1 hR k hki
      unfold toldFact
      cases hgt : toldGet (l.take n) S k with
      | none =>
        simp only
        exact hf.old k fun j hj _ e => by
          obtain ⟨oj, dj, hoj, _, _, hdj, _, _⟩ := hopi j hj
          refine toldGet_none hSl0 hgt j oj (by simpa [List.getElem?_take, hj] using hoj) ?_
          rw [dstOf, hoj] at e
          exact e
      | some t =>
        simp only
        obtain ⟨j, oj, sj, h1, h2, h3, rfl⟩ := toldGet_some hgt
        have hj : j < n := by have := (List.getElem?_eq_some_iff.1 h1).1; omega
        have hoj : l.toArray[j]? = some oj := by simpa [List.getElem?_take, hj] using h1
        have hdj : dstOf l.toArray j = some k := by rw [dstOf, hoj]; exact h3
        have hR3 := List.all_eq_true.1 hR2 j (List.mem_range.2 hj)
        simp only [hdj, bne_self_eq_false, Bool.false_or, Bool.and_eq_true] at hR3
        have hlj := hwaits j hj hR3.1
        rw [hf.put j k hj hlj hdj]
        exact hsp j sj hj hlj h2
    unfold wpOp
    simp only [ho]
    have hw : Region.wanted o (yielded l.toArray a'.tmps) = true := by simp [Region.wanted, hg]
    rw [if_pos hw]
    refine .inl ?_
    refine wp_of_toldQuiet (hobl a' w' hb hreads) fun v w'' hb2 hv => ?_
    rw [hod]
    refine ⟨by simpa using hls, _, hf.step hi hil hu hd hdm hne v, hb.trans (hb2.mono hb.size), fun j t hj hlj ht => ?_⟩
    by_cases hji : j = i
    · subst hji; rw [hs] at ht; cases ht; simp only [if_pos]; exact hv
    · simp only [if_neg hji]
      rw [getD_set_not _ _ _ (Ne.symm hji)] at hlj
      exact t.1.keep _ _ _ hb2 (hsp j t hj hlj ht)
  · intro listed a' w' hall hJ
    obtain ⟨hls, vs, hf, hb, hsp⟩ := hJ
    have hfr1 : FrameIs l.toArray n a vs (Array.replicate l.toArray.size false) a := ⟨rfl, rfl, fun j d _ h _ => (by rw [Go.getD_replicate_false] at h; cases h), fun _ _ => rfl⟩
    obtain ⟨lV, hlV, hV⟩ := headPut_is (ops := l.toArray) (n := n) (a0 := a) (vs := vs) (fun i hi => by obtain ⟨o, d, _, _, _, h1, h2, h3⟩ := hopi i hi; exact ⟨d, h1, h2, h3⟩)
      (l.take n) 0 (Array.replicate l.toArray.size false) a (by omega) (fun j hj => by rw [htl] at hj; simp [List.getElem?_take, hj]) (by simp; omega) (fun i hi => by rw [Go.getD_replicate_false]; simp) hfr1
    rw [hf.eq hV hall hlV]
    have hin : ∀ (i : Nat) (s : ToldSpec), S[i]? = some s → i < n := fun i s h => by have := (List.getElem?_eq_some_iff.1 h).1; omega
    exact toldEnd_use (l.take n) S a 0 hSl0 (fun i s hs => by rw [Nat.zero_add]; exact hsp i s (hin i s hs) (hall i (hin i s hs)) hs) (hend w' hb)
/-- A region by an invariant of its head: what it asks of the operations, apart. -/
theorem wp_region_inv_g {id : Nat} {Q : Exit → Act → World → Prop} {a : Act} {w : World} {l : List Oper} (n : Nat) (hm : P.follows .mixedOrders = true) (hn' : n < l.length) (hs : Region.sinkB .any l.toArray n = true) (hc : Region.chainB .any l.toArray n = true)
    (hops : ∀ i, i < n → ∀ o, l.toArray[i]? = some o → o.after.all (fun e => !Region.binds .any e || decide (e.on < i)) = true)
    (hseq : Region.seqB .any l.toArray (l.toArray.size - n) n (Array.replicate n true ++ Array.replicate (l.toArray.size - n) false) = true)
    (J : Array Bool → Act → World → Prop) (h0 : J (Array.replicate l.toArray.size false) a { w with drawn := w.drawn + 1 })
    (hstep : ∀ i, i < n → ∀ listed a' w', i ∈ Region.ready .any l.toArray listed → HeadInv .any l.toArray n listed → J listed a' w' → wpOp P l.toArray Q i (J (listed.setIfInBounds i true)) a' w')
    (hend : ∀ listed a' w', (∀ i, i < n → listed.getD i false = true) → J listed a' w' → wpList P l.toArray Q (l.drop n) a' w') : (Code.region id l.toArray true).wp P Q a w := by
  have hn : n < l.toArray.size := by simpa using hn'
  refine wp_region_any hm ?_
  have main : ∀ (f : Nat) (listed : Array Bool) (a' : Act) (w' : World), toCome listed n = f → HeadInv .any l.toArray n listed → J listed a' w' → wpAny P .any l.toArray Q (f + (l.toArray.size - n)) listed a' w' := by
    intro f
    induction f with
    | zero =>
      intro listed a' w' hf inv hJ
      have hall := toCome_zero _ _ hf
      have hl : listed = Array.replicate n true ++ Array.replicate (l.toArray.size - n) false := by
        apply Array.ext
        · simp [inv.size]; omega
        · intro i h1 h2
          by_cases hi : i < n
          · have := hall i hi
            simp [Array.getD_eq_getD_getElem?, h1] at this
            rw [this, Array.getElem_append_left (by simpa using hi)]; simp
          · have := inv.tail i (by omega) (by rw [← inv.size]; exact h1)
            simp [Array.getD_eq_getD_getElem?, h1] at this
            rw [this, Array.getElem_append_right (by simp; omega)]; simp
      have hdl : (l.drop n).length = l.toArray.size - n := by simp
      have := wpAny_of_seq (md := .any) (Q' := Q) (l.drop n) n listed a' w' (fun j => by simp [List.getElem?_drop]) (by rw [hdl, hl]; exact hseq) (hend listed a' w' hall hJ)
      rw [hdl] at this
      rwa [Nat.zero_add]
    | succ f ih =>
      intro listed a' w' hf inv hJ
      obtain ⟨i, hi, hun, hall⟩ := toCome_pos _ _ _ hf
      have hil : i < listed.size := by rw [inv.size]; omega
      have hunt : listed.getD i true = false := Go.getD_in hil hun
      have hready : i ∈ Region.ready .any l.toArray listed := by
        rw [mem_ready]
        have hio : l.toArray[i]? = some l.toArray[i] := Array.getElem?_eq_getElem (by simpa using Nat.lt_trans hi hn')
        refine ⟨hunt, _, hio, fun e he hb => ?_⟩
        have := Array.all_eq_true'.1 (hops i hi _ hio) e he
        simp only [hb, Bool.not_true, Bool.false_or, decide_eq_true_eq] at this
        exact hall _ this
      rw [show f + 1 + (l.toArray.size - n) = (f + (l.toArray.size - n)) + 1 by omega]
      refine ⟨fun h => (by rw [h] at hready; cases hready), fun j hj => ?_⟩
      have hjn : j < n := Nat.lt_of_not_le fun h => absurd hj (tail_waits hs hc hn inv _ i rfl hi hunt j h)
      have hjl : j < listed.size := by rw [inv.size]; omega
      have hju : listed.getD j false = false := Go.getD_both (mem_ready.1 hj).1
      refine wpOp_mono (fun a'' w'' h => ih _ a'' w'' ?_ (inv.set hj hjn) h) (hstep j hjn listed a' w' hj inv hJ)
      have := toCome_set listed n j hjn hjl hju
      omega
  have hf0 : toCome (Array.replicate l.toArray.size false) n = n := by
    unfold toCome
    have : (List.range n).filter (fun i => !(Array.replicate l.toArray.size false).getD i false) = List.range n := by
      rw [List.filter_eq_self]; intro i _; rw [Go.getD_replicate_false]; rfl
    rw [this, List.length_range]
  have inv0 : HeadInv .any l.toArray n (Array.replicate l.toArray.size false) :=
    ⟨by simp, fun j oj _ hl => (by rw [Go.getD_replicate_false] at hl; cases hl), fun t _ ht => Go.getD_in (by simpa using ht) (Go.getD_replicate_false _ _)⟩
  have := main n _ a _ hf0 inv0 h0
  rwa [show n + (l.toArray.size - n) = l.toArray.size by omega] at this

def toldOpB (ops : Array Oper) (n m i : Nat) : Bool :=
  match ops[i]? with
  | some o => (match o.guard with
    | none => true
    | some g => decide (g.1 < n) && Region.waitsFor .any ops i g.1) && o.after.all (fun e => !Region.binds .any e || decide (e.on < i)) && (match o.dst with
    | some d => decide (d < m) && (List.range n).all fun j => j == i || dstOf ops j != some d
    | none => false)
  | none => false
def toldB (ops : Array Oper) (n m : Nat) (rds : List (List Nat)) : Bool :=
  decide (n < ops.size) && Region.sinkB .any ops n && Region.chainB .any ops n && (List.range n).all (toldOpB ops n m) && (List.range n).all (fun i => headRdB ops n i (List.replicate n false) (rds.getD i [])) && decide (rds.length = n) &&
  Region.seqB .any ops (ops.size - n) n (Array.replicate n true ++ Array.replicate (ops.size - n) false)
def toldGuards (S : List ToldSpec) : List Oper → Prop
  | [] => True
  | o :: l => (match o.guard with
    | none => True
    | some g => match S[g.1]? with
      | some s => ∀ w v, s.1.T w v → v = .bool g.2
      | none => True) ∧ toldGuards S l
theorem toldGuards_get {S : List ToldSpec} : ∀ {l : List Oper}, toldGuards S l → ∀ (i : Nat) (o : Oper), l[i]? = some o → ∀ (j : Nat) (b : Bool), o.guard = some (j, b) → ∀ t, S[j]? = some t → ∀ w v, t.1.T w v → v = .bool b
  | [], _, i, o, h => by simp at h
  | o :: l, h, i, o', ho => by
    intro j b hg t ht w v hv
    cases i with
    | zero =>
      simp at ho; subst ho
      have h1 := h.1
      simp only [hg, ht] at h1
      exact h1 w v hv
    | succ i => exact toldGuards_get h.2 i o' (by simpa using ho) j b hg t ht w v hv
/-- The region, with operations that are guarded by others' bools. -/
theorem wp_region_toldg {id : Nat} {Q : Exit → Act → World → Prop} {a : Act} {w : World} {l : List Oper} (n m : Nat) (S : List ToldSpec) (hm : P.follows .mixedOrders = true)
    (hB : toldB l.toArray n m (S.map fun s => s.2) = true) (hsz : a.tmps.size = m) (hgd : toldGuards S (l.take n))
    (hob : toldObl P w (l.take n) S a (l.take n) S) (hend : ∀ w', Below w.heap.size w w' → toldEnd P l.toArray Q (l.drop n) w' (l.take n) S a) : (Code.region id l.toArray true).wp P Q a w := by
  have hB0 := hB
  unfold toldB at hB0
  simp only [Bool.and_eq_true, decide_eq_true_eq] at hB0
  obtain ⟨⟨⟨⟨⟨⟨hn, hsk⟩, hch⟩, hops⟩, hrds⟩, hlen⟩, hsq⟩ := hB0
  have hn' : n < l.length := by simpa using hn
  have htl : (l.take n).length = n := by simp; omega
  obtain ⟨hSl0, hget⟩ := toldObl_get hob
  have hSl := hSl0
  rw [htl] at hSl
  have hopi : ∀ i, i < n → ∃ o d, l.toArray[i]? = some o ∧ (∀ g, o.guard = some g → g.1 < n ∧ Region.waitsFor .any l.toArray i g.1 = true) ∧ o.dst = some d ∧ dstOf l.toArray i = some d ∧ d < a.tmps.size ∧ ∀ j, j < n → j ≠ i → dstOf l.toArray j ≠ some d := fun i hi => by
    have hop := List.all_eq_true.1 hops i (List.mem_range.2 hi)
    unfold toldOpB at hop
    have hio : l.toArray[i]? = some l.toArray[i] := Array.getElem?_eq_getElem (by simpa using Nat.lt_trans hi hn')
    rw [hio] at hop
    simp only [Bool.and_eq_true] at hop
    obtain ⟨⟨hg, _⟩, hd⟩ := hop
    cases hdd : l.toArray[i].dst with
    | none => rw [hdd] at hd; cases hd
    | some d =>
      rw [hdd] at hd
      simp only [Bool.and_eq_true, decide_eq_true_eq] at hd
      refine ⟨_, d, hio, fun g hgg => (by rw [hgg] at hg; simpa using hg), hdd, by rw [dstOf, hio]; exact hdd, by rw [hsz]; exact hd.1, fun j hj hji e => ?_⟩
      have := List.all_eq_true.1 hd.2 j (List.mem_range.2 hj)
      simp only [Bool.or_eq_true, beq_iff_eq, bne_iff_ne] at this
      rcases this with h | h
      · exact hji h
      · exact h e
  have hfr0 : FrameIs l.toArray n a (fun _ => undef) (Array.replicate l.toArray.size false) a := ⟨rfl, rfl, fun j d _ h _ => (by rw [Go.getD_replicate_false] at h; cases h), fun _ _ => rfl⟩
  refine wp_region_inv_g n hm hn' hsk hch (fun i hi o ho => (by
      have hop := List.all_eq_true.1 hops i (List.mem_range.2 hi)
      unfold toldOpB at hop
      rw [ho] at hop
      simp only [Bool.and_eq_true] at hop
      exact hop.1.2)) hsq (fun listed a' w' => listed.size = l.toArray.size ∧ ∃ vs : Nat → Value, FrameIs l.toArray n a vs listed a' ∧ Below w.heap.size w w' ∧
      (∀ (i : Nat) (s : ToldSpec), i < n → listed.getD i false = true → S[i]? = some s → s.1.T w' (vs i))) ?_ ?_ ?_
  · exact ⟨by simp, fun _ => undef, hfr0, ⟨rfl, rfl, rfl, Nat.le_refl _, fun _ _ => rfl⟩, fun i s _ h => (by rw [Go.getD_replicate_false] at h; cases h)⟩
  · intro i hi listed a' w' hr inv hJ
    obtain ⟨hls, vs, hf, hb, hsp⟩ := hJ
    obtain ⟨o, d, ho, hg, hod, hd, hdm, hne⟩ := hopi i hi
    have hu : listed.getD i false = false := Go.getD_both (mem_ready.1 hr).1
    have hil : i < listed.size := by rw [hls]; omega
    obtain ⟨s, hs⟩ : ∃ s, S[i]? = some s := ⟨S[i]'(by omega), List.getElem?_eq_getElem (by omega)⟩
    have hobl := hget i o s (by simpa [List.getElem?_take, hi] using ho) hs
    have hwaits : ∀ j, j < n → Region.waitsFor .any l.toArray i j = true → listed.getD j false = true := fun j hj hw1 => by
      obtain ⟨oj, hoj, e, he, hbi, heq⟩ := Region.waitsFor_spec hw1
      rw [ho] at hoj; cases hoj
      obtain ⟨_, o2, ho2, hall⟩ := mem_ready.1 hr
      rw [ho] at ho2; cases ho2
      rw [← heq]; exact hall e he hbi
    have hreads : ∀ k ∈ s.2, toldFact (l.take n) S a k a' w' := fun k hk => by
      have hR := List.all_eq_true.1 hrds i (List.mem_range.2 hi)
      unfold headRdB at hR
      have hki : k ∈ (S.map fun s => s.2).getD i [] := by
        simp only [List.getD_eq_getElem?_getD, List.getElem?_map, hs, Option.map_some, Option.getD_some]
        exact hk
      have hR2 := List.all_eq_true.1 hR k hki
      unfold toldFact
      cases hgt : toldGet (l.take n) S k with
      | none =>
        simp only
        exact hf.old k fun j hj _ e => by
          obtain ⟨oj, dj, hoj, _, _, hdj, _, _⟩ := hopi j hj
          refine toldGet_none hSl0 hgt j oj (by simpa [List.getElem?_take, hj] using hoj) ?_
          rw [dstOf, hoj] at e
          exact e
      | some t =>
        simp only
        obtain ⟨j, oj, sj, h1, h2, h3, rfl⟩ := toldGet_some hgt
        have hj : j < n := by have := (List.getElem?_eq_some_iff.1 h1).1; omega
        have hoj : l.toArray[j]? = some oj := by simpa [List.getElem?_take, hj] using h1
        have hdj : dstOf l.toArray j = some k := by rw [dstOf, hoj]; exact h3
        have hR3 := List.all_eq_true.1 hR2 j (List.mem_range.2 hj)
        simp only [hdj, bne_self_eq_false, Bool.false_or, Bool.and_eq_true] at hR3
        have hlj := hwaits j hj hR3.1
        rw [hf.put j k hj hlj hdj]
        exact hsp j sj hj hlj h2
    unfold wpOp
    simp only [ho]
    have hw : Region.wanted o (yielded l.toArray a'.tmps) = true := by
      unfold Region.wanted
      cases hgg : o.guard with
      | none => rfl
      | some jb =>
        obtain ⟨j, b⟩ := jb
        obtain ⟨hj, hw1⟩ := hg _ hgg
        have hlj := hwaits j hj hw1
        obtain ⟨t, ht⟩ : ∃ t, S[j]? = some t := ⟨S[j]'(by omega), List.getElem?_eq_getElem (by omega)⟩
        obtain ⟨oj, dj, hoj, _, hodj, hdj, hdjm, _⟩ := hopi j hj
        have hv := toldGuards_get hgd i o (by simpa [List.getElem?_take, hi] using ho) j b hgg t ht w' (vs j) (hsp j t hj hlj ht)
        have hp := hf.put j dj hj hlj hdj
        rw [hv] at hp
        have hsz2 : dj < a'.tmps.size := by rw [hf.size]; exact hdjm
        have : yielded l.toArray a'.tmps j = some b := by
          unfold yielded
          rw [hoj]
          simp only [Option.bind_some, hodj]
          rw [Array.getD_eq_getD_getElem?, Array.getElem?_eq_getElem hsz2, Option.getD_some] at hp
          rw [Array.getElem?_eq_getElem hsz2, hp]
        simp [this]
    rw [if_pos hw]
    refine .inl ?_
    refine wp_of_toldQuiet (hobl a' w' hb hreads) fun v w'' hb2 hv => ?_
    rw [hod]
    refine ⟨by simpa using hls, _, hf.step hi hil hu hd hdm hne v, hb.trans (hb2.mono hb.size), fun j t hj hlj ht => ?_⟩
    by_cases hji : j = i
    · subst hji; rw [hs] at ht; cases ht; simp only [if_pos]; exact hv
    · simp only [if_neg hji]
      rw [getD_set_not _ _ _ (Ne.symm hji)] at hlj
      exact t.1.keep _ _ _ hb2 (hsp j t hj hlj ht)
  · intro listed a' w' hall hJ
    obtain ⟨hls, vs, hf, hb, hsp⟩ := hJ
    have hfr1 : FrameIs l.toArray n a vs (Array.replicate l.toArray.size false) a := ⟨rfl, rfl, fun j d _ h _ => (by rw [Go.getD_replicate_false] at h; cases h), fun _ _ => rfl⟩
    obtain ⟨lV, hlV, hV⟩ := headPut_is (ops := l.toArray) (n := n) (a0 := a) (vs := vs) (fun i hi => by obtain ⟨o, d, _, _, _, h1, h2, h3⟩ := hopi i hi; exact ⟨d, h1, h2, h3⟩)
      (l.take n) 0 (Array.replicate l.toArray.size false) a (by omega) (fun j hj => by rw [htl] at hj; simp [List.getElem?_take, hj]) (by simp; omega) (fun i hi => by rw [Go.getD_replicate_false]; simp) hfr1
    rw [hf.eq hV hall hlV]
    have hin : ∀ (i : Nat) (s : ToldSpec), S[i]? = some s → i < n := fun i s h => by have := (List.getElem?_eq_some_iff.1 h).1; omega
    exact toldEnd_use (l.take n) S a 0 hSl0 (fun i s hs => by rw [Nat.zero_add]; exact hsp i s (hin i s hs) (hall i (hin i s hs)) hs) (hend w' hb)
end
end Go.Proofs.YtcpdehfmlmmgiaaDoor
