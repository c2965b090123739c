/- A region that draws its order, whose head reads, calls, and makes memory, and of whose operations' values only so much is known (where they lie hangs on the order); and a tail in one forced order. One walk of the text's order serves every order: the values are variables; What the obligations of a region told say of the slots that they read; A part of a row of cells as a value of its own, whatever the cells: loaded, stored; As XTold, where 'x, e := f(..)' lays x in a block of its own: one operation of the head (the second component) may come before or behind the store; A region that draws its order, with a store in its midst: operations of fixed values, some ahead of the store and some behind it, then a tail in one forced order. One invariant of the world ahead of the store, one behind it. -/
import Derived.Test.YtjjgakkijhjaiaaDoorBase
namespace Go.Proofs.YtjjgakkijhjaiaaDoor
section
open Go.RowKit Go.Sort
set_option maxRecDepth 100000
set_option linter.unusedSimpArgs false
set_option linter.unusedVariables false

/-- What is known of a value in a world, kept by whatever changes nothing that was there. -/
structure Told where
  T : World → Value → Prop
  keep : ∀ w w' v, Below w.heap.size w w' → T w v → T w' v
def Told.val (v : Value) : Told := ⟨fun _ u => u = v, fun _ _ _ _ h => h⟩
/-- An operation of the head: what is known of its value, and the slots that it reads. -/
abbrev ToldSpec := Told × List Nat
def toldGet : List Oper → List ToldSpec → Nat → Option Told
  | o :: l, s :: S, k => if o.dst = some k then some s.1 else toldGet l S k
  | _, _, _ => none
/-- What an operation knows of a slot that it reads. -/
def toldFact (l : List Oper) (S : List ToldSpec) (a0 : Act) (k : Nat) (a : Act) (w : World) : Prop :=
  match toldGet l S k with
  | some t => t.T w (a.tmps.getD k undef)
  | none => a.tmps.getD k undef = a0.tmps.getD k undef
def toldQuiet (P : Program) (w : World) (t : Told) : Result Next → Prop
  | .ok (.value u) w' => Below w.heap.size w w' ∧ t.T w' u
  | .ok (.enter f args) w' => w' = w ∧ Calls P f args w (fun e w'' => ∃ v, e = .returned v ∧ t.T w'' v ∧ Below w.heap.size w w'')
  | _ => False
theorem wp_of_toldQuiet {P : Program} {o : Oper} {a : Act} {w : World} {t : Told} {K : Act → World → Prop} {Q : Exit → Act → World → Prop}
    (h : toldQuiet P w t ((execOp a.eval o).run P w)) (hK : ∀ v w', Below w.heap.size w w' → t.T w' v → K (a.put o.dst v) w') : o.wp P a w K Q := by
  unfold Oper.wp
  generalize (execOp a.eval o).run P w = r at *
  cases r with
  | ok n w' =>
    cases n <;> simp only [toldQuiet] at h <;> simp only [Oper.upon]
    case value u => exact hK _ _ h.1 h.2
    case enter f args =>
      obtain ⟨rfl, hc⟩ := h
      exact hc.mono fun e w'' ⟨v, he, hv, hw''⟩ => by subst he; exact hK _ _ hw'' hv
  | halt x w' => simp only [toldQuiet] at h

section
variable {P : Program} {ops : Array Oper}

def toldOblOf (P : Program) (w0 : World) (l0 : List Oper) (S0 : List ToldSpec) (a0 : Act) (o : Oper) (s : ToldSpec) : Prop :=
  ∀ (a : Act) (w : World), Below w0.heap.size w0 w → (∀ k ∈ s.2, toldFact l0 S0 a0 k a w) → toldQuiet P w s.1 ((execOp a.eval o).run P w)
def toldObl (P : Program) (w0 : World) (l0 : List Oper) (S0 : List ToldSpec) (a0 : Act) : List Oper → List ToldSpec → Prop
  | o :: l, s :: S => toldOblOf P w0 l0 S0 a0 o s ∧ toldObl P w0 l0 S0 a0 l S
  | [], [] => True
  | _, _ => False
def toldEnd (P : Program) (ops : Array Oper) (Q : Exit → Act → World → Prop) (rest : List Oper) (w' : World) : List Oper → List ToldSpec → Act → Prop
  | o :: l, s :: S, a => ∀ u : Value, s.1.T w' u → toldEnd P ops Q rest w' l S (a.put o.dst u)
  | _, _, a => wpList P ops Q rest a w'
theorem toldObl_get {w0 : World} {l0 : List Oper} {S0 : List ToldSpec} {a0 : Act} : ∀ {l : List Oper} {S : List ToldSpec}, toldObl P w0 l0 S0 a0 l S → l.length = S.length ∧ ∀ (i : Nat) (o : Oper) (s : ToldSpec), l[i]? = some o → S[i]? = some s → toldOblOf P w0 l0 S0 a0 o s
  | [], [], _ => ⟨rfl, fun i o s h _ => by simp at h⟩
  | o :: l, s :: S, h => by
    obtain ⟨h1, h2⟩ := h
    obtain ⟨hl, hg⟩ := toldObl_get h2
    refine ⟨by simp [hl], fun i o' s' ho hs => ?_⟩
    cases i with
    | zero => simp at ho hs; subst ho hs; exact h1
    | succ i => simp at ho hs; exact hg i o' s' ho hs
  | [], _ :: _, h => h.elim
  | _ :: _, [], h => h.elim
theorem toldGet_some {k : Nat} {t : Told} : ∀ {l : List Oper} {S : List ToldSpec}, toldGet l S k = some t → ∃ (j : Nat) (o : Oper) (s : ToldSpec), l[j]? = some o ∧ S[j]? = some s ∧ o.dst = some k ∧ t = s.1
  | [], _, h => by simp [toldGet] at h
  | _ :: _, [], h => by simp [toldGet] at h
  | o :: l, s :: S, h => by
    rw [toldGet] at h
    by_cases hd : o.dst = some k
    · rw [if_pos hd] at h
      exact ⟨0, o, s, by simp, by simp, hd, (Option.some.inj h).symm⟩
    · rw [if_neg hd] at h
      obtain ⟨j, o', s', h1, h2, h3, h4⟩ := toldGet_some h
      exact ⟨j + 1, o', s', by simpa using h1, by simpa using h2, h3, h4⟩
theorem toldGet_none {k : Nat} : ∀ {l : List Oper} {S : List ToldSpec}, l.length = S.length → toldGet l S k = none → ∀ (j : Nat) (o : Oper), l[j]? = some o → o.dst ≠ some k
  | [], _, _, _, j, o, h => by simp at h
  | _ :: _, [], hl, _, _, _, _ => by simp at hl
  | o :: l, s :: S, hl, h, j, o', ho => by
    rw [toldGet] at h
    by_cases hd : o.dst = some k
    · rw [if_pos hd] at h; cases h
    · rw [if_neg hd] at h
      cases j with
      | zero => simp at ho; subst ho; exact hd
      | succ j => simp at ho; exact toldGet_none (by simpa using hl) h j o' ho
theorem toldEnd_use {Q : Exit → Act → World → Prop} {rest : List Oper} {w' : World} {vs : Nat → Value} :
    ∀ (l' : List Oper) (S' : List ToldSpec) (b : Act) (k : Nat), l'.length = S'.length → (∀ (i : Nat) (s : ToldSpec), S'[i]? = some s → s.1.T w' (vs (k + i))) →
    toldEnd P ops Q rest w' l' S' b → wpList P ops Q rest (headPut b l' vs k) w'
  | [], [], b, k, _, _, h => by rw [headPut]; exact h
  | o :: l', s :: S', b, k, hl, h1, h => by
    have hs := h1 0 s (by simp)
    rw [Nat.add_zero] at hs
    rw [headPut]
    exact toldEnd_use l' S' _ (k + 1) (by simpa using hl) (fun i t ht => by
      have := h1 (i + 1) t (by simpa using ht); rwa [show k + (i + 1) = k + 1 + i by omega] at this) (h _ hs)
  | [], _ :: _, _, _, hl, _, _ => by simp at hl
  | _ :: _, [], _, _, hl, _, _ => by simp at hl

/-- The region. -/
theorem wp_region_told {id : Nat} {Q : Exit → Act → World → Prop} {a : Act} {w : World} {l : List Oper} (n m : Nat) (S : List ToldSpec) (hm : P.follows .mixedOrders = true)
    (hB : freshB l.toArray n m (S.map fun _ => false) (S.map fun s => s.2) = true) (hsz : a.tmps.size = m)
    (hob : toldObl P w (l.take n) S a (l.take n) S) (hend : ∀ w', Below w.heap.size w w' → toldEnd P l.toArray Q (l.drop n) w' (l.take n) S a) : (Code.region id l.toArray true).wp P Q a w := by
  have hB0 := hB
  unfold freshB at hB0
  simp only [Bool.and_eq_true, decide_eq_true_eq] at hB0
  obtain ⟨⟨⟨⟨⟨⟨hn, _⟩, _⟩, hops⟩, hrds⟩, hlen⟩, _⟩ := hB0
  have hn' : n < l.length := by simpa using hn
  have htl : (l.take n).length = n := by simp; omega
  obtain ⟨hSl0, hget⟩ := toldObl_get hob
  have hSl := hSl0
  rw [htl] at hSl
  have hopi : ∀ i, i < n → ∃ o d, l.toArray[i]? = some o ∧ o.guard = none ∧ o.dst = some d ∧ dstOf l.toArray i = some d ∧ d < a.tmps.size ∧ ∀ j, j < n → j ≠ i → dstOf l.toArray j ≠ some d := fun i hi => by
    have hop := List.all_eq_true.1 hops i (List.mem_range.2 hi)
    unfold headOpB at hop
    have hio : l.toArray[i]? = some l.toArray[i] := Array.getElem?_eq_getElem (by simpa using Nat.lt_trans hi hn')
    rw [hio] at hop
    simp only [Bool.and_eq_true] at hop
    obtain ⟨⟨hg, _⟩, hd⟩ := hop
    cases hdd : l.toArray[i].dst with
    | none => rw [hdd] at hd; cases hd
    | some d =>
      rw [hdd] at hd
      simp only [Bool.and_eq_true, decide_eq_true_eq] at hd
      refine ⟨_, d, hio, by simpa using hg, hdd, by rw [dstOf, hio]; exact hdd, by rw [hsz]; exact hd.1, fun j hj hji e => ?_⟩
      have := List.all_eq_true.1 hd.2 j (List.mem_range.2 hj)
      simp only [Bool.or_eq_true, beq_iff_eq, bne_iff_ne] at this
      rcases this with h | h
      · exact hji h
      · exact h e
  have hfr0 : FrameIs l.toArray n a (fun _ => undef) (Array.replicate l.toArray.size false) a := ⟨rfl, rfl, fun j d _ h _ => (by rw [Go.getD_replicate_false] at h; cases h), fun _ _ => rfl⟩
  refine wp_region_inv n m _ _ hm hB (fun listed a' w' => listed.size = l.toArray.size ∧ ∃ vs : Nat → Value, FrameIs l.toArray n a vs listed a' ∧ Below w.heap.size w w' ∧
      (∀ (i : Nat) (s : ToldSpec), i < n → listed.getD i false = true → S[i]? = some s → s.1.T w' (vs i))) ?_ ?_ ?_
  · exact ⟨by simp, fun _ => undef, hfr0, ⟨rfl, rfl, rfl, Nat.le_refl _, fun _ _ => rfl⟩, fun i s _ h => (by rw [Go.getD_replicate_false] at h; cases h)⟩
  · intro i hi listed a' w' hr inv hJ
    obtain ⟨hls, vs, hf, hb, hsp⟩ := hJ
    obtain ⟨o, d, ho, hg, hod, hd, hdm, hne⟩ := hopi i hi
    have hu : listed.getD i false = false := Go.getD_both (mem_ready.1 hr).1
    have hil : i < listed.size := by rw [hls]; omega
    obtain ⟨s, hs⟩ : ∃ s, S[i]? = some s := ⟨S[i]'(by omega), List.getElem?_eq_getElem (by omega)⟩
    have hobl := hget i o s (by simpa [List.getElem?_take, hi] using ho) hs
    have hwaits : ∀ j, j < n → Region.waitsFor .any l.toArray i j = true → listed.getD j false = true := fun j hj hw1 => by
      obtain ⟨oj, hoj, e, he, hbi, heq⟩ := Region.waitsFor_spec hw1
      rw [ho] at hoj; cases hoj
      obtain ⟨_, o2, ho2, hall⟩ := mem_ready.1 hr
      rw [ho] at ho2; cases ho2
      rw [← heq]; exact hall e he hbi
    have hreads : ∀ k ∈ s.2, toldFact (l.take n) S a k a' w' := fun k hk => by
      have hR := List.all_eq_true.1 hrds i (List.mem_range.2 hi)
      unfold headRdB at hR
      have hki : k ∈ (S.map fun s => s.2).getD i [] := by
        simp only [List.getD_eq_getElem?_getD, List.getElem?_map, hs, Option.map_some, Option.getD_some]
        exact hk
      have hR2 := List.all_eq_true.1 hR k hki
      unfold toldFact
      cases hgt : toldGet (l.take n) S k with
      | none =>
        simp only
        exact hf.old k fun j hj _ e => by
          obtain ⟨oj, dj, hoj, _, _, hdj, _, _⟩ := hopi j hj
          refine toldGet_none hSl0 hgt j oj (by simpa [List.getElem?_take, hj] using hoj) ?_
          rw [dstOf, hoj] at e
          exact e
      | some t =>
        simp only
        obtain ⟨j, oj, sj, h1, h2, h3, rfl⟩ := toldGet_some hgt
        have hj : j < n := by have := (List.getElem?_eq_some_iff.1 h1).1; omega
        have hoj : l.toArray[j]? = some oj := by simpa [List.getElem?_take, hj] using h1
        have hdj : dstOf l.toArray j = some k := by rw [dstOf, hoj]; exact h3
        have hR3 := List.all_eq_true.1 hR2 j (List.mem_range.2 hj)
        simp only [hdj, bne_self_eq_false, Bool.false_or, Bool.and_eq_true] at hR3
        have hlj := hwaits j hj hR3.1
        rw [hf.put j k hj hlj hdj]
        exact hsp j sj hj hlj h2
    unfold wpOp
    simp only [ho]
    have hw : Region.wanted o (yielded l.toArray a'.tmps) = true := by simp [Region.wanted, hg]
    rw [if_pos hw]
    refine .inl ?_
    refine wp_of_toldQuiet (hobl a' w' hb hreads) fun v w'' hb2 hv => ?_
    rw [hod]
    refine ⟨by simpa using hls, _, hf.step hi hil hu hd hdm hne v, hb.trans (hb2.mono hb.size), fun j t hj hlj ht => ?_⟩
    by_cases hji : j = i
    · subst hji; rw [hs] at ht; cases ht; simp only [if_pos]; exact hv
    · simp only [if_neg hji]
      rw [getD_set_not _ _ _ (Ne.symm hji)] at hlj
      exact t.1.keep _ _ _ hb2 (hsp j t hj hlj ht)
  · intro listed a' w' hall hJ
    obtain ⟨hls, vs, hf, hb, hsp⟩ := hJ
    have hfr1 : FrameIs l.toArray n a vs (Array.replicate l.toArray.size false) a := ⟨rfl, rfl, fun j d _ h _ => (by rw [Go.getD_replicate_false] at h; cases h), fun _ _ => rfl⟩
    obtain ⟨lV, hlV, hV⟩ := headPut_is (ops := l.toArray) (n := n) (a0 := a) (vs := vs) (fun i hi => by obtain ⟨o, d, _, _, _, h1, h2, h3⟩ := hopi i hi; exact ⟨d, h1, h2, h3⟩)
      (l.take n) 0 (Array.replicate l.toArray.size false) a (by omega) (fun j hj => by rw [htl] at hj; simp [List.getElem?_take, hj]) (by simp; omega) (fun i hi => by rw [Go.getD_replicate_false]; simp) hfr1
    rw [hf.eq hV hall hlV]
    have hin : ∀ (i : Nat) (s : ToldSpec), S[i]? = some s → i < n := fun i s h => by have := (List.getElem?_eq_some_iff.1 h).1; omega
    exact toldEnd_use (l.take n) S a 0 hSl0 (fun i s hs => by rw [Nat.zero_add]; exact hsp i s (hin i s hs) (hall i (hin i s hs)) hs) (hend w' hb)
/-- A region by an invariant of its head: what it asks of the operations, apart. -/
theorem wp_region_inv_g {id : Nat} {Q : Exit → Act → World → Prop} {a : Act} {w : World} {l : List Oper} (n : Nat) (hm : P.follows .mixedOrders = true) (hn' : n < l.length) (hs : Region.sinkB .any l.toArray n = true) (hc : Region.chainB .any l.toArray n = true)
    (hops : ∀ i, i < n → ∀ o, l.toArray[i]? = some o → o.after.all (fun e => !Region.binds .any e || decide (e.on < i)) = true)
    (hseq : Region.seqB .any l.toArray (l.toArray.size - n) n (Array.replicate n true ++ Array.replicate (l.toArray.size - n) false) = true)
    (J : Array Bool → Act → World → Prop) (h0 : J (Array.replicate l.toArray.size false) a { w with drawn := w.drawn + 1 })
    (hstep : ∀ i, i < n → ∀ listed a' w', i ∈ Region.ready .any l.toArray listed → HeadInv .any l.toArray n listed → J listed a' w' → wpOp P l.toArray Q i (J (listed.setIfInBounds i true)) a' w')
    (hend : ∀ listed a' w', (∀ i, i < n → listed.getD i false = true) → J listed a' w' → wpList P l.toArray Q (l.drop n) a' w') : (Code.region id l.toArray true).wp P Q a w := by
  have hn : n < l.toArray.size := by simpa using hn'
  refine wp_region_any hm ?_
  have main : ∀ (f : Nat) (listed : Array Bool) (a' : Act) (w' : World), toCome listed n = f → HeadInv .any l.toArray n listed → J listed a' w' → wpAny P .any l.toArray Q (f + (l.toArray.size - n)) listed a' w' := by
    intro f
    induction f with
    | zero =>
      intro listed a' w' hf inv hJ
      have hall := toCome_zero _ _ hf
      have hl : listed = Array.replicate n true ++ Array.replicate (l.toArray.size - n) false := by
        apply Array.ext
        · simp [inv.size]; omega
        · intro i h1 h2
          by_cases hi : i < n
          · have := hall i hi
            simp [Array.getD_eq_getD_getElem?, h1] at this
            rw [this, Array.getElem_append_left (by simpa using hi)]; simp
          · have := inv.tail i (by omega) (by rw [← inv.size]; exact h1)
            simp [Array.getD_eq_getD_getElem?, h1] at this
            rw [this, Array.getElem_append_right (by simp; omega)]; simp
      have hdl : (l.drop n).length = l.toArray.size - n := by simp
      have := wpAny_of_seq (md := .any) (Q' := Q) (l.drop n) n listed a' w' (fun j => by simp [List.getElem?_drop]) (by rw [hdl, hl]; exact hseq) (hend listed a' w' hall hJ)
      rw [hdl] at this
      rwa [Nat.zero_add]
    | succ f ih =>
      intro listed a' w' hf inv hJ
      obtain ⟨i, hi, hun, hall⟩ := toCome_pos _ _ _ hf
      have hil : i < listed.size := by rw [inv.size]; omega
      have hunt : listed.getD i true = false := Go.getD_in hil hun
      have hready : i ∈ Region.ready .any l.toArray listed := by
        rw [mem_ready]
        have hio : l.toArray[i]? = some l.toArray[i] := Array.getElem?_eq_getElem (by simpa using Nat.lt_trans hi hn')
        refine ⟨hunt, _, hio, fun e he hb => ?_⟩
        have := Array.all_eq_true'.1 (hops i hi _ hio) e he
        simp only [hb, Bool.not_true, Bool.false_or, decide_eq_true_eq] at this
        exact hall _ this
      rw [show f + 1 + (l.toArray.size - n) = (f + (l.toArray.size - n)) + 1 by omega]
      refine ⟨fun h => (by rw [h] at hready; cases hready), fun j hj => ?_⟩
      have hjn : j < n := Nat.lt_of_not_le fun h => absurd hj (tail_waits hs hc hn inv _ i rfl hi hunt j h)
      have hjl : j < listed.size := by rw [inv.size]; omega
      have hju : listed.getD j false = false := Go.getD_both (mem_ready.1 hj).1
      refine wpOp_mono (fun a'' w'' h => ih _ a'' w'' ?_ (inv.set hj hjn) h) (hstep j hjn listed a' w' hj inv hJ)
      have := toCome_set listed n j hjn hjl hju
      omega
  have hf0 : toCome (Array.replicate l.toArray.size false) n = n := by
    unfold toCome
    have : (List.range n).filter (fun i => !(Array.replicate l.toArray.size false).getD i false) = List.range n := by
      rw [List.filter_eq_self]; intro i _; rw [Go.getD_replicate_false]; rfl
    rw [this, List.length_range]
  have inv0 : HeadInv .any l.toArray n (Array.replicate l.toArray.size false) :=
    ⟨by simp, fun j oj _ hl => (by rw [Go.getD_replicate_false] at hl; cases hl), fun t _ ht => Go.getD_in (by simpa using ht) (Go.getD_replicate_false _ _)⟩
  have := main n _ a _ hf0 inv0 h0
  rwa [show n + (l.toArray.size - n) = l.toArray.size by omega] at this

def toldOpB (ops : Array Oper) (n m i : Nat) : Bool :=
  match ops[i]? with
  | some o => (match o.guard with
    | none => true
    | some g => decide (g.1 < n) && Region.waitsFor .any ops i g.1) && o.after.all (fun e => !Region.binds .any e || decide (e.on < i)) && (match o.dst with
    | some d => decide (d < m) && (List.range n).all fun j => j == i || dstOf ops j != some d
    | none => false)
  | none => false
def toldB (ops : Array Oper) (n m : Nat) (rds : List (List Nat)) : Bool :=
  decide (n < ops.size) && Region.sinkB .any ops n && Region.chainB .any ops n && (List.range n).all (toldOpB ops n m) && (List.range n).all (fun i => headRdB ops n i (List.replicate n false) (rds.getD i [])) && decide (rds.length = n) &&
  Region.seqB .any ops (ops.size - n) n (Array.replicate n true ++ Array.replicate (ops.size - n) false)
def toldGuards (S : List ToldSpec) : List Oper → Prop
  | [] => True
  | o :: l => (match o.guard with
    | none => True
    | some g => match S[g.1]? with
      | some s => ∀ w v, s.1.T w v → v = .bool g.2
      | none => True) ∧ toldGuards S l
theorem toldGuards_get {S : List ToldSpec} : ∀ {l : List Oper}, toldGuards S l → ∀ (i : Nat) (o : Oper), l[i]? = some o → ∀ (j : Nat) (b : Bool), o.guard = some (j, b) → ∀ t, S[j]? = some t → ∀ w v, t.1.T w v → v = .bool b
  | [], _, i, o, h => by simp at h
  | o :: l, h, i, o', ho => by
    intro j b hg t ht w v hv
    cases i with
    | zero =>
      simp at ho; subst ho
      have h1 := h.1
      simp only [hg, ht] at h1
      exact h1 w v hv
    | succ i => exact toldGuards_get h.2 i o' (by simpa using ho) j b hg t ht w v hv
/-- The region, with operations that are guarded by others' bools. -/
theorem wp_region_toldg {id : Nat} {Q : Exit → Act → World → Prop} {a : Act} {w : World} {l : List Oper} (n m : Nat) (S : List ToldSpec) (hm : P.follows .mixedOrders = true)
    (hB : toldB l.toArray n m (S.map fun s => s.2) = true) (hsz : a.tmps.size = m) (hgd : toldGuards S (l.take n))
    (hob : toldObl P w (l.take n) S a (l.take n) S) (hend : ∀ w', Below w.heap.size w w' → toldEnd P l.toArray Q (l.drop n) w' (l.take n) S a) : (Code.region id l.toArray true).wp P Q a w := by
  have hB0 := hB
  unfold toldB at hB0
  simp only [Bool.and_eq_true, decide_eq_true_eq] at hB0
  obtain ⟨⟨⟨⟨⟨⟨hn, hsk⟩, hch⟩, hops⟩, hrds⟩, hlen⟩, hsq⟩ := hB0
  have hn' : n < l.length := by simpa using hn
  have htl : (l.take n).length = n := by simp; omega
  obtain ⟨hSl0, hget⟩ := toldObl_get hob
  have hSl := hSl0
  rw [htl] at hSl
  have hopi : ∀ i, i < n → ∃ o d, l.toArray[i]? = some o ∧ (∀ g, o.guard = some g → g.1 < n ∧ Region.waitsFor .any l.toArray i g.1 = true) ∧ o.dst = some d ∧ dstOf l.toArray i = some d ∧ d < a.tmps.size ∧ ∀ j, j < n → j ≠ i → dstOf l.toArray j ≠ some d := fun i hi => by
    have hop := List.all_eq_true.1 hops i (List.mem_range.2 hi)
    unfold toldOpB at hop
    have hio : l.toArray[i]? = some l.toArray[i] := Array.getElem?_eq_getElem (by simpa using Nat.lt_trans hi hn')
    rw [hio] at hop
    simp only [Bool.and_eq_true] at hop
    obtain ⟨⟨hg, _⟩, hd⟩ := hop
    cases hdd : l.toArray[i].dst with
    | none => rw [hdd] at hd; cases hd
    | some d =>
      rw [hdd] at hd
      simp only [Bool.and_eq_true, decide_eq_true_eq] at hd
      refine ⟨_, d, hio, fun g hgg => (by rw [hgg] at hg; simpa using hg), hdd, by rw [dstOf, hio]; exact hdd, by rw [hsz]; exact hd.1, fun j hj hji e => ?_⟩
      have := List.all_eq_true.1 hd.2 j (List.mem_range.2 hj)
      simp only [Bool.or_eq_true, beq_iff_eq, bne_iff_ne] at this
      rcases this with h | h
      · exact hji h
      · exact h e
  have hfr0 : FrameIs l.toArray n a (fun _ => undef) (Array.replicate l.toArray.size false) a := ⟨rfl, rfl, fun j d _ h _ => (by rw [Go.getD_replicate_false] at h; cases h), fun _ _ => rfl⟩
  refine wp_region_inv_g n hm hn' hsk hch (fun i hi o ho => (by
      have hop := List.all_eq_true.1 hops i (List.mem_range.2 hi)
      unfold toldOpB at hop
      rw [ho] at hop
      simp only [Bool.and_eq_true] at hop
      exact hop.1.2)) hsq (fun listed a' w' => listed.size = l.toArray.size ∧ ∃ vs : Nat → Value, FrameIs l.toArray n a vs listed a' ∧ Below w.heap.size w w' ∧
      (∀ (i : Nat) (s : ToldSpec), i < n → listed.getD i false = true → S[i]? = some s → s.1.T w' (vs i))) ?_ ?_ ?_
  · exact ⟨by simp, fun _ => undef, hfr0, ⟨rfl, rfl, rfl, Nat.le_refl _, fun _ _ => rfl⟩, fun i s _ h => (by rw [Go.getD_replicate_false] at h; cases h)⟩
  · intro i hi listed a' w' hr inv hJ
    obtain ⟨hls, vs, hf, hb, hsp⟩ := hJ
    obtain ⟨o, d, ho, hg, hod, hd, hdm, hne⟩ := hopi i hi
    have hu : listed.getD i false = false := Go.getD_both (mem_ready.1 hr).1
    have hil : i < listed.size := by rw [hls]; omega
    obtain ⟨s, hs⟩ : ∃ s, S[i]? = some s := ⟨S[i]'(by omega), List.getElem?_eq_getElem (by omega)⟩
    have hobl := hget i o s (by simpa [List.getElem?_take, hi] using ho) hs
    have hwaits : ∀ j, j < n → Region.waitsFor .any l.toArray i j = true → listed.getD j false = true := fun j hj hw1 => by
      obtain ⟨oj, hoj, e, he, hbi, heq⟩ := Region.waitsFor_spec hw1
      rw [ho] at hoj; cases hoj
      obtain ⟨_, o2, ho2, hall⟩ := mem_ready.1 hr
      rw [ho] at ho2; cases ho2
      rw [← heq]; exact hall e he hbi
    have hreads : ∀ k ∈ s.2, toldFact (l.take n) S a k a' w' := fun k hk => by
      have hR := List.all_eq_true.1 hrds i (List.mem_range.2 hi)
      unfold headRdB at hR
      have hki : k ∈ (S.map fun s => s.2).getD i [] := by
        simp only [List.getD_eq_getElem?_getD, List.getElem?_map, hs, Option.map_some, Option.getD_some]
        exact hk
      have hR2 := List.all_eq_true.1 hR k hki
      unfold toldFact
      cases hgt : toldGet (l.take n) S k with
      | none =>
        simp only
        exact hf.old k fun j hj _ e => by
          obtain ⟨oj, dj, hoj, _, _, hdj, _, _⟩ := hopi j hj
          refine toldGet_none hSl0 hgt j oj (by simpa [List.getElem?_take, hj] using hoj) ?_
          rw [dstOf, hoj] at e
          exact e
      | some t =>
        simp only
        obtain ⟨j, oj, sj, h1, h2, h3, rfl⟩ := toldGet_some hgt
        have hj : j < n := by have := (List.getElem?_eq_some_iff.1 h1).1; omega
        have hoj : l.toArray[j]? = some oj := by simpa [List.getElem?_take, hj] using h1
        have hdj : dstOf l.toArray j = some k := by rw [dstOf, hoj]; exact h3
        have hR3 := List.all_eq_true.1 hR2 j (List.mem_range.2 hj)
        simp only [hdj, bne_self_eq_false, Bool.false_or, Bool.and_eq_true] at hR3
        have hlj := hwaits j hj hR3.1
        rw [hf.put j k hj hlj hdj]
        exact hsp j sj hj hlj h2
    unfold wpOp
    simp only [ho]
    have hw : Region.wanted o (yielded l.toArray a'.tmps) = true := by
      unfold Region.wanted
      cases hgg : o.guard with
      | none => rfl
      | some jb =>
        obtain ⟨j, b⟩ := jb
        obtain ⟨hj, hw1⟩ := hg _ hgg
        have hlj := hwaits j hj hw1
        obtain ⟨t, ht⟩ : ∃ t, S[j]? = some t := ⟨S[j]'(by omega), List.getElem?_eq_getElem (by omega)⟩
        obtain ⟨oj, dj, hoj, _, hodj, hdj, hdjm, _⟩ := hopi j hj
        have hv := toldGuards_get hgd i o (by simpa [List.getElem?_take, hi] using ho) j b hgg t ht w' (vs j) (hsp j t hj hlj ht)
        have hp := hf.put j dj hj hlj hdj
        rw [hv] at hp
        have hsz2 : dj < a'.tmps.size := by rw [hf.size]; exact hdjm
        have : yielded l.toArray a'.tmps j = some b := by
          unfold yielded
          rw [hoj]
          simp only [Option.bind_some, hodj]
          rw [Array.getD_eq_getD_getElem?, Array.getElem?_eq_getElem hsz2, Option.getD_some] at hp
          rw [Array.getElem?_eq_getElem hsz2, hp]
        simp [this]
    rw [if_pos hw]
    refine .inl ?_
    refine wp_of_toldQuiet (hobl a' w' hb hreads) fun v w'' hb2 hv => ?_
    rw [hod]
    refine ⟨by simpa using hls, _, hf.step hi hil hu hd hdm hne v, hb.trans (hb2.mono hb.size), fun j t hj hlj ht => ?_⟩
    by_cases hji : j = i
    · subst hji; rw [hs] at ht; cases ht; simp only [if_pos]; exact hv
    · simp only [if_neg hji]
      rw [getD_set_not _ _ _ (Ne.symm hji)] at hlj
      exact t.1.keep _ _ _ hb2 (hsp j t hj hlj ht)
  · intro listed a' w' hall hJ
    obtain ⟨hls, vs, hf, hb, hsp⟩ := hJ
    have hfr1 : FrameIs l.toArray n a vs (Array.replicate l.toArray.size false) a := ⟨rfl, rfl, fun j d _ h _ => (by rw [Go.getD_replicate_false] at h; cases h), fun _ _ => rfl⟩
    obtain ⟨lV, hlV, hV⟩ := headPut_is (ops := l.toArray) (n := n) (a0 := a) (vs := vs) (fun i hi => by obtain ⟨o, d, _, _, _, h1, h2, h3⟩ := hopi i hi; exact ⟨d, h1, h2, h3⟩)
      (l.take n) 0 (Array.replicate l.toArray.size false) a (by omega) (fun j hj => by rw [htl] at hj; simp [List.getElem?_take, hj]) (by simp; omega) (fun i hi => by rw [Go.getD_replicate_false]; simp) hfr1
    rw [hf.eq hV hall hlV]
    have hin : ∀ (i : Nat) (s : ToldSpec), S[i]? = some s → i < n := fun i s h => by have := (List.getElem?_eq_some_iff.1 h).1; omega
    exact toldEnd_use (l.take n) S a 0 hSl0 (fun i s hs => by rw [Nat.zero_add]; exact hsp i s (hin i s hs) (hall i (hin i s hs)) hs) (hend w' hb)
end
end

section
open Go.RowKit Go.Sort
set_option maxRecDepth 100000

theorem told_q {P : Program} {w : World} {v : Value} {r : Result Next} (h : sQuiet P w v r) : toldQuiet P w (Told.val v) r := by
  cases r with
  | ok n w' =>
    cases n <;> simp only [sQuiet] at h <;> simp only [toldQuiet]
    case value u => obtain ⟨rfl, rfl⟩ := h; exact ⟨Below.refl _ _, rfl⟩
    case enter f args =>
      obtain ⟨rfl, hc⟩ := h
      exact ⟨rfl, hc.mono fun e w'' ⟨he, hb⟩ => ⟨v, he, rfl, hb⟩⟩
  | halt x w' => simp only [sQuiet] at h
section
variable {L : List Oper} {S : List ToldSpec} {a0 a : Act} {w : World} {k x y z t : Nat} {v : Value} {l : List Nat}
theorem tg0 (h : toldFact L S a0 k a w) (e : toldGet L S k = some (Told.val v)) : a.tmps[k]?.getD undef = v := by
  rw [toldFact, e] at h
  have h : a.tmps.getD k undef = v := h
  rwa [Array.getD_eq_getD_getElem?] at h
theorem ug0 (h : toldFact L S a0 k a w) (e : toldGet L S k = none) : a.tmps[k]?.getD undef = a0.tmps[k]?.getD undef := by
  rw [toldFact, e] at h
  have h : a.tmps.getD k undef = a0.tmps.getD k undef := h
  rwa [Array.getD_eq_getD_getElem?, Array.getD_eq_getD_getElem?] at h
theorem td0 (h : ∀ q ∈ k :: l, toldFact L S a0 q a w) (e : toldGet L S k = some (Told.val v)) : a.tmps[k]?.getD undef = v := tg0 (h _ (.head _)) e
theorem ud0 (h : ∀ q ∈ k :: l, toldFact L S a0 q a w) (e : toldGet L S k = none) : a.tmps[k]?.getD undef = a0.tmps[k]?.getD undef := ug0 (h _ (.head _)) e
theorem td1 (h : ∀ q ∈ x :: k :: l, toldFact L S a0 q a w) (e : toldGet L S k = some (Told.val v)) : a.tmps[k]?.getD undef = v := tg0 (h _ (.tail _ (.head _))) e
theorem ud1 (h : ∀ q ∈ x :: k :: l, toldFact L S a0 q a w) (e : toldGet L S k = none) : a.tmps[k]?.getD undef = a0.tmps[k]?.getD undef := ug0 (h _ (.tail _ (.head _))) e
theorem td2 (h : ∀ q ∈ x :: y :: k :: l, toldFact L S a0 q a w) (e : toldGet L S k = some (Told.val v)) : a.tmps[k]?.getD undef = v := tg0 (h _ (.tail _ (.tail _ (.head _)))) e
theorem ud2 (h : ∀ q ∈ x :: y :: k :: l, toldFact L S a0 q a w) (e : toldGet L S k = none) : a.tmps[k]?.getD undef = a0.tmps[k]?.getD undef := ug0 (h _ (.tail _ (.tail _ (.head _)))) e
theorem td3 (h : ∀ q ∈ x :: y :: z :: k :: l, toldFact L S a0 q a w) (e : toldGet L S k = some (Told.val v)) : a.tmps[k]?.getD undef = v := tg0 (h _ (.tail _ (.tail _ (.tail _ (.head _))))) e
theorem ud3 (h : ∀ q ∈ x :: y :: z :: k :: l, toldFact L S a0 q a w) (e : toldGet L S k = none) : a.tmps[k]?.getD undef = a0.tmps[k]?.getD undef := ug0 (h _ (.tail _ (.tail _ (.tail _ (.head _))))) e
end
end

section
open Go.RowKit Go.Sort
set_option maxRecDepth 100000
set_option linter.unusedSimpArgs false
set_option linter.unusedVariables false

theorem partAddr (g off j : Nat) : (⟨g, off, none⟩ : Addr).add j = ⟨g, off + j, none⟩ := by unfold Addr.add; split <;> simp_all
theorem run_loadVar_part {P : Program} (w : World) (g off : Nat) (t ty : TypeId) (row : Array Value) (n : Nat) (fr : Nat × Nat) (d : TypeDesc) (hg : w.heap[g]? = some (.cells row t fr))
    (hu : P.underlying ty = some d) (hd : (match (generalizing := false) d with | .struct _ | .array _ _ => true | _ => false) = true) (hi : (P.info? ty).map (·.size) = some n) (hn : off + n ≤ row.size) :
    (loadVar ty ⟨g, off, none⟩).run P w = .ok (.agg (row.extract off (off + n))) w := by
  have hlen : (row.extract off (off + n)).toList.length = n := by simp; omega
  have hl : (loadCells ⟨g, off, none⟩ (row.extract off (off + n)).toList.length).run P w = .ok (row.extract off (off + n)).toList.toArray w :=
    run_loadCells_list (P := P) w ⟨g, off, none⟩ (row.extract off (off + n)).toList (fun j v hv => by
      have hj : j < n := by have := (List.getElem?_eq_some_iff.1 hv).1; omega
      rw [Array.getElem?_toList] at hv
      rw [partAddr, cell_of_row w g _ _ t fr hg]
      rw [Array.getElem?_extract] at hv
      simpa [show j < min (off + n) row.size - off by omega] using hv)
  rw [hlen, Array.toArray_toList] at hl
  cases hq : P.info? ty with
  | none => simp [hq] at hi
  | some i =>
    have hs : i.size = n := by simpa [hq] using hi
    have hagg : (isAgg ty).run P w = .ok true w := by
      unfold isAgg
      rw [Sem.run_bind, run_underlying hu w]
      cases d <;> simp_all
    simp [loadVar, Sem.run_bind, hagg, sizeOf, typeInfo, hq, hs, hl]
theorem run_storeVar_part (w : World) (g off : Nat) (t ty : TypeId) (row cs : Array Value) (hg : w.heap[g]? = some (.cells row t)) (hi : (Tryd.prog.info? ty).map (·.size) = some cs.size) (hn : off + cs.size ≤ row.size) (h1 : cs.all (·.oneCell') = true) :
    (storeVar ty ⟨g, off, none⟩ (.agg cs)).run Tryd.prog w = .ok () (w.setRow g (setMany row off cs.toList)) := by
  have h := run_storeCells_at g off t cs.toList 0 row w hg (by simpa using hn) (fun v hv => by
    rw [Array.all_eq_true_iff_forall_mem] at h1
    exact h1 v (by simpa using hv))
  rw [Nat.add_zero] at h
  cases hq : Tryd.prog.info? ty with
  | none => simp [hq] at hi
  | some i =>
    have hs : cs.size = i.size := by simp [hq] at hi; omega
    simp [storeVar, sizeOf, typeInfo, hq, Value.cells, hs, h]
theorem setMany_size : ∀ (vs : List Value) (cur : Array Value) (p : Nat), (setMany cur p vs).size = cur.size
  | [], cur, p => rfl
  | v :: r, cur, p => by rw [setMany, setMany_size r, Array.size_setIfInBounds]
theorem setMany_get : ∀ (vs : List Value) (cur : Array Value) (p i : Nat), p + vs.length ≤ cur.size → (setMany cur p vs)[i]? = if p ≤ i ∧ i < p + vs.length then vs[i - p]? else cur[i]?
  | [], cur, p, i, _ => by rw [setMany, if_neg (by simp)]
  | v :: r, cur, p, i, h => by
    rw [List.length_cons] at h ⊢
    rw [setMany, setMany_get r _ _ _ (by rw [Array.size_setIfInBounds]; omega)]
    by_cases h1 : p + 1 ≤ i ∧ i < p + 1 + r.length
    · rw [if_pos h1, if_pos (by omega), show i - p = (i - (p + 1)) + 1 by omega, List.getElem?_cons_succ]
    · rw [if_neg h1, Array.getElem?_setIfInBounds]
      by_cases h2 : p = i
      · subst h2
        rw [if_pos rfl, if_pos (by omega), if_pos (by omega), Nat.sub_self, List.getElem?_cons_zero]
      · rw [if_neg h2, if_neg (by omega)]
/-- The part that was laid, and the parts beside it. -/
theorem setMany_part (row cs : Array Value) (p : Nat) (h : p + cs.size ≤ row.size) : (setMany row p cs.toList).extract p (p + cs.size) = cs := by
  apply Array.ext_getElem?
  intro i
  rw [Array.getElem?_extract, setMany_size]
  by_cases hi : i < cs.size
  · rw [if_pos (by omega), setMany_get _ _ _ _ (by simpa using h), if_pos (by simp; omega), Nat.add_sub_cancel_left, Array.getElem?_toList]
  · rw [if_neg (by omega), Array.getElem?_eq_none (by omega)]
theorem setMany_beside (row cs : Array Value) (p a b : Nat) (h : p + cs.size ≤ row.size) (hb : b ≤ p ∨ p + cs.size ≤ a) : (setMany row p cs.toList).extract a b = row.extract a b := by
  apply Array.ext_getElem?
  intro i
  rw [Array.getElem?_extract, Array.getElem?_extract, setMany_size]
  by_cases hi : i < min b row.size - a
  · rw [if_pos hi, if_pos hi, setMany_get _ _ _ _ (by simpa using h), if_neg (by simp; omega)]
  · rw [if_neg hi, if_neg hi]
theorem wpList_load_part {ops : Array Oper} {rest : List Oper} {o : Oper} {a : Act} {w : World} {Q : Exit → Act → World → Prop} (hgd : o.guard = none) (ty : TypeId) (x : Operand) (ho : o.op = .load ty x)
    (g off : Nat) (hx : a.eval x = .pointer (some ⟨g, off, none⟩)) (t : TypeId) (row : Array Value) (n : Nat) (fr : Nat × Nat) (d : TypeDesc) (hg : w.heap[g]? = some (.cells row t fr))
    (hu : Tryd.prog.underlying ty = some d) (hd : (match (generalizing := false) d with | .struct _ | .array _ _ => true | _ => false) = true) (hi : (Tryd.prog.info? ty).map (·.size) = some n) (hn : off + n ≤ row.size)
    (h : wpList Tryd.prog ops Q rest (a.put o.dst (.agg (row.extract off (off + n)))) w) : wpList Tryd.prog ops Q (o :: rest) a w :=
  wpList_plain hgd fun _ hK => by
    unfold Oper.wp execOp
    simp only [ho, hx, Instr.loadAt, Instr.sureAddr, Sem.run_bind, Sem.run_pure, Result.andThen_ok, run_loadVar_part w g off t ty row n fr d hg hu hd hi hn]
    exact hK _ _ h
theorem wpList_store_part {ops : Array Oper} {rest : List Oper} {o : Oper} {a : Act} {w : World} {Q : Exit → Act → World → Prop} (hgd : o.guard = none) (ty : TypeId) (x y : Operand) (ho : o.op = .store ty x y)
    (g off : Nat) (row cs : Array Value) (hx : a.eval x = .pointer (some ⟨g, off, none⟩)) (hy : a.eval y = .agg cs) (t : TypeId) (hg : w.heap[g]? = some (.cells row t))
    (hi : (Tryd.prog.info? ty).map (·.size) = some cs.size) (hn : off + cs.size ≤ row.size) (h1 : cs.all (·.oneCell') = true)
    (h : wpList Tryd.prog ops Q rest (a.put o.dst undef) (w.setRow g (setMany row off cs.toList))) : wpList Tryd.prog ops Q (o :: rest) a w :=
  wpList_plain hgd fun _ hK => by
    unfold Oper.wp execOp
    simp only [ho, hx, hy, Instr.storeAt, Instr.sureAddr, Sem.run_bind, Sem.run_pure, Result.andThen_ok, run_storeVar_part w g off t ty row cs hg hi hn h1]
    exact hK _ _ h
theorem told_load_part {P : Program} {o : Oper} {a : Act} {w : World} (ty : TypeId) (x : Operand) (ho : o.op = .load ty x)
    (g off : Nat) (hx : a.eval x = .pointer (some ⟨g, off, none⟩)) (t : TypeId) (row : Array Value) (n : Nat) (fr : Nat × Nat) (d : TypeDesc) (hg : w.heap[g]? = some (.cells row t fr))
    (hu : P.underlying ty = some d) (hd : (match (generalizing := false) d with | .struct _ | .array _ _ => true | _ => false) = true) (hi : (P.info? ty).map (·.size) = some n) (hn : off + n ≤ row.size) : toldQuiet P w (Told.val (.agg (row.extract off (off + n)))) ((execOp a.eval o).run P w) := by
  unfold execOp
  simp only [ho, hx, Instr.loadAt, Instr.sureAddr, Sem.run_bind, Sem.run_pure, Result.andThen_ok, run_loadVar_part w g off t ty row n fr d hg hu hd hi hn]
  exact ⟨Below.refl _ _, rfl⟩
end

section
open Go.RowKit Go.Sort
set_option maxRecDepth 100000
set_option linter.unusedSimpArgs false
set_option linter.unusedVariables false

section
variable {P : Program} {ops : Array Oper}

def toldLateB (ops : Array Oper) (n e m : Nat) (rds : List (List Nat)) : Bool :=
  decide (n + 1 < ops.size) && Region.sinkB .any ops (n + 1) && Region.chainB .any ops (n + 1) && (List.range n).all (toldOpB ops n m) && (List.range n).all (fun i => headRdB ops n i (List.replicate n false) (rds.getD i [])) && decide (rds.length = n) && decide (e < n) &&
  (match ops[n]? with
    | some o => o.guard.isNone && o.dst.isNone && o.after.all (fun x => !Region.binds .any x || decide (x.on < n)) && (List.range n).all (fun j => j == e || Region.waitsFor .any ops n j)
    | none => false) &&
  Region.seqB .any ops (ops.size - (n + 1)) (n + 1) (Array.replicate (n + 1) true ++ Array.replicate (ops.size - (n + 1)) false)
def toldEndS (P : Program) (ops : Array Oper) (Q : Exit → Act → World → Prop) (so : Oper) (rs : List Nat) (rest : List Oper) (w w1 : World) : List Oper → List ToldSpec → Act → Prop
  | o :: l, s :: S, a => ∀ u : Value, s.1.T w1 u → toldEndS P ops Q so rs rest w w1 l S (a.put o.dst u)
  | _, _, a => ∃ w2, Below w.heap.size w w2 ∧ (∀ a' : Act, (∀ k ∈ rs, a'.tmps.getD k undef = a.tmps.getD k undef) → (execOp a'.eval so).run P w1 = .ok .skip w2) ∧ wpList P ops Q rest a w2
theorem toldEndS_use {Q : Exit → Act → World → Prop} {so : Oper} {rs : List Nat} {rest : List Oper} {w w1 : World} {vs : Nat → Value} :
    ∀ (l' : List Oper) (S' : List ToldSpec) (b : Act) (k : Nat), l'.length = S'.length → (∀ (i : Nat) (s : ToldSpec), S'[i]? = some s → s.1.T w1 (vs (k + i))) →
    toldEndS P ops Q so rs rest w w1 l' S' b → ∃ w2, Below w.heap.size w w2 ∧ (∀ a' : Act, (∀ j ∈ rs, a'.tmps.getD j undef = (headPut b l' vs k).tmps.getD j undef) → (execOp a'.eval so).run P w1 = .ok .skip w2) ∧ wpList P ops Q rest (headPut b l' vs k) w2
  | [], [], b, k, _, _, h => by rw [headPut]; exact h
  | o :: l', s :: S', b, k, hl, h1, h => by
    have hs := h1 0 s (by simp)
    rw [Nat.add_zero] at hs
    rw [headPut]
    exact toldEndS_use l' S' _ (k + 1) (by simpa using hl) (fun i t ht => by
      have := h1 (i + 1) t (by simpa using ht); rwa [show k + (i + 1) = k + 1 + i by omega] at this) (h _ hs)
  | [], _ :: _, _, _, hl, _, _ => by simp at hl
  | _ :: _, [], _, _, hl, _, _ => by simp at hl

/-- The region: n operations of the head (the e-th may come behind the store), the store, the tail. -/
theorem wp_region_told_late {id : Nat} {Q : Exit → Act → World → Prop} {a : Act} {w : World} {l : List Oper} (n e m : Nat) (rs : List Nat) (S : List ToldSpec) (so : Oper) (hso : l[n]? = some so) (hm : P.follows .mixedOrders = true)
    (hB : toldLateB l.toArray n e m (S.map fun s => s.2) = true) (hsz : a.tmps.size = m) (hgd : toldGuards S (l.take n)) (hrs : ∀ k ∈ rs, ∀ o, l[e]? = some o → o.dst ≠ some k)
    (hob : toldObl P w (l.take n) S a (l.take n) S)
    (hpe : ∀ o s, l[e]? = some o → S[e]? = some s → ∀ (a' : Act) (w' : World), (∀ k ∈ s.2, toldFact (l.take n) S a k a' w') → ∃ u, (execOp a'.eval o).run P w' = .ok (.value u) w' ∧ ∀ w1, s.1.T w1 u)
    (hfix : ∀ s, S[e]? = some s → ∀ k ∈ s.2, ∀ t, toldGet (l.take n) S k = some t → ∀ w1 w2 v, t.T w1 v → t.T w2 v)
    (hend : ∀ w1, Below w.heap.size w w1 → toldEndS P l.toArray Q so rs (l.drop (n + 1)) w w1 (l.take n) S a) : (Code.region id l.toArray true).wp P Q a w := by
  have hB0 := hB
  unfold toldLateB at hB0
  simp only [Bool.and_eq_true, decide_eq_true_eq] at hB0
  obtain ⟨⟨⟨⟨⟨⟨⟨⟨hn, hsk⟩, hch⟩, hops⟩, hrds⟩, hlen⟩, hen⟩, hst⟩, hsq⟩ := hB0
  have hn' : n + 1 < l.length := by simpa using hn
  have hsoA : l.toArray[n]? = some so := by simpa using hso
  rw [hsoA] at hst
  simp only [Bool.and_eq_true, Option.isNone_iff_eq_none] at hst
  obtain ⟨⟨⟨hsg, hsd⟩, hsaft⟩, hswait⟩ := hst
  have htl : (l.take n).length = n := by simp; omega
  obtain ⟨hSl0, hget⟩ := toldObl_get hob
  have hSl := hSl0
  rw [htl] at hSl
  have hopi : ∀ i, i < n → ∃ o d, l.toArray[i]? = some o ∧ (∀ g, o.guard = some g → g.1 < n ∧ Region.waitsFor .any l.toArray i g.1 = true) ∧ o.dst = some d ∧ dstOf l.toArray i = some d ∧ d < a.tmps.size ∧ ∀ j, j < n → j ≠ i → dstOf l.toArray j ≠ some d := fun i hi => by
    have hop := List.all_eq_true.1 hops i (List.mem_range.2 hi)
    unfold toldOpB at hop
    have hio : l.toArray[i]? = some l.toArray[i] := Array.getElem?_eq_getElem (by simp; omega)
    rw [hio] at hop
    simp only [Bool.and_eq_true] at hop
    obtain ⟨⟨hg, _⟩, hd⟩ := hop
    cases hdd : l.toArray[i].dst with
    | none => rw [hdd] at hd; cases hd
    | some d =>
      rw [hdd] at hd
      simp only [Bool.and_eq_true, decide_eq_true_eq] at hd
      refine ⟨_, d, hio, fun g hgg => (by rw [hgg] at hg; simpa using hg), hdd, by rw [dstOf, hio]; exact hdd, by rw [hsz]; exact hd.1, fun j hj hji e => ?_⟩
      have := List.all_eq_true.1 hd.2 j (List.mem_range.2 hj)
      simp only [Bool.or_eq_true, beq_iff_eq, bne_iff_ne] at this
      rcases this with h | h
      · exact hji h
      · exact h e
  obtain ⟨se, hse⟩ : ∃ s, S[e]? = some s := ⟨S[e]'(by omega), List.getElem?_eq_getElem (by omega)⟩
  obtain ⟨oe, de, hoe, _, hode, hdste, hdeM, hneE⟩ := hopi e hen
  have hoeL : l[e]? = some oe := by simpa using hoe
  have hfr0 : FrameIs l.toArray n a (fun _ => undef) (Array.replicate l.toArray.size false) a := ⟨rfl, rfl, fun j d _ h _ => (by rw [Go.getD_replicate_false] at h; cases h), fun _ _ => rfl⟩
  -- what an operation reads
  have hfacts : ∀ i, i < n → ∀ s, S[i]? = some s → ∀ (listed : Array Bool) (a' : Act) (w1 w' : World) (vs : Nat → Value), FrameIs l.toArray n a vs listed a' → (∀ j, j < n → Region.waitsFor .any l.toArray i j = true → listed.getD j false = true) →
      (∀ (j : Nat) (t : ToldSpec), j < n → listed.getD j false = true → S[j]? = some t → t.1.T w1 (vs j)) → (w1 = w' ∨ i = e) → ∀ k ∈ s.2, toldFact (l.take n) S a k a' w' := fun i hi s hs listed a' w1 w' vs hf hwaits hsp hcase k hk => by
    have hR := List.all_eq_true.1 hrds i (List.mem_range.2 hi)
    unfold headRdB at hR
    have hki : k ∈ (S.map fun s => s.2).getD i [] := by
      simp only [List.getD_eq_getElem?_getD, List.getElem?_map, hs, Option.map_some, Option.getD_some]
      exact hk
    have hR2 := List.all_eq_true.1 hR k hki
    unfold toldFact
    cases hgt : toldGet (l.take n) S k with
    | none =>
      simp only
      exact hf.old k fun j hj _ e => by
        obtain ⟨oj, dj, hoj, _, _, hdj, _, _⟩ := hopi j hj
        refine toldGet_none hSl0 hgt j oj (by simpa [List.getElem?_take, hj] using hoj) ?_
        rw [dstOf, hoj] at e
        exact e
    | some t =>
      simp only
      obtain ⟨j, oj, sj, h1, h2, h3, ht⟩ := toldGet_some hgt
      have hj : j < n := by have := (List.getElem?_eq_some_iff.1 h1).1; omega
      have hoj : l.toArray[j]? = some oj := by simpa [List.getElem?_take, hj] using h1
      have hdj : dstOf l.toArray j = some k := by rw [dstOf, hoj]; exact h3
      have hR3 := List.all_eq_true.1 hR2 j (List.mem_range.2 hj)
      simp only [hdj, bne_self_eq_false, Bool.false_or, Bool.and_eq_true] at hR3
      have hlj := hwaits j hj hR3.1
      rw [hf.put j k hj hlj hdj]
      have hT := hsp j sj hj hlj h2
      rw [← ht] at hT
      rcases hcase with rfl | rfl
      · exact hT
      · exact hfix s hs k hk t hgt _ _ _ hT
  have hwaitsOf : ∀ i, i < n + 1 → ∀ listed : Array Bool, i ∈ Region.ready .any l.toArray listed → ∀ j, Region.waitsFor .any l.toArray i j = true → listed.getD j false = true := fun i hi listed hr j hw1 => by
    obtain ⟨oj, hoj, e, he, hbi, heq⟩ := Region.waitsFor_spec hw1
    obtain ⟨_, o2, ho2, hall⟩ := mem_ready.1 hr
    rw [hoj] at ho2; cases ho2
    rw [← heq]; exact hall e he hbi
  refine wp_region_inv_g (n + 1) hm hn' hsk hch (fun i hi o ho => (by
      by_cases hin : i = n
      · subst hin; rw [hsoA] at ho; cases ho; exact hsaft
      · have hop := List.all_eq_true.1 hops i (List.mem_range.2 (by omega))
        unfold toldOpB at hop
        rw [ho] at hop
        simp only [Bool.and_eq_true] at hop
        exact hop.1.2)) hsq (fun listed a' w' => listed.size = l.toArray.size ∧ ∃ (vs : Nat → Value) (w1 : World), FrameIs l.toArray n a vs listed a' ∧ Below w.heap.size w w1 ∧
      (∀ (i : Nat) (s : ToldSpec), i < n → listed.getD i false = true → S[i]? = some s → s.1.T w1 (vs i)) ∧
      (listed.getD n false = false → w' = w1) ∧ (listed.getD n false = true → (∀ i, i < n → i ≠ e → listed.getD i false = true) ∧ ∀ ve, (listed.getD e false = true → ve = vs e) → (listed.getD e false = false → ∀ w, se.1.T w ve) → wpList P l.toArray Q (l.drop (n + 1)) (headPut a (l.take n) (fun j => if j = e then ve else vs j) 0) w')) ?_ ?_ ?_
  · exact ⟨by simp, fun _ => undef, { w with drawn := w.drawn + 1 }, hfr0, ⟨rfl, rfl, rfl, Nat.le_refl _, fun _ _ => rfl⟩, fun i s _ h => (by rw [Go.getD_replicate_false] at h; cases h), fun _ => rfl, fun h => (by rw [Go.getD_replicate_false] at h; cases h)⟩
  · intro i hi listed a' w' hr inv hJ
    obtain ⟨hls, vs, w1, hf, hb, hsp, hA, hPB⟩ := hJ
    have hil : i < listed.size := by rw [hls]; omega
    have hu : listed.getD i false = false := Go.getD_both (mem_ready.1 hr).1
    by_cases hin : i = n
    · -- the store
      subst hin
      have hw1 := hA hu
      subst hw1
      have hall : ∀ j, j < i → j ≠ e → listed.getD j false = true := fun j hj hje => by
        have := List.all_eq_true.1 hswait j (List.mem_range.2 hj)
        simp only [Bool.or_eq_true, beq_iff_eq] at this
        rcases this with h | h
        · exact absurd h hje
        · exact hwaitsOf i (by omega) listed hr j h
      -- some value for the late one
      have hev : ∃ v0, (listed.getD e false = true → v0 = vs e) ∧ (listed.getD e false = false → ∀ w, se.1.T w v0) := by
        cases hle : listed.getD e false with
        | true => exact ⟨vs e, fun _ => rfl, fun h => by cases h⟩
        | false =>
          have hwe : ∀ j, j < i → Region.waitsFor .any l.toArray e j = true → listed.getD j false = true := fun j hj hwj => by
            by_cases hje : j = e
            · subst hje
              obtain ⟨oj, hoj, x, hx, hbi, heq⟩ := Region.waitsFor_spec hwj
              have hop := List.all_eq_true.1 hops j (List.mem_range.2 hj)
              unfold toldOpB at hop
              rw [hoj] at hop
              simp only [Bool.and_eq_true] at hop
              have := Array.all_eq_true'.1 hop.1.2 x hx
              simp only [hbi, Bool.not_true, Bool.false_or, decide_eq_true_eq] at this
              omega
            · exact hall j hj hje
          obtain ⟨u, _, hT⟩ := hpe oe se hoeL hse a' w' (hfacts e hen se hse listed a' w' w' vs hf hwe hsp (.inl rfl))
          exact ⟨u, (fun h => by cases h), fun _ => hT⟩
      have huse : ∀ ve, (listed.getD e false = true → ve = vs e) → (listed.getD e false = false → ∀ w, se.1.T w ve) →
          ∃ w2, Below w.heap.size w w2 ∧ (execOp a'.eval so).run P w' = .ok .skip w2 ∧ wpList P l.toArray Q (l.drop (i + 1)) (headPut a (l.take i) (fun j => if j = e then ve else vs j) 0) w2 := fun ve h1 h2 => by
        have hT : ∀ (j : Nat) (s : ToldSpec), S[j]? = some s → s.1.T w' ((fun j => if j = e then ve else vs j) (0 + j)) := fun j s hs => by
          have hj : j < i := by have := (List.getElem?_eq_some_iff.1 hs).1; omega
          rw [Nat.zero_add]
          by_cases hje : j = e
          · subst hje
            simp only [if_pos]
            rw [hse] at hs; cases hs
            cases hle : listed.getD j false with
            | true => rw [h1 hle]; exact hsp j _ hj hle hse
            | false => exact h2 hle w'
          · simp only [if_neg hje]
            exact hsp j s hj (hall j hj hje) hs
        obtain ⟨w2, hb2, hrun, hwp⟩ := toldEndS_use (vs := fun j => if j = e then ve else vs j) (l.take i) S a 0 hSl0 hT (hend w' hb)
        refine ⟨w2, hb2, hrun a' fun k hk => ?_, hwp⟩
        -- the slots that the store reads
        have hfr1 : FrameIs l.toArray i a (fun j => if j = e then ve else vs j) (Array.replicate l.toArray.size false) a := ⟨rfl, rfl, fun j d _ h _ => (by rw [Go.getD_replicate_false] at h; cases h), fun _ _ => rfl⟩
        obtain ⟨lV, hlV, hV⟩ := headPut_is (ops := l.toArray) (n := i) (a0 := a) (vs := fun j => if j = e then ve else vs j) (fun j hj => by obtain ⟨o, d, _, _, _, h1, h2, h3⟩ := hopi j hj; exact ⟨d, h1, h2, h3⟩)
          (l.take i) 0 (Array.replicate l.toArray.size false) a (by omega) (fun j hj => by rw [htl] at hj; simp [List.getElem?_take, hj]) (by simp; omega) (fun j hj => by rw [Go.getD_replicate_false]; simp) hfr1
        by_cases hx : ∃ j, j < i ∧ dstOf l.toArray j = some k
        · obtain ⟨j, hj, hdj⟩ := hx
          have hje : j ≠ e := fun h => by
            subst h
            rw [dstOf, hoe] at hdj
            exact hrs k hk oe hoeL hdj
          rw [hf.put j k hj (hall j hj hje) hdj, hV.put j k hj (hlV j hj) hdj]
          simp only [if_neg hje]
        · rw [hf.old k fun j hj _ h => hx ⟨j, hj, h⟩, hV.old k fun j hj _ h => hx ⟨j, hj, h⟩]
      obtain ⟨v0, hv1, hv2⟩ := hev
      obtain ⟨w2, hb2, hrun, _⟩ := huse v0 hv1 hv2
      unfold wpOp
      simp only [hsoA]
      have hw : Region.wanted so (yielded l.toArray a'.tmps) = true := by simp [Region.wanted, hsg]
      rw [if_pos hw]
      refine .inl ?_
      unfold Oper.wp
      rw [hrun]
      simp only [Oper.upon]
      rw [hsd]
      have hli : ∀ j, j < i → (listed.setIfInBounds i true).getD j false = listed.getD j false := fun j hj => getD_set_not _ _ _ (by omega) _
      refine ⟨by simpa using hls, vs, w', ⟨hf.defers, hf.size, fun j d hj hlj hdj => hf.put j d hj (by rw [← hli j hj]; exact hlj) hdj, fun d hno => hf.old d fun j hj hlj => hno j hj (by rw [hli j hj]; exact hlj)⟩, hb,
        fun j s hj hlj hs => hsp j s hj (by rw [← hli j hj]; exact hlj) hs, fun h => ?_, fun _ => ⟨fun j hj hje => by rw [hli j hj]; exact hall j hj hje, fun ve h1 h2 => ?_⟩⟩
      · rw [getD_set_self _ _ hil] at h; cases h
      · rw [hli e hen] at h1 h2
        obtain ⟨w3, _, hrun3, hwp3⟩ := huse ve h1 h2
        rw [hrun] at hrun3
        cases hrun3
        exact hwp3
    · have hi' : i < n := by omega
      obtain ⟨o, d, ho, hg, hod, hd, hdm, hne⟩ := hopi i hi'
      obtain ⟨s, hs⟩ : ∃ s, S[i]? = some s := ⟨S[i]'(by omega), List.getElem?_eq_getElem (by omega)⟩
      have hobl := hget i o s (by simpa [List.getElem?_take, hi'] using ho) hs
      have hwaits : ∀ j, j < n → Region.waitsFor .any l.toArray i j = true → listed.getD j false = true := fun j hj h => hwaitsOf i (by omega) listed hr j h
      have hw : Region.wanted o (yielded l.toArray a'.tmps) = true := by
        unfold Region.wanted
        cases hgg : o.guard with
        | none => rfl
        | some jb =>
          obtain ⟨j, b⟩ := jb
          obtain ⟨hj, hw1⟩ := hg _ hgg
          have hlj := hwaits j hj hw1
          obtain ⟨t, ht⟩ : ∃ t, S[j]? = some t := ⟨S[j]'(by omega), List.getElem?_eq_getElem (by omega)⟩
          obtain ⟨oj, dj, hoj, _, hodj, hdj, hdjm, _⟩ := hopi j hj
          have hv := toldGuards_get hgd i o (by simpa [List.getElem?_take, hi'] using ho) j b hgg t ht w1 (vs j) (hsp j t hj hlj ht)
          have hp := hf.put j dj hj hlj hdj
          rw [hv] at hp
          have hsz2 : dj < a'.tmps.size := by rw [hf.size]; exact hdjm
          have : yielded l.toArray a'.tmps j = some b := by
            unfold yielded
            rw [hoj]
            simp only [Option.bind_some, hodj]
            rw [Array.getD_eq_getD_getElem?, Array.getElem?_eq_getElem hsz2, Option.getD_some] at hp
            rw [Array.getElem?_eq_getElem hsz2, hp]
          simp [this]
      unfold wpOp
      simp only [ho]
      rw [if_pos hw]
      refine .inl ?_
      have hlin : (listed.setIfInBounds i true).getD n false = listed.getD n false := getD_set_not _ _ _ (by omega) _
      cases hln : listed.getD n false with
      | false =>
        have hw1 := hA hln
        subst hw1
        refine wp_of_toldQuiet (hobl a' w' hb (hfacts i hi' s hs listed a' w' w' vs hf hwaits hsp (.inl rfl))) fun v w'' hb2 hv => ?_
        rw [hod]
        refine ⟨by simpa using hls, _, w'', hf.step hi' hil hu hd hdm hne v, hb.trans (hb2.mono hb.size), fun j t hj hlj ht => ?_, fun _ => rfl, fun h => (by rw [hlin, hln] at h; cases h)⟩
        by_cases hji : j = i
        · subst hji; rw [hs] at ht; cases ht; simp only [if_pos]; exact hv
        · simp only [if_neg hji]
          rw [getD_set_not _ _ _ (Ne.symm hji)] at hlj
          exact t.1.keep _ _ _ hb2 (hsp j t hj hlj ht)
      | true =>
        -- the late one, behind the store
        obtain ⟨hall, hK⟩ := hPB hln
        have hie : i = e := by
          by_cases h : i = e
          · exact h
          · rw [hall i hi' h] at hu; cases hu
        subst hie
        rw [hs] at hse; cases hse
        rw [hoe] at ho; cases ho
        obtain ⟨u, hrun, hT⟩ := hpe oe se hoeL hs a' w' (hfacts i hi' se hs listed a' w1 w' vs hf hwaits hsp (.inr rfl))
        unfold Oper.wp
        rw [hrun]
        simp only [Oper.upon]
        rw [hod]
        refine ⟨by simpa using hls, _, w1, hf.step hi' hil hu hd hdm hne u, hb, fun j t hj hlj ht => ?_, fun h => (by rw [hlin, hln] at h; cases h), fun _ => ⟨fun j hj hje => ?_, fun ve h1 _ => ?_⟩⟩
        · by_cases hji : j = i
          · subst hji; rw [hs] at ht; cases ht; simp only [if_pos]; exact hT w1
          · simp only [if_neg hji]
            rw [getD_set_not _ _ _ (Ne.symm hji)] at hlj
            exact hsp j t hj hlj ht
        · rw [getD_set_not _ _ _ (Ne.symm hje)]; exact hall j hj hje
        · have hve := h1 (getD_set_self _ _ hil)
          simp only [if_pos] at hve
          subst hve
          have := hK ve (fun h => by rw [hu] at h; cases h) (fun _ => hT)
          have hfun : (fun j => if j = i then ve else if j = i then ve else vs j) = (fun j => if j = i then ve else vs j) := by
            funext j
            by_cases hji : j = i <;> simp [hji]
          rw [hfun]
          exact this
  · intro listed a' w' hall hJ
    obtain ⟨hls, vs, w1, hf, hb, hsp, _, hPB⟩ := hJ
    obtain ⟨_, hK⟩ := hPB (hall n (by omega))
    have hle := hall e (by omega)
    have := hK (vs e) (fun _ => rfl) (fun h => by rw [hle] at h; cases h)
    have hfun : (fun j => if j = e then vs e else vs j) = vs := by
      funext j
      by_cases hje : j = e <;> simp [hje]
    rw [hfun] at this
    have hfr1 : FrameIs l.toArray n a vs (Array.replicate l.toArray.size false) a := ⟨rfl, rfl, fun j d _ h _ => (by rw [Go.getD_replicate_false] at h; cases h), fun _ _ => rfl⟩
    obtain ⟨lV, hlV, hV⟩ := headPut_is (ops := l.toArray) (n := n) (a0 := a) (vs := vs) (fun i hi => by obtain ⟨o, d, _, _, _, h1, h2, h3⟩ := hopi i hi; exact ⟨d, h1, h2, h3⟩)
      (l.take n) 0 (Array.replicate l.toArray.size false) a (by omega) (fun j hj => by rw [htl] at hj; simp [List.getElem?_take, hj]) (by simp; omega) (fun i hi => by rw [Go.getD_replicate_false]; simp) hfr1
    rw [hf.eq hV (fun i hi => hall i (by omega)) hlV]
    exact this
end
end

section
open Go.RowKit Go.Sort
set_option maxRecDepth 100000
set_option linter.unusedSimpArgs false
set_option linter.unusedVariables false

section
variable {P : Program} {ops : Array Oper}

def storedB (ops : Array Oper) (n m : Nat) (rds : List (List Nat)) (srd : List Nat) : Bool :=
  decide (n + 1 < ops.size) && Region.sinkB .any ops (n + 1) && Region.chainB .any ops (n + 1) && (List.range n).all (headOpB ops n m) && (List.range n).all (fun i => headRdB ops n i (List.replicate n false) (rds.getD i [])) && headRdB ops n n (List.replicate n false) srd && decide (rds.length = n) &&
  (match ops[n]? with
    | some o => o.guard.isNone && o.dst.isNone && o.after.all (fun x => !Region.binds .any x || decide (x.on < n))
    | none => false) &&
  Region.seqB .any ops (ops.size - (n + 1)) (n + 1) (Array.replicate (n + 1) true ++ Array.replicate (ops.size - (n + 1)) false)
def storedObl (P : Program) (K : World → Prop) : List Oper → List HeadSpec → Prop
  | o :: l, s :: S => (∀ (a : Act) (w : World), K w → (∀ p ∈ s.rd, a.tmps.getD p.1 undef = p.2) → sQuiet P w s.v ((execOp a.eval o).run P w)) ∧ storedObl P K l S
  | [], [] => True
  | _, _ => False
theorem storedObl_get {K : World → Prop} : ∀ {l : List Oper} {S : List HeadSpec}, storedObl P K l S → l.length = S.length ∧ ∀ (i : Nat) (o : Oper) (s : HeadSpec), l[i]? = some o → S[i]? = some s →
    ∀ (a : Act) (w : World), K w → (∀ p ∈ s.rd, a.tmps.getD p.1 undef = p.2) → sQuiet P w s.v ((execOp a.eval o).run P w)
  | [], [], _ => ⟨rfl, fun i o s h _ => by simp at h⟩
  | o :: l, s :: S, h => by
    obtain ⟨h1, h2⟩ := h
    obtain ⟨hl, hg⟩ := storedObl_get h2
    refine ⟨by simp [hl], fun i o' s' ho hs => ?_⟩
    cases i with
    | zero => simp at ho hs; subst ho hs; exact h1
    | succ i => simp at ho hs; exact hg i o' s' ho hs
  | [], _ :: _, h => h.elim
  | _ :: _, [], h => h.elim
/-- The region. -/
theorem wp_region_stored {id : Nat} {Q : Exit → Act → World → Prop} {a : Act} {w : World} {l : List Oper} (n m : Nat) (S : List HeadSpec) (srd : List (Nat × Value)) (K0 K1 : World → Prop) (so : Oper) (hso : l[n]? = some so) (hm : P.follows .mixedOrders = true)
    (hB : storedB l.toArray n m (S.map fun s => s.rd.map (·.1)) (srd.map (·.1)) = true) (hsz : a.tmps.size = m)
    (h0 : K0 { w with drawn := w.drawn + 1 }) (k0 : ∀ w1 w2, K0 w1 → Below w1.heap.size w1 w2 → K0 w2) (k1 : ∀ w1 w2, K1 w1 → Below w1.heap.size w1 w2 → K1 w2)
    (hob : storedObl P (fun w' => K0 w' ∨ K1 w') (l.take n) S)
    (hst : ∀ (a' : Act) (w' : World), K0 w' → (∀ p ∈ srd, a'.tmps.getD p.1 undef = p.2) → ∃ w2, (execOp a'.eval so).run P w' = .ok .skip w2 ∧ K1 w2)
    (hrd : headReads (headPut a (l.take n) (specV S) 0) S) (hsr : ∀ p ∈ srd, (headPut a (l.take n) (specV S) 0).tmps.getD p.1 undef = p.2)
    (hend : ∀ w', K1 w' → wpList P l.toArray Q (l.drop (n + 1)) (headPut a (l.take n) (specV S) 0) w') : (Code.region id l.toArray true).wp P Q a w := by
  have hB0 := hB
  unfold storedB at hB0
  simp only [Bool.and_eq_true, decide_eq_true_eq] at hB0
  obtain ⟨⟨⟨⟨⟨⟨⟨⟨hn, hsk⟩, hch⟩, hops⟩, hrds⟩, hsrd⟩, hlen⟩, hst0⟩, hsq⟩ := hB0
  have hn' : n + 1 < l.length := by simpa using hn
  have hsoA : l.toArray[n]? = some so := by simpa using hso
  rw [hsoA] at hst0
  simp only [Bool.and_eq_true, Option.isNone_iff_eq_none] at hst0
  obtain ⟨⟨hsg, hsd⟩, hsaft⟩ := hst0
  have htl : (l.take n).length = n := by simp; omega
  obtain ⟨hSl, hget⟩ := storedObl_get hob
  rw [htl] at hSl
  have hopi : ∀ i, i < n → ∃ o d, l.toArray[i]? = some o ∧ o.guard = none ∧ o.dst = some d ∧ dstOf l.toArray i = some d ∧ d < a.tmps.size ∧ ∀ j, j < n → j ≠ i → dstOf l.toArray j ≠ some d := fun i hi => by
    have hop := List.all_eq_true.1 hops i (List.mem_range.2 hi)
    unfold headOpB at hop
    have hio : l.toArray[i]? = some l.toArray[i] := Array.getElem?_eq_getElem (by simp; omega)
    rw [hio] at hop
    simp only [Bool.and_eq_true] at hop
    obtain ⟨⟨hg, _⟩, hd⟩ := hop
    cases hdd : l.toArray[i].dst with
    | none => rw [hdd] at hd; cases hd
    | some d =>
      rw [hdd] at hd
      simp only [Bool.and_eq_true, decide_eq_true_eq] at hd
      refine ⟨_, d, hio, by simpa using hg, hdd, by rw [dstOf, hio]; exact hdd, by rw [hsz]; exact hd.1, fun j hj hji e => ?_⟩
      have := List.all_eq_true.1 hd.2 j (List.mem_range.2 hj)
      simp only [Bool.or_eq_true, beq_iff_eq, bne_iff_ne] at this
      rcases this with h | h
      · exact hji h
      · exact h e
  have hfr0 : FrameIs l.toArray n a (specV S) (Array.replicate l.toArray.size false) a := ⟨rfl, rfl, fun j d _ h _ => (by rw [Go.getD_replicate_false] at h; cases h), fun _ _ => rfl⟩
  obtain ⟨lF, hlF, hF⟩ := headPut_is (ops := l.toArray) (n := n) (a0 := a) (vs := specV S) (fun i hi => by obtain ⟨o, d, _, _, _, h1, h2, h3⟩ := hopi i hi; exact ⟨d, h1, h2, h3⟩)
    (l.take n) 0 (Array.replicate l.toArray.size false) a (by omega) (fun j hj => by rw [htl] at hj; simp [List.getElem?_take, hj]) (by simp; omega) (fun i hi => by rw [Go.getD_replicate_false]; simp) hfr0
  -- what an operation reads
  have hread : ∀ (i : Nat) (rd : List (Nat × Value)) (listed : Array Bool) (a' : Act), headRdB l.toArray n i (List.replicate n false) (rd.map (·.1)) = true → i ∈ Region.ready .any l.toArray listed → FrameIs l.toArray n a (specV S) listed a' →
      ∀ p ∈ rd, a'.tmps.getD p.1 undef = (headPut a (l.take n) (specV S) 0).tmps.getD p.1 undef := fun i rd listed a' hR hr hf p hp => by
    unfold headRdB at hR
    have hR2 := List.all_eq_true.1 hR p.1 (List.mem_map.2 ⟨p, hp, rfl⟩)
    by_cases hx : ∃ j, j < n ∧ dstOf l.toArray j = some p.1
    · obtain ⟨j, hj, hdj⟩ := hx
      have hR3 := List.all_eq_true.1 hR2 j (List.mem_range.2 hj)
      simp only [hdj, bne_self_eq_false, Bool.false_or, Bool.and_eq_true] at hR3
      obtain ⟨oj, hoj, e, he, hbi, heq⟩ := Region.waitsFor_spec hR3.1
      have hlj : listed.getD j false = true := by
        obtain ⟨_, o2, ho2, hall⟩ := mem_ready.1 hr
        rw [hoj] at ho2; cases ho2
        rw [← heq]; exact hall e he hbi
      rw [hf.put j p.1 hj hlj hdj, hF.put j p.1 hj (hlF j hj) hdj]
    · rw [hf.old p.1 fun j hj _ e => hx ⟨j, hj, e⟩, hF.old p.1 fun j hj _ e => hx ⟨j, hj, e⟩]
  refine wp_region_inv_g (n + 1) hm hn' hsk hch (fun i hi o ho => (by
      by_cases hin : i = n
      · subst hin; rw [hsoA] at ho; cases ho; exact hsaft
      · have hop := List.all_eq_true.1 hops i (List.mem_range.2 (by omega))
        unfold headOpB at hop
        rw [ho] at hop
        simp only [Bool.and_eq_true] at hop
        exact hop.1.2)) hsq (fun listed a' w' => listed.size = l.toArray.size ∧ FrameIs l.toArray n a (specV S) listed a' ∧ (listed.getD n false = false → K0 w') ∧ (listed.getD n false = true → K1 w')) ?_ ?_ ?_
  · exact ⟨by simp, hfr0, fun _ => h0, fun h => (by rw [Go.getD_replicate_false] at h; cases h)⟩
  · intro i hi listed a' w' hr inv hJ
    obtain ⟨hls, hf, hA, hK⟩ := hJ
    have hil : i < listed.size := by rw [hls]; omega
    have hu : listed.getD i false = false := Go.getD_both (mem_ready.1 hr).1
    by_cases hin : i = n
    · subst hin
      obtain ⟨w2, hrun, hk1⟩ := hst a' w' (hA hu) (fun p hp => (hread i srd listed a' hsrd hr hf p hp).trans (hsr p hp))
      unfold wpOp
      simp only [hsoA]
      have hw : Region.wanted so (yielded l.toArray a'.tmps) = true := by simp [Region.wanted, hsg]
      rw [if_pos hw]
      refine .inl ?_
      unfold Oper.wp
      rw [hrun]
      simp only [Oper.upon]
      rw [hsd]
      have hli : ∀ j, j < i → (listed.setIfInBounds i true).getD j false = listed.getD j false := fun j hj => getD_set_not _ _ _ (by omega) _
      exact ⟨by simpa using hls, ⟨hf.defers, hf.size, fun j d hj hlj hdj => hf.put j d hj (by rw [← hli j hj]; exact hlj) hdj, fun d hno => hf.old d fun j hj hlj => hno j hj (by rw [hli j hj]; exact hlj)⟩,
        fun h => (by rw [getD_set_self _ _ hil] at h; cases h), fun _ => hk1⟩
    · have hi' : i < n := by omega
      obtain ⟨o, d, ho, hg, hod, hd, hdm, hne⟩ := hopi i hi'
      obtain ⟨s, hs⟩ : ∃ s, S[i]? = some s := ⟨S[i]'(by omega), List.getElem?_eq_getElem (by omega)⟩
      have hK01 : K0 w' ∨ K1 w' := by
        cases hln : listed.getD n false with
        | false => exact .inl (hA hln)
        | true => exact .inr (hK hln)
      have hR := List.all_eq_true.1 hrds i (List.mem_range.2 hi')
      rw [show (S.map fun s => s.rd.map (·.1)).getD i [] = s.rd.map (·.1) by simp [List.getD_eq_getElem?_getD, hs]] at hR
      have hobl := hget i o s (by simpa [List.getElem?_take, hi'] using ho) hs a' w' hK01 (fun p hp => (hread i s.rd listed a' hR hr hf p hp).trans (headReads_get hrd i s hs p hp))
      unfold wpOp
      simp only [ho]
      have hw : Region.wanted o (yielded l.toArray a'.tmps) = true := by simp [Region.wanted, hg]
      rw [if_pos hw]
      refine .inl (wp_of_sQuiet hobl fun w'' hb2 => ?_)
      rw [hod]
      have hv : (fun j => if j = i then s.v else specV S j) = specV S := by
        funext j
        by_cases hji : j = i
        · subst hji; simp [specV, hs]
        · simp [hji]
      have hstep := hf.step hi' hil hu hd hdm hne s.v
      rw [hv] at hstep
      have hlin : (listed.setIfInBounds i true).getD n false = listed.getD n false := getD_set_not _ _ _ (by omega) _
      exact ⟨by simpa using hls, hstep, fun h => k0 _ _ (hA (by rw [← hlin]; exact h)) hb2, fun h => k1 _ _ (hK (by rw [← hlin]; exact h)) hb2⟩
  · intro listed a' w' hall hJ
    obtain ⟨hls, hf, hA, hK⟩ := hJ
    rw [hf.eq hF (fun i hi => hall i (by omega)) hlF]
    exact hend w' (hK (hall n (by omega)))
end
end
end Go.Proofs.YtjjgakkijhjaiaaDoor
