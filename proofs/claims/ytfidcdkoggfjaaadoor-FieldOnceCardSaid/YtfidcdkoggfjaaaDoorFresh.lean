/- A region that draws its order, whose head reads, calls what changes nothing that was there, and makes new blocks at places that the order picks; and a tail (stores) in one forced order. One walk serves every order: the new blocks' numbers are variables. -/
import Derived.Test.YtfidcdkoggfjaaaDoorTail
namespace Go.Proofs.YtfidcdkoggfjaaaDoor
open Go.RowKit Go.Sort
set_option maxRecDepth 100000
set_option linter.unusedSimpArgs false
set_option linter.unusedVariables false

/-- What is said of an operation of the head: the block that it makes; or the value that it yields, and the slots that it reads with what they hold. -/
structure HeadSpec where
  al : Option Obj
  v : Value
  rd : List (Nat × Value)
def HeadSpec.val (v : Value) (rd : List (Nat × Value)) : HeadSpec := ⟨none, v, rd⟩
def HeadSpec.fresh (ob : Obj) : HeadSpec := ⟨some ob, undef, []⟩

def sQuiet (P : Program) (w : World) (v : Value) : Result Next → Prop
  | .ok (.value u) w' => w' = w ∧ u = v
  | .ok (.enter f args) w' => w' = w ∧ Calls P f args w (fun e w'' => e = .returned v ∧ Below w.heap.size w w'')
  | _ => False
theorem wp_of_sQuiet {P : Program} {o : Oper} {a : Act} {w : World} {v : Value} {K : Act → World → Prop} {Q : Exit → Act → World → Prop}
    (h : sQuiet P w v ((execOp a.eval o).run P w)) (hK : ∀ w', Below w.heap.size w w' → K (a.put o.dst v) w') : o.wp P a w K Q := by
  unfold Oper.wp
  generalize (execOp a.eval o).run P w = r at *
  cases r with
  | ok n w' =>
    cases n <;> simp only [sQuiet] at h <;> simp only [Oper.upon]
    case value u => obtain ⟨rfl, rfl⟩ := h; exact hK _ (Below.refl _ _)
    case enter f args =>
      obtain ⟨rfl, hc⟩ := h
      exact hc.mono fun e w'' ⟨he, hw''⟩ => by subst he; exact hK _ hw''
  | halt x w' => simp only [sQuiet] at h

section
variable {P : Program} {ops : Array Oper}

def dstOf (ops : Array Oper) (i : Nat) : Option Tmp := (ops[i]?).bind (·.dst)
def headOpB (ops : Array Oper) (n m i : Nat) : Bool :=
  match ops[i]? with
  | some o => o.guard.isNone && o.after.all (fun e => !Region.binds .any e || decide (e.on < i)) && (match o.dst with
    | some d => decide (d < m) && (List.range n).all fun j => j == i || dstOf ops j != some d
    | none => false)
  | none => false
def headRdB (ops : Array Oper) (n i : Nat) (als : List Bool) (rd : List Nat) : Bool := rd.all fun k => (List.range n).all fun j => dstOf ops j != some k || (Region.waitsFor .any ops i j && !als.getD j true)
def freshB (ops : Array Oper) (n m : Nat) (als : List Bool) (rds : List (List Nat)) : Bool :=
  decide (n < ops.size) && Region.sinkB .any ops n && Region.chainB .any ops n && (List.range n).all (headOpB ops n m) && (List.range n).all (fun i => headRdB ops n i als (rds.getD i [])) && decide (rds.length = n) &&
  Region.seqB .any ops (ops.size - n) n (Array.replicate n true ++ Array.replicate (ops.size - n) false)

/-- How many of the head are still to come. -/
def toCome (listed : Array Bool) (n : Nat) : Nat := ((List.range n).filter fun i => !listed.getD i false).length
theorem getD_set_self (listed : Array Bool) (i : Nat) (h : i < listed.size) : (listed.setIfInBounds i true).getD i false = true := by simp [Array.getD_eq_getD_getElem?, h]
theorem getD_set_not (listed : Array Bool) (i j : Nat) (h : i ≠ j) (b : Bool) : (listed.setIfInBounds i true).getD j b = listed.getD j b := by simp [Array.getD_eq_getD_getElem?, Array.getElem?_setIfInBounds, h]
theorem toCome_set (listed : Array Bool) (n i : Nat) (hi : i < n) (hs : i < listed.size) (hu : listed.getD i false = false) : toCome listed n = toCome (listed.setIfInBounds i true) n + 1 := by
  induction n with
  | zero => omega
  | succ n ih =>
    unfold toCome at *
    rw [List.range_succ, List.filter_append, List.filter_append, List.length_append, List.length_append]
    by_cases h : i = n
    · subst h
      have e : (List.range i).filter (fun j => !(listed.setIfInBounds i true).getD j false) = (List.range i).filter (fun j => !listed.getD j false) := by
        apply List.filter_congr
        intro j hj
        have := List.mem_range.1 hj
        rw [getD_set_not _ _ _ (by omega)]
      rw [e]
      simp only [List.filter_cons, hu, getD_set_self _ _ hs]
      simp
    · rw [ih (by omega)]
      simp only [List.filter_cons, getD_set_not _ _ _ h]
      split <;> simp <;> omega
theorem toCome_zero (listed : Array Bool) (n : Nat) (h : toCome listed n = 0) : ∀ i, i < n → listed.getD i false = true := by
  intro i hi
  unfold toCome at h
  have := List.length_eq_zero_iff.1 h
  rw [List.filter_eq_nil_iff] at this
  simpa using this i (List.mem_range.2 hi)
theorem toCome_pos (listed : Array Bool) (n f : Nat) (h : toCome listed n = f + 1) : ∃ i, i < n ∧ listed.getD i false = false ∧ ∀ j, j < i → listed.getD j false = true := by
  induction n with
  | zero => simp [toCome] at h
  | succ n ih =>
    by_cases h0 : toCome listed n = 0
    · refine ⟨n, by omega, ?_, fun j hj => toCome_zero _ _ h0 j hj⟩
      unfold toCome at h h0
      rw [List.range_succ, List.filter_append, List.length_append, h0] at h
      cases hb : listed.getD n false
      · rfl
      · simp only [List.filter_cons, hb, Bool.not_true, Bool.false_eq_true, if_false, List.filter_nil, List.length_nil] at h; omega
    · obtain ⟨f', hf'⟩ : ∃ f', toCome listed n = f' + 1 := ⟨toCome listed n - 1, by omega⟩
      have : ∃ i, i < n ∧ listed.getD i false = false ∧ ∀ j, j < i → listed.getD j false = true := by
        clear ih
        -- the least one below n
        have hex : ∃ i, i < n ∧ listed.getD i false = false := by
          unfold toCome at hf'
          have hne : (List.range n).filter (fun i => !listed.getD i false) ≠ [] := by intro e; rw [e] at hf'; simp at hf'
          obtain ⟨i, hi⟩ := List.exists_mem_of_ne_nil _ hne
          simp only [List.mem_filter, List.mem_range] at hi
          exact ⟨i, hi.1, by simpa using hi.2⟩
        obtain ⟨i, hi, hf⟩ := hex
        induction i using Nat.strongRecOn with
        | _ i ih =>
          by_cases hall : ∀ j, j < i → listed.getD j false = true
          · exact ⟨i, hi, hf, hall⟩
          · obtain ⟨j, hj⟩ : ∃ j, ¬ (j < i → listed.getD j false = true) := Classical.not_forall.1 hall
            have hji : j < i := Classical.byContradiction fun h => hj fun h' => absurd h' h
            have hjf : listed.getD j false = false := by cases hb : listed.getD j false; rfl; exact absurd (fun _ => hb) hj
            exact ih j hji (by omega) hjf
      obtain ⟨i, hi, h1, h2⟩ := this
      exact ⟨i, by omega, h1, h2⟩

/-- A region by an invariant of its head. -/
theorem wp_region_inv {id : Nat} {Q : Exit → Act → World → Prop} {a : Act} {w : World} {l : List Oper} (n m : Nat) (als : List Bool) (rds : List (List Nat)) (hm : P.follows .mixedOrders = true) (hB : freshB l.toArray n m als rds = true)
    (J : Array Bool → Act → World → Prop) (h0 : J (Array.replicate l.toArray.size false) a { w with drawn := w.drawn + 1 })
    (hstep : ∀ i, i < n → ∀ listed a' w', i ∈ Region.ready .any l.toArray listed → HeadInv .any l.toArray n listed → J listed a' w' → wpOp P l.toArray Q i (J (listed.setIfInBounds i true)) a' w')
    (hend : ∀ listed a' w', (∀ i, i < n → listed.getD i false = true) → J listed a' w' → wpList P l.toArray Q (l.drop n) a' w') : (Code.region id l.toArray true).wp P Q a w := by
  unfold freshB at hB
  simp only [Bool.and_eq_true, decide_eq_true_eq] at hB
  obtain ⟨⟨⟨⟨⟨⟨hn, hs⟩, hc⟩, hops⟩, _⟩, _⟩, hseq⟩ := hB
  have hn' : n < l.length := by simpa using hn
  refine wp_region_any hm ?_
  have main : ∀ (f : Nat) (listed : Array Bool) (a' : Act) (w' : World), toCome listed n = f → HeadInv .any l.toArray n listed → J listed a' w' → wpAny P .any l.toArray Q (f + (l.toArray.size - n)) listed a' w' := by
    intro f
    induction f with
    | zero =>
      intro listed a' w' hf inv hJ
      have hall := toCome_zero _ _ hf
      have hl : listed = Array.replicate n true ++ Array.replicate (l.toArray.size - n) false := by
        apply Array.ext
        · simp [inv.size]; omega
        · intro i h1 h2
          by_cases hi : i < n
          · have := hall i hi
            simp [Array.getD_eq_getD_getElem?, h1] at this
            rw [this, Array.getElem_append_left (by simpa using hi)]; simp
          · have := inv.tail i (by omega) (by rw [← inv.size]; exact h1)
            simp [Array.getD_eq_getD_getElem?, h1] at this
            rw [this, Array.getElem_append_right (by simp; omega)]; simp
      have hdl : (l.drop n).length = l.toArray.size - n := by simp
      have := wpAny_of_seq (md := .any) (Q' := Q) (l.drop n) n listed a' w' (fun j => by simp [List.getElem?_drop]) (by rw [hdl, hl]; exact hseq) (hend listed a' w' hall hJ)
      rw [hdl] at this
      rwa [Nat.zero_add]
    | succ f ih =>
      intro listed a' w' hf inv hJ
      obtain ⟨i, hi, hun, hall⟩ := toCome_pos _ _ _ hf
      have hil : i < listed.size := by rw [inv.size]; omega
      have hunt : listed.getD i true = false := Go.getD_in hil hun
      have hready : i ∈ Region.ready .any l.toArray listed := by
        rw [mem_ready]
        have hop := List.all_eq_true.1 hops i (List.mem_range.2 hi)
        unfold headOpB at hop
        have hio : l.toArray[i]? = some l.toArray[i] := Array.getElem?_eq_getElem (by simpa using Nat.lt_trans hi hn')
        rw [hio] at hop
        simp only [Bool.and_eq_true] at hop
        refine ⟨hunt, _, hio, fun e he hb => ?_⟩
        have := Array.all_eq_true'.1 hop.1.2 e he
        simp only [hb, Bool.not_true, Bool.false_or, decide_eq_true_eq] at this
        exact hall _ this
      rw [show f + 1 + (l.toArray.size - n) = (f + (l.toArray.size - n)) + 1 by omega]
      refine ⟨fun h => (by rw [h] at hready; cases hready), fun j hj => ?_⟩
      have hjn : j < n := Nat.lt_of_not_le fun h => absurd hj (tail_waits hs hc hn inv _ i rfl hi hunt j h)
      have hjl : j < listed.size := by rw [inv.size]; omega
      have hju : listed.getD j false = false := Go.getD_both (mem_ready.1 hj).1
      refine wpOp_mono (fun a'' w'' h => ih _ a'' w'' ?_ (inv.set hj hjn) h) (hstep j hjn listed a' w' hj inv hJ)
      have := toCome_set listed n j hjn hjl hju
      omega
  have hf0 : toCome (Array.replicate l.toArray.size false) n = n := by
    unfold toCome
    have : (List.range n).filter (fun i => !(Array.replicate l.toArray.size false).getD i false) = List.range n := by
      rw [List.filter_eq_self]; intro i _; rw [Go.getD_replicate_false]; rfl
    rw [this, List.length_range]
  have inv0 : HeadInv .any l.toArray n (Array.replicate l.toArray.size false) :=
    ⟨by simp, fun j oj _ hl => (by rw [Go.getD_replicate_false] at hl; cases hl), fun t _ ht => Go.getD_in (by simpa using ht) (Go.getD_replicate_false _ _)⟩
  have := main n _ a _ hf0 inv0 h0
  rwa [show n + (l.toArray.size - n) = l.toArray.size by omega] at this

/-- The frame behind the head. -/
def headPut : Act → List Oper → (Nat → Value) → Nat → Act
  | a, [], _, _ => a
  | a, o :: l, vs, k => headPut (a.put o.dst (vs k)) l vs (k + 1)
def specV (S : List HeadSpec) (i : Nat) : Value := ((S[i]?).map (·.v)).getD undef
/-- What is to be shown of each operation of the head. -/
def specObl (P : Program) (w0 : World) (o : Oper) (s : HeadSpec) : Prop :=
  match s.al with
  | some ob => ∀ (a : Act) (w : World), Below w0.heap.size w0 w → (execOp a.eval o).run P w = .ok (.value (.pointer (some ⟨w.heap.size, 0, none⟩))) (w.alloc ob)
  | none => ∀ (a : Act) (w : World), Below w0.heap.size w0 w → (∀ p ∈ s.rd, a.tmps.getD p.1 undef = p.2) → sQuiet P w s.v ((execOp a.eval o).run P w)
def headObl (P : Program) (w0 : World) : List Oper → List HeadSpec → Prop
  | o :: l, s :: S => specObl P w0 o s ∧ headObl P w0 l S
  | [], [] => True
  | _, _ => False
def headReads (aF : Act) : List HeadSpec → Prop
  | [] => True
  | s :: S => (∀ p ∈ s.rd, aF.tmps.getD p.1 undef = p.2) ∧ headReads aF S
/-- What follows: for whatever new blocks. -/
def headEnd (P : Program) (ops : Array Oper) (Q : Exit → Act → World → Prop) (rest : List Oper) (w0 : World) : List Oper → List HeadSpec → Act → List (Nat × Obj) → Prop
  | o :: l, s :: S, a, gs => match s.al with
    | none => headEnd P ops Q rest w0 l S (a.put o.dst s.v) gs
    | some ob => ∀ g : Nat, w0.heap.size ≤ g → (∀ p ∈ gs, p.1 ≠ g) → headEnd P ops Q rest w0 l S (a.put o.dst (.pointer (some ⟨g, 0, none⟩))) (gs ++ [(g, ob)])
  | _, _, a, gs => ∀ w' : World, Below w0.heap.size w0 w' → (∀ p ∈ gs, w'.heap[p.1]? = some p.2) → wpList P ops Q rest a w'
theorem headObl_get {w0 : World} : ∀ {l : List Oper} {S : List HeadSpec}, headObl P w0 l S → l.length = S.length ∧ ∀ (i : Nat) (o : Oper) (s : HeadSpec), l[i]? = some o → S[i]? = some s → specObl P w0 o s
  | [], [], _ => ⟨rfl, fun i o s h _ => by simp at h⟩
  | o :: l, s :: S, h => by
    obtain ⟨h1, h2⟩ := h
    obtain ⟨hl, hg⟩ := headObl_get h2
    refine ⟨by simp [hl], fun i o' s' ho hs => ?_⟩
    cases i with
    | zero => simp at ho hs; subst ho hs; exact h1
    | succ i => simp at ho hs; exact hg i o' s' ho hs
  | [], _ :: _, h => h.elim
  | _ :: _, [], h => h.elim
theorem headReads_get {aF : Act} : ∀ {S : List HeadSpec}, headReads aF S → ∀ (i : Nat) (s : HeadSpec), S[i]? = some s → ∀ p ∈ s.rd, aF.tmps.getD p.1 undef = p.2
  | [], _, i, s, h => by simp at h
  | s :: S, hr, i, s', h => by
    cases i with
    | zero => simp at h; subst h; exact hr.1
    | succ i => simp at h; exact headReads_get hr.2 i s' h

/-- A frame that is a0 but for what some of the head have put. -/
structure FrameIs (ops : Array Oper) (n : Nat) (a0 : Act) (vs : Nat → Value) (listed : Array Bool) (a : Act) : Prop where
  defers : a.defers = a0.defers
  size : a.tmps.size = a0.tmps.size
  put : ∀ j d, j < n → listed.getD j false = true → dstOf ops j = some d → a.tmps.getD d undef = vs j
  old : ∀ d, (∀ j, j < n → listed.getD j false = true → dstOf ops j ≠ some d) → a.tmps.getD d undef = a0.tmps.getD d undef
theorem tmps_put (a : Act) (d k : Nat) (v : Value) (hd : d < a.tmps.size) : (a.put (some d) v).tmps.getD k undef = if k = d then v else a.tmps.getD k undef := by
  simp only [Act.put, Array.getD_eq_getD_getElem?, Array.getElem?_setIfInBounds]
  by_cases h : d = k
  · subst h; simp [hd]
  · simp [h, Ne.symm h]
theorem FrameIs.step {n i d : Nat} {a0 a : Act} {vs : Nat → Value} {listed : Array Bool} (h : FrameIs ops n a0 vs listed a) (hi : i < n) (hil : i < listed.size) (hu : listed.getD i false = false) (hd : dstOf ops i = some d) (hdm : d < a0.tmps.size)
    (hne : ∀ j, j < n → j ≠ i → dstOf ops j ≠ some d) (v : Value) : FrameIs ops n a0 (fun j => if j = i then v else vs j) (listed.setIfInBounds i true) (a.put (some d) v) := by
  have hda : d < a.tmps.size := by rw [h.size]; exact hdm
  refine ⟨h.defers, by simp [Act.put, h.size], fun j d' hj hlj hdj => ?_, fun d' hno => ?_⟩
  · rw [tmps_put _ _ _ _ hda]
    by_cases hji : j = i
    · subst hji; rw [hd] at hdj; cases hdj; simp
    · have : d' ≠ d := fun e => hne j hj hji (by rw [hdj, e])
      rw [if_neg this, if_neg hji]
      rw [getD_set_not _ _ _ (Ne.symm hji)] at hlj
      exact h.put j d' hj hlj hdj
  · rw [tmps_put _ _ _ _ hda]
    have : d' ≠ d := fun e => hno i hi (getD_set_self _ _ hil) (by rw [hd, e])
    rw [if_neg this]
    exact h.old d' fun j hj hlj => by
      by_cases hji : j = i
      · subst hji; rw [hu] at hlj; cases hlj
      · exact hno j hj (by rw [getD_set_not _ _ _ (Ne.symm hji)]; exact hlj)
theorem FrameIs.eq {n : Nat} {a0 a b : Act} {vs : Nat → Value} {listed listed' : Array Bool} (h : FrameIs ops n a0 vs listed a) (k : FrameIs ops n a0 vs listed' b) (hl : ∀ i, i < n → listed.getD i false = true) (hl' : ∀ i, i < n → listed'.getD i false = true) : a = b := by
  have ht : a.tmps = b.tmps := by
    apply Array.ext
    · rw [h.size, k.size]
    · intro d h1 h2
      have e : a.tmps.getD d undef = b.tmps.getD d undef := by
        by_cases hx : ∃ j, j < n ∧ dstOf ops j = some d
        · obtain ⟨j, hj, hd⟩ := hx
          rw [h.put j d hj (hl j hj) hd, k.put j d hj (hl' j hj) hd]
        · rw [h.old d fun j hj _ e => hx ⟨j, hj, e⟩, k.old d fun j hj _ e => hx ⟨j, hj, e⟩]
      simpa [Array.getD_eq_getD_getElem?, h1, h2] using e
  cases a; cases b
  have h1 := h.defers; have h2 := k.defers
  simp only at ht h1 h2
  rw [ht, h1, h2]
theorem headPut_is {n : Nat} {a0 : Act} {vs : Nat → Value} (hops : ∀ i, i < n → ∃ d, dstOf ops i = some d ∧ d < a0.tmps.size ∧ ∀ j, j < n → j ≠ i → dstOf ops j ≠ some d) :
    ∀ (l' : List Oper) (k : Nat) (listed : Array Bool) (b : Act), k + l'.length = n → (∀ j, j < l'.length → l'[j]? = ops[k + j]?) → n ≤ listed.size → (∀ i, i < n → listed.getD i false = decide (i < k)) → FrameIs ops n a0 vs listed b →
    ∃ listed', (∀ i, i < n → listed'.getD i false = true) ∧ FrameIs ops n a0 vs listed' (headPut b l' vs k)
  | [], k, listed, b, hk, _, _, hl, h => ⟨listed, fun i hi => by rw [hl i hi]; simp at hk; simp; omega, h⟩
  | o :: l', k, listed, b, hk, hops', hs, hl, h => by
    have hkn : k < n := by simp at hk; omega
    obtain ⟨d, hd, hdm, hne⟩ := hops k hkn
    have h0 : ops[k]? = some o := by simpa using (hops' 0 (by simp)).symm
    have hod : o.dst = some d := by simpa [dstOf, h0] using hd
    have hst := h.step hkn (by omega) (by rw [hl k hkn]; simp) hd hdm hne (vs k)
    rw [show (fun j => if j = k then vs k else vs j) = vs by funext j; split <;> simp_all] at hst
    rw [headPut, hod]
    refine headPut_is hops l' (k + 1) (listed.setIfInBounds k true) _ (by simp at hk; omega) (fun j hj => ?_) (by simpa using hs) (fun i hi => ?_) hst
    · have := hops' (j + 1) (by simp; omega)
      simpa [Nat.add_assoc, Nat.add_comm 1 j] using this
    · by_cases hik : i = k
      · subst hik; rw [getD_set_self _ _ (by omega)]; simp
      · rw [getD_set_not _ _ _ (Ne.symm hik), hl i hi]
        rw [show decide (i < k) = decide (i < k + 1) from by rw [decide_eq_decide]; omega]
def specAt (w0 w : World) (s : HeadSpec) (v : Value) : Prop :=
  match s.al with
  | none => v = s.v
  | some ob => ∃ g : Nat, v = .pointer (some ⟨g, 0, none⟩) ∧ w0.heap.size ≤ g ∧ w.heap[g]? = some ob
theorem specAt.keep {w0 w w' : World} {s : HeadSpec} {v : Value} (h : specAt w0 w s v) (hb : Below w.heap.size w w') : specAt w0 w' s v := by
  unfold specAt at *
  split
  · rename_i ha; simp only [ha] at h; exact h
  · rename_i ob ha
    simp only [ha] at h
    obtain ⟨g, h1, h2, h3⟩ := h
    exact ⟨g, h1, h2, blk_below hb (blk_lt h3) h3⟩
theorem headEnd_use {Q : Exit → Act → World → Prop} {rest : List Oper} {w0 w' : World} {vs : Nat → Value} (hb : Below w0.heap.size w0 w') :
    ∀ (l' : List Oper) (S' : List HeadSpec) (b : Act) (gs : List (Nat × Obj)) (k : Nat), l'.length = S'.length →
    (∀ (i : Nat) (s : HeadSpec), S'[i]? = some s → specAt w0 w' s (vs (k + i))) →
    (∀ (i : Nat) (s : HeadSpec), S'[i]? = some s → s.al.isSome = true → ∀ p ∈ gs, vs (k + i) ≠ .pointer (some ⟨p.1, 0, none⟩)) →
    (∀ (i j : Nat) (s t : HeadSpec), S'[i]? = some s → S'[j]? = some t → i ≠ j → s.al.isSome = true → t.al.isSome = true → vs (k + i) ≠ vs (k + j)) →
    (∀ p ∈ gs, w'.heap[p.1]? = some p.2) → headEnd P ops Q rest w0 l' S' b gs → wpList P ops Q rest (headPut b l' vs k) w'
  | [], [], b, gs, k, _, _, _, _, hg, h => by rw [headPut]; exact h w' hb hg
  | o :: l', s :: S', b, gs, k, hl, h1, h2, h3, hg, h => by
    have hs := h1 0 s (by simp)
    rw [Nat.add_zero] at hs
    have n1 : ∀ (i : Nat) (t : HeadSpec), S'[i]? = some t → specAt w0 w' t (vs (k + 1 + i)) := fun i t ht => by
      have := h1 (i + 1) t (by simpa using ht); rwa [show k + (i + 1) = k + 1 + i by omega] at this
    have n3 : ∀ (i j : Nat) (t u : HeadSpec), S'[i]? = some t → S'[j]? = some u → i ≠ j → t.al.isSome = true → u.al.isSome = true → vs (k + 1 + i) ≠ vs (k + 1 + j) := fun i j t u ht hu hij => by
      have := h3 (i + 1) (j + 1) t u (by simpa using ht) (by simpa using hu) (by omega)
      rwa [show k + (i + 1) = k + 1 + i by omega, show k + (j + 1) = k + 1 + j by omega] at this
    have n2 : ∀ (i : Nat) (t : HeadSpec), S'[i]? = some t → t.al.isSome = true → ∀ p ∈ gs, vs (k + 1 + i) ≠ .pointer (some ⟨p.1, 0, none⟩) := fun i t ht ha p hp => by
      have := h2 (i + 1) t (by simpa using ht) ha p hp; rwa [show k + (i + 1) = k + 1 + i by omega] at this
    rw [headPut]
    unfold headEnd at h
    cases hal : s.al with
    | none =>
      simp only [hal] at h
      have hv : vs k = s.v := by unfold specAt at hs; simpa only [hal] using hs
      rw [hv]
      exact headEnd_use hb l' S' _ gs (k + 1) (by simpa using hl) n1 n2 n3 hg h
    | some ob =>
      simp only [hal] at h
      have hv : ∃ g : Nat, vs k = .pointer (some ⟨g, 0, none⟩) ∧ w0.heap.size ≤ g ∧ w'.heap[g]? = some ob := by unfold specAt at hs; simpa only [hal] using hs
      obtain ⟨g, hvg, hge, hgo⟩ := hv
      rw [hvg]
      have hnew := h g hge (fun p hp e => h2 0 s (by simp) (by simp [hal]) p hp (by rw [Nat.add_zero, hvg, e]))
      refine headEnd_use hb l' S' _ (gs ++ [(g, ob)]) (k + 1) (by simpa using hl) n1 (fun i t ht ha p hp => ?_) n3 (fun p hp => ?_) hnew
      · rcases List.mem_append.1 hp with hp | hp
        · exact n2 i t ht ha p hp
        · have : p = (g, ob) := by simpa using hp
          subst this
          have := h3 (i + 1) 0 t s (by simpa using ht) (by simp) (by omega) ha (by simp [hal])
          rw [show k + (i + 1) = k + 1 + i by omega, show k + 0 = k from rfl, hvg] at this
          exact this
      · rcases List.mem_append.1 hp with hp | hp
        · exact hg p hp
        · have : p = (g, ob) := by simpa using hp
          subst this; exact hgo
  | [], _ :: _, _, _, _, hl, _, _, _, _, _ => by simp at hl
  | _ :: _, [], _, _, _, hl, _, _, _, _, _ => by simp at hl

/-- The region. -/
theorem wp_region_fresh {id : Nat} {Q : Exit → Act → World → Prop} {a : Act} {w : World} {l : List Oper} (n m : Nat) (S : List HeadSpec) (hm : P.follows .mixedOrders = true)
    (hB : freshB l.toArray n m (S.map fun s => s.al.isSome) (S.map fun s => s.rd.map (·.1)) = true) (hsz : a.tmps.size = m)
    (hob : headObl P w (l.take n) S) (hrd : headReads (headPut a (l.take n) (specV S) 0) S)
    (hend : headEnd P l.toArray Q (l.drop n) w (l.take n) S a []) : (Code.region id l.toArray true).wp P Q a w := by
  have hB0 := hB
  unfold freshB at hB0
  simp only [Bool.and_eq_true, decide_eq_true_eq] at hB0
  obtain ⟨⟨⟨⟨⟨⟨hn, _⟩, _⟩, hops⟩, hrds⟩, hlen⟩, _⟩ := hB0
  have hn' : n < l.length := by simpa using hn
  have htl : (l.take n).length = n := by simp; omega
  obtain ⟨hSl, hget⟩ := headObl_get hob
  rw [htl] at hSl
  have hopi : ∀ i, i < n → ∃ o d, l.toArray[i]? = some o ∧ o.guard = none ∧ o.dst = some d ∧ dstOf l.toArray i = some d ∧ d < a.tmps.size ∧ ∀ j, j < n → j ≠ i → dstOf l.toArray j ≠ some d := fun i hi => by
    have hop := List.all_eq_true.1 hops i (List.mem_range.2 hi)
    unfold headOpB at hop
    have hio : l.toArray[i]? = some l.toArray[i] := Array.getElem?_eq_getElem (by simpa using Nat.lt_trans hi hn')
    rw [hio] at hop
    simp only [Bool.and_eq_true] at hop
    obtain ⟨⟨hg, _⟩, hd⟩ := hop
    cases hdd : l.toArray[i].dst with
    | none => rw [hdd] at hd; cases hd
    | some d =>
      rw [hdd] at hd
      simp only [Bool.and_eq_true, decide_eq_true_eq] at hd
      refine ⟨_, d, hio, by simpa using hg, hdd, by rw [dstOf, hio]; exact hdd, by rw [hsz]; exact hd.1, fun j hj hji e => ?_⟩
      have := List.all_eq_true.1 hd.2 j (List.mem_range.2 hj)
      simp only [Bool.or_eq_true, beq_iff_eq, bne_iff_ne] at this
      rcases this with h | h
      · exact hji h
      · exact h e
  have hfr0 : FrameIs l.toArray n a (specV S) (Array.replicate l.toArray.size false) a := ⟨rfl, rfl, fun j d _ h _ => (by rw [Go.getD_replicate_false] at h; cases h), fun _ _ => rfl⟩
  obtain ⟨lF, hlF, hF⟩ := headPut_is (ops := l.toArray) (n := n) (a0 := a) (vs := specV S) (fun i hi => by obtain ⟨o, d, _, _, _, h1, h2, h3⟩ := hopi i hi; exact ⟨d, h1, h2, h3⟩)
    (l.take n) 0 (Array.replicate l.toArray.size false) a (by omega) (fun j hj => by rw [htl] at hj; simp [List.getElem?_take, hj]) (by simp; omega) (fun i hi => by rw [Go.getD_replicate_false]; simp) hfr0
  refine wp_region_inv n m _ _ hm hB (fun listed a' w' => listed.size = l.toArray.size ∧ ∃ vs : Nat → Value, FrameIs l.toArray n a vs listed a' ∧ Below w.heap.size w w' ∧
      (∀ (i : Nat) (s : HeadSpec), i < n → listed.getD i false = true → S[i]? = some s → specAt w w' s (vs i)) ∧
      (∀ (i j : Nat) (s t : HeadSpec), i < n → j < n → listed.getD i false = true → listed.getD j false = true → S[i]? = some s → S[j]? = some t → i ≠ j → s.al.isSome = true → t.al.isSome = true → vs i ≠ vs j)) ?_ ?_ ?_
  · refine ⟨by simp, specV S, hfr0, ⟨rfl, rfl, rfl, Nat.le_refl _, fun _ _ => rfl⟩, fun i s _ h => (by rw [Go.getD_replicate_false] at h; cases h), fun i j s t _ _ h => (by rw [Go.getD_replicate_false] at h; cases h)⟩
  · intro i hi listed a' w' hr inv hJ
    obtain ⟨hls, vs, hf, hb, hsp, hdi⟩ := hJ
    obtain ⟨o, d, ho, hg, hod, hd, hdm, hne⟩ := hopi i hi
    have hu : listed.getD i false = false := Go.getD_both (mem_ready.1 hr).1
    have hil : i < listed.size := by rw [hls]; omega
    obtain ⟨s, hs⟩ : ∃ s, S[i]? = some s := ⟨S[i]'(by omega), List.getElem?_eq_getElem (by omega)⟩
    have hobl := hget i o s (by simpa [List.getElem?_take, hi] using ho) hs
    unfold wpOp
    simp only [ho]
    have hw : Region.wanted o (yielded l.toArray a'.tmps) = true := by simp [Region.wanted, hg]
    rw [if_pos hw]
    refine .inl ?_
    unfold specObl at hobl
    cases hal : s.al with
    | none =>
      simp only [hal] at hobl
      refine wp_of_sQuiet (hobl a' w' hb (fun p hp => ?_)) fun w'' hb2 => ?_
      · have hR := List.all_eq_true.1 hrds i (List.mem_range.2 hi)
        unfold headRdB at hR
        have hpi : p.1 ∈ (S.map fun s => s.rd.map (·.1)).getD i [] := by
          simp only [List.getD_eq_getElem?_getD, List.getElem?_map, hs, Option.map_some, Option.getD_some]
          exact List.mem_map.2 ⟨p, hp, rfl⟩
        have hR2 := List.all_eq_true.1 hR p.1 hpi
        rw [← headReads_get hrd i s hs p hp]
        by_cases hx : ∃ j, j < n ∧ dstOf l.toArray j = some p.1
        · obtain ⟨j, hj, hdj⟩ := hx
          have hR3 := List.all_eq_true.1 hR2 j (List.mem_range.2 hj)
          simp only [hdj, bne_self_eq_false, Bool.false_or, Bool.and_eq_true] at hR3
          obtain ⟨hw1, hw2⟩ := hR3
          obtain ⟨oj, hoj, e, he, hbi, heq⟩ := Region.waitsFor_spec hw1
          rw [ho] at hoj; cases hoj
          have hlj : listed.getD j false = true := by
            obtain ⟨_, o2, ho2, hall⟩ := mem_ready.1 hr
            rw [ho] at ho2; cases ho2
            rw [← heq]; exact hall e he hbi
          obtain ⟨t, ht⟩ : ∃ t, S[j]? = some t := ⟨S[j]'(by omega), List.getElem?_eq_getElem (by omega)⟩
          have hta : t.al = none := by
            simp only [List.getD_eq_getElem?_getD, List.getElem?_map, ht, Option.map_some, Option.getD_some, Bool.not_eq_true'] at hw2
            simpa using hw2
          rw [hf.put j p.1 hj hlj hdj, hF.put j p.1 hj (hlF j hj) hdj]
          have := hsp j t hj hlj ht
          unfold specAt at this
          simp only [hta] at this
          rw [this, specV, ht]; rfl
        · rw [hf.old p.1 fun j hj _ e => hx ⟨j, hj, e⟩, hF.old p.1 fun j hj _ e => hx ⟨j, hj, e⟩]
      · rw [hod]
        refine ⟨by simpa using hls, _, hf.step hi hil hu hd hdm hne s.v, hb.trans (hb2.mono hb.size), fun j t hj hlj ht => ?_, fun j k t u hj hk hlj hlk ht hu' hjk hta hua => ?_⟩
        · by_cases hji : j = i
          · subst hji; rw [hs] at ht; cases ht; unfold specAt; simp [hal]
          · simp only [if_neg hji]
            rw [getD_set_not _ _ _ (Ne.symm hji)] at hlj
            exact (hsp j t hj hlj ht).keep hb2
        · have hji : j ≠ i := fun e => by subst e; rw [hs] at ht; cases ht; simp [hal] at hta
          have hki : k ≠ i := fun e => by subst e; rw [hs] at hu'; cases hu'; simp [hal] at hua
          simp only [if_neg hji, if_neg hki]
          rw [getD_set_not _ _ _ (Ne.symm hji)] at hlj
          rw [getD_set_not _ _ _ (Ne.symm hki)] at hlk
          exact hdi j k t u hj hk hlj hlk ht hu' hjk hta hua
    | some ob =>
      simp only [hal] at hobl
      unfold Oper.wp
      rw [hobl a' w' hb]
      simp only [Oper.upon]
      rw [hod]
      have hb2 := below_new w' ob
      have hkey : ∀ j t, j < n → listed.getD j false = true → S[j]? = some t → t.al.isSome = true → vs j ≠ .pointer (some ⟨w'.heap.size, 0, none⟩) := fun j t hj hlj ht hta e => by
        have := hsp j t hj hlj ht
        unfold specAt at this
        cases hta' : t.al with
        | none => simp [hta'] at hta
        | some ob' =>
          simp only [hta'] at this
          obtain ⟨g, h1, _, h3⟩ := this
          rw [e] at h1
          have : w'.heap.size = g := by simpa using h1
          have := blk_lt h3
          omega
      refine ⟨by simpa using hls, _, hf.step hi hil hu hd hdm hne (.pointer (some ⟨w'.heap.size, 0, none⟩)), hb.trans (hb2.mono hb.size), fun j t hj hlj ht => ?_, fun j k t u hj hk hlj hlk ht hu' hjk hta hua => ?_⟩
      · by_cases hji : j = i
        · subst hji; rw [hs] at ht; cases ht; unfold specAt; simp only [hal]; exact ⟨w'.heap.size, by simp, hb.size, blk_new w' ob⟩
        · simp only [if_neg hji]
          rw [getD_set_not _ _ _ (Ne.symm hji)] at hlj
          exact (hsp j t hj hlj ht).keep hb2
      · by_cases hji : j = i
        · subst hji
          have hkj : k ≠ j := Ne.symm hjk
          simp only [if_pos, if_neg hkj]
          rw [getD_set_not _ _ _ (Ne.symm hkj)] at hlk
          exact fun e => hkey k u hk hlk hu' hua e.symm
        · rw [getD_set_not _ _ _ (Ne.symm hji)] at hlj
          by_cases hki : k = i
          · subst hki
            simp only [if_pos, if_neg hji]
            exact hkey j t hj hlj ht hta
          · simp only [if_neg hji, if_neg hki]
            rw [getD_set_not _ _ _ (Ne.symm hki)] at hlk
            exact hdi j k t u hj hk hlj hlk ht hu' hjk hta hua
  · intro listed a' w' hall hJ
    obtain ⟨hls, vs, hf, hb, hsp, hdi⟩ := hJ
    have hfr1 : FrameIs l.toArray n a vs (Array.replicate l.toArray.size false) a := ⟨rfl, rfl, fun j d _ h _ => (by rw [Go.getD_replicate_false] at h; cases h), fun _ _ => rfl⟩
    obtain ⟨lV, hlV, hV⟩ := headPut_is (ops := l.toArray) (n := n) (a0 := a) (vs := vs) (fun i hi => by obtain ⟨o, d, _, _, _, h1, h2, h3⟩ := hopi i hi; exact ⟨d, h1, h2, h3⟩)
      (l.take n) 0 (Array.replicate l.toArray.size false) a (by omega) (fun j hj => by rw [htl] at hj; simp [List.getElem?_take, hj]) (by simp; omega) (fun i hi => by rw [Go.getD_replicate_false]; simp) hfr1
    rw [hf.eq hV hall hlV]
    have hin : ∀ (i : Nat) (s : HeadSpec), S[i]? = some s → i < n := fun i s h => by have := (List.getElem?_eq_some_iff.1 h).1; omega
    refine headEnd_use hb (l.take n) S a [] 0 (by omega) (fun i s hs => ?_) (fun _ _ _ _ p hp => by simp at hp) (fun i j s t hs ht hij hsa hta => ?_) (fun p hp => by simp at hp) hend
    · rw [Nat.zero_add]; exact hsp i s (hin i s hs) (hall i (hin i s hs)) hs
    · rw [Nat.zero_add, Nat.zero_add]; exact hdi i j s t (hin i s hs) (hin j t ht) (hall i (hin i s hs)) (hall j (hin j t ht)) hs ht hij hsa hta
end

/-- A whole row that was there, loaded. -/
theorem sQuiet_load_row {P : Program} {o : Oper} {a : Act} {w : World} (ty : TypeId) (x : Operand) (ho : o.op = .load ty x)
    (g : Nat) (hx : a.eval x = .pointer (some ⟨g, 0, none⟩)) (t : TypeId) (cs : Array Value) (fr : Nat × Nat) (d : TypeDesc) (hg : w.heap[g]? = some (.cells cs t fr))
    (hu : P.underlying ty = some d) (hd : (match d with | .struct _ | .array _ _ => true | _ => false) = true) (hi : (P.info? ty).map (·.size) = some cs.size) : sQuiet P w (.agg cs) ((execOp a.eval o).run P w) := by
  unfold execOp
  simp only [ho, hx, Instr.loadAt, Instr.sureAddr, Sem.run_bind, Sem.run_pure, Result.andThen_ok, run_loadVar_row w g t ty cs fr d hg hu hd hi]
  exact ⟨rfl, rfl⟩
end Go.Proofs.YtfidcdkoggfjaaaDoor
