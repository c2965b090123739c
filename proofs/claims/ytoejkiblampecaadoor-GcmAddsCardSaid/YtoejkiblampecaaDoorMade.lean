/- A region that draws its order, whose head makes new blocks at places that the order picks (pointers to them, or slices of them), and whose operations may read what is in them; as XFresh, with readers of new blocks. -/
import Derived.Test.YtoejkiblampecaaDoorFresh
namespace Go.Proofs.YtoejkiblampecaaDoor
open Go.RowKit Go.Sort
set_option maxRecDepth 100000
set_option linter.unusedSimpArgs false
set_option linter.unusedVariables false

/-- What is said of an operation of the head: the block that it makes and the value that names it; or the value that it yields; the slots that it reads with what they hold; the new blocks that it reads (by operation and slot). -/
structure MadeSpec where
  al : Option (Obj × (Nat → Value))
  v : Value
  rd : List (Nat × Value)
  rm : List (Nat × Nat × Obj × (Nat → Value))
def MadeSpec.val (v : Value) (rd : List (Nat × Value)) : MadeSpec := ⟨none, v, rd, []⟩
def MadeSpec.from (v : Value) (rd : List (Nat × Value)) (rm : List (Nat × Nat × Obj × (Nat → Value))) : MadeSpec := ⟨none, v, rd, rm⟩
def MadeSpec.new (ob : Obj) (mk : Nat → Value) (rd : List (Nat × Value)) : MadeSpec := ⟨some (ob, mk), undef, rd, []⟩
def mkP (g : Nat) : Value := .pointer (some ⟨g, 0, none⟩)
def mkS (n c : Nat) (g : Nat) : Value := .slice (some ⟨g, 0, none⟩) n c
def blkOf : Value → Option Nat
  | .pointer (some a) => some a.block
  | .slice (some a) _ _ => some a.block
  | _ => none

section
variable {P : Program} {ops : Array Oper}

def madeB (ops : Array Oper) (n : Nat) (rms : List (List (Nat × Nat))) : Bool := (List.range n).all fun i => (rms.getD i []).all fun p => decide (p.1 < n) && dstOf ops p.1 == some p.2 && Region.waitsFor .any ops i p.1
def madeV (S : List MadeSpec) (i : Nat) : Value := ((S[i]?).map (·.v)).getD undef
def madeSpecObl (P : Program) (w0 : World) (o : Oper) (s : MadeSpec) : Prop :=
  match s.al with
  | some (ob, mk) => (∀ g, blkOf (mk g) = some g) ∧ ∀ (a : Act) (w : World), Below w0.heap.size w0 w → (∀ p ∈ s.rd, a.tmps.getD p.1 undef = p.2) → (execOp a.eval o).run P w = .ok (.value (mk w.heap.size)) (w.alloc ob)
  | none => ∀ (a : Act) (w : World), Below w0.heap.size w0 w → (∀ p ∈ s.rd, a.tmps.getD p.1 undef = p.2) → (∀ p ∈ s.rm, ∃ g : Nat, a.tmps.getD p.2.1 undef = p.2.2.2 g ∧ w.heap[g]? = some p.2.2.1) → sQuiet P w s.v ((execOp a.eval o).run P w)
def madeObl (P : Program) (w0 : World) : List Oper → List MadeSpec → Prop
  | o :: l, s :: S => madeSpecObl P w0 o s ∧ madeObl P w0 l S
  | [], [] => True
  | _, _ => False
def madeReads (aF : Act) : List MadeSpec → Prop
  | [] => True
  | s :: S => (∀ p ∈ s.rd, aF.tmps.getD p.1 undef = p.2) ∧ madeReads aF S
def madeMk (S : List MadeSpec) : List MadeSpec → Prop
  | [] => True
  | s :: R => (∀ p ∈ s.rm, (S[p.1]?).bind (·.al) = some (p.2.2.1, p.2.2.2)) ∧ madeMk S R
def madeEnd (P : Program) (ops : Array Oper) (Q : Exit → Act → World → Prop) (rest : List Oper) (w0 : World) : List Oper → List MadeSpec → Act → List (Nat × Obj) → Prop
  | o :: l, s :: S, a, gs => match s.al with
    | none => madeEnd P ops Q rest w0 l S (a.put o.dst s.v) gs
    | some (ob, mk) => ∀ g : Nat, w0.heap.size ≤ g → (∀ p ∈ gs, p.1 ≠ g) → madeEnd P ops Q rest w0 l S (a.put o.dst (mk g)) (gs ++ [(g, ob)])
  | _, _, a, gs => ∀ w' : World, Below w0.heap.size w0 w' → (∀ p ∈ gs, w'.heap[p.1]? = some p.2) → wpList P ops Q rest a w'
theorem madeObl_get {w0 : World} : ∀ {l : List Oper} {S : List MadeSpec}, madeObl P w0 l S → l.length = S.length ∧ ∀ (i : Nat) (o : Oper) (s : MadeSpec), l[i]? = some o → S[i]? = some s → madeSpecObl P w0 o s
  | [], [], _ => ⟨rfl, fun i o s h _ => by simp at h⟩
  | o :: l, s :: S, h => by
    obtain ⟨h1, h2⟩ := h
    obtain ⟨hl, hg⟩ := madeObl_get h2
    refine ⟨by simp [hl], fun i o' s' ho hs => ?_⟩
    cases i with
    | zero => simp at ho hs; subst ho hs; exact h1
    | succ i => simp at ho hs; exact hg i o' s' ho hs
  | [], _ :: _, h => h.elim
  | _ :: _, [], h => h.elim
theorem madeReads_get {aF : Act} : ∀ {S : List MadeSpec}, madeReads aF S → ∀ (i : Nat) (s : MadeSpec), S[i]? = some s → ∀ p ∈ s.rd, aF.tmps.getD p.1 undef = p.2
  | [], _, i, s, h => by simp at h
  | s :: S, hr, i, s', h => by
    cases i with
    | zero => simp at h; subst h; exact hr.1
    | succ i => simp at h; exact madeReads_get hr.2 i s' h
theorem madeMk_get {S : List MadeSpec} : ∀ {R : List MadeSpec}, madeMk S R → ∀ (i : Nat) (s : MadeSpec), R[i]? = some s → ∀ p ∈ s.rm, (S[p.1]?).bind (·.al) = some (p.2.2.1, p.2.2.2)
  | [], _, i, s, h => by simp at h
  | s :: R, hr, i, s', h => by
    cases i with
    | zero => simp at h; subst h; exact hr.1
    | succ i => simp at h; exact madeMk_get hr.2 i s' h
def madeAt (w0 w : World) (s : MadeSpec) (v : Value) : Prop :=
  match s.al with
  | none => v = s.v
  | some (ob, mk) => ∃ g : Nat, v = mk g ∧ blkOf v = some g ∧ w0.heap.size ≤ g ∧ w.heap[g]? = some ob
theorem madeAt.keep {w0 w w' : World} {s : MadeSpec} {v : Value} (h : madeAt w0 w s v) (hb : Below w.heap.size w w') : madeAt w0 w' s v := by
  unfold madeAt at *
  split
  · rename_i ha; simp only [ha] at h; exact h
  · rename_i ob mk ha
    simp only [ha] at h
    obtain ⟨g, h1, h2, h3, h4⟩ := h
    exact ⟨g, h1, h2, h3, blk_below hb (blk_lt h4) h4⟩
theorem madeEnd_use {Q : Exit → Act → World → Prop} {rest : List Oper} {w0 w' : World} {vs : Nat → Value} (hb : Below w0.heap.size w0 w') :
    ∀ (l' : List Oper) (S' : List MadeSpec) (b : Act) (gs : List (Nat × Obj)) (k : Nat), l'.length = S'.length →
    (∀ (i : Nat) (s : MadeSpec), S'[i]? = some s → madeAt w0 w' s (vs (k + i))) →
    (∀ (i : Nat) (s : MadeSpec), S'[i]? = some s → s.al.isSome = true → ∀ p ∈ gs, blkOf (vs (k + i)) ≠ some p.1) →
    (∀ (i j : Nat) (s t : MadeSpec), S'[i]? = some s → S'[j]? = some t → i ≠ j → s.al.isSome = true → t.al.isSome = true → blkOf (vs (k + i)) ≠ blkOf (vs (k + j))) →
    (∀ p ∈ gs, w'.heap[p.1]? = some p.2) → madeEnd P ops Q rest w0 l' S' b gs → wpList P ops Q rest (headPut b l' vs k) w'
  | [], [], b, gs, k, _, _, _, _, hg, h => by rw [headPut]; exact h w' hb hg
  | o :: l', s :: S', b, gs, k, hl, h1, h2, h3, hg, h => by
    have hs := h1 0 s (by simp)
    rw [Nat.add_zero] at hs
    have n1 : ∀ (i : Nat) (t : MadeSpec), S'[i]? = some t → madeAt w0 w' t (vs (k + 1 + i)) := fun i t ht => by
      have := h1 (i + 1) t (by simpa using ht); rwa [show k + (i + 1) = k + 1 + i by omega] at this
    have n3 : ∀ (i j : Nat) (t u : MadeSpec), S'[i]? = some t → S'[j]? = some u → i ≠ j → t.al.isSome = true → u.al.isSome = true → blkOf (vs (k + 1 + i)) ≠ blkOf (vs (k + 1 + j)) := fun i j t u ht hu hij => by
      have := h3 (i + 1) (j + 1) t u (by simpa using ht) (by simpa using hu) (by omega)
      rwa [show k + (i + 1) = k + 1 + i by omega, show k + (j + 1) = k + 1 + j by omega] at this
    have n2 : ∀ (i : Nat) (t : MadeSpec), S'[i]? = some t → t.al.isSome = true → ∀ p ∈ gs, blkOf (vs (k + 1 + i)) ≠ some p.1 := fun i t ht ha p hp => by
      have := h2 (i + 1) t (by simpa using ht) ha p hp; rwa [show k + (i + 1) = k + 1 + i by omega] at this
    rw [headPut]
    unfold madeEnd at h
    cases hal : s.al with
    | none =>
      simp only [hal] at h
      have hv : vs k = s.v := by unfold madeAt at hs; simpa only [hal] using hs
      rw [hv]
      exact madeEnd_use hb l' S' _ gs (k + 1) (by simpa using hl) n1 n2 n3 hg h
    | some om =>
      obtain ⟨ob, mk⟩ := om
      simp only [hal] at h
      have hv : ∃ g : Nat, vs k = mk g ∧ blkOf (vs k) = some g ∧ w0.heap.size ≤ g ∧ w'.heap[g]? = some ob := by unfold madeAt at hs; simpa only [hal] using hs
      obtain ⟨g, hvg, hbg, hge, hgo⟩ := hv
      have hnew := h g hge (fun p hp e => h2 0 s (by simp) (by simp [hal]) p hp (by rw [Nat.add_zero, hbg, e]))
      rw [hvg]
      refine madeEnd_use hb l' S' _ (gs ++ [(g, ob)]) (k + 1) (by simpa using hl) n1 (fun i t ht ha p hp => ?_) n3 (fun p hp => ?_) hnew
      · rcases List.mem_append.1 hp with hp | hp
        · exact n2 i t ht ha p hp
        · have : p = (g, ob) := by simpa using hp
          subst this
          have := h3 (i + 1) 0 t s (by simpa using ht) (by simp) (by omega) ha (by simp [hal])
          rw [show k + (i + 1) = k + 1 + i by omega, show k + 0 = k from rfl, hbg] at this
          exact this
      · rcases List.mem_append.1 hp with hp | hp
        · exact hg p hp
        · have : p = (g, ob) := by simpa using hp
          subst this; exact hgo
  | [], _ :: _, _, _, _, hl, _, _, _, _, _ => by simp at hl
  | _ :: _, [], _, _, _, hl, _, _, _, _, _ => by simp at hl

/-- The region. -/
theorem wp_region_made {id : Nat} {Q : Exit → Act → World → Prop} {a : Act} {w : World} {l : List Oper} (n m : Nat) (S : List MadeSpec) (hm : P.follows .mixedOrders = true)
    (hB : freshB l.toArray n m (S.map fun s => s.al.isSome) (S.map fun s => s.rd.map (·.1)) = true) (hM : madeB l.toArray n (S.map fun s => s.rm.map fun p => (p.1, p.2.1)) = true) (hsz : a.tmps.size = m)
    (hmk : madeMk S S) (hob : madeObl P w (l.take n) S) (hrd : madeReads (headPut a (l.take n) (madeV S) 0) S)
    (hend : madeEnd P l.toArray Q (l.drop n) w (l.take n) S a []) : (Code.region id l.toArray true).wp P Q a w := by
  have hB0 := hB
  unfold freshB at hB0
  simp only [Bool.and_eq_true, decide_eq_true_eq] at hB0
  obtain ⟨⟨⟨⟨⟨⟨hn, _⟩, _⟩, hops⟩, hrds⟩, hlen⟩, _⟩ := hB0
  have hn' : n < l.length := by simpa using hn
  have htl : (l.take n).length = n := by simp; omega
  obtain ⟨hSl, hget⟩ := madeObl_get hob
  rw [htl] at hSl
  have hopi : ∀ i, i < n → ∃ o d, l.toArray[i]? = some o ∧ o.guard = none ∧ o.dst = some d ∧ dstOf l.toArray i = some d ∧ d < a.tmps.size ∧ ∀ j, j < n → j ≠ i → dstOf l.toArray j ≠ some d := fun i hi => by
    have hop := List.all_eq_true.1 hops i (List.mem_range.2 hi)
    unfold headOpB at hop
    have hio : l.toArray[i]? = some l.toArray[i] := Array.getElem?_eq_getElem (by simpa using Nat.lt_trans hi hn')
    rw [hio] at hop
    simp only [Bool.and_eq_true] at hop
    obtain ⟨⟨hg, _⟩, hd⟩ := hop
    cases hdd : l.toArray[i].dst with
    | none => rw [hdd] at hd; cases hd
    | some d =>
      rw [hdd] at hd
      simp only [Bool.and_eq_true, decide_eq_true_eq] at hd
      refine ⟨_, d, hio, by simpa using hg, hdd, by rw [dstOf, hio]; exact hdd, by rw [hsz]; exact hd.1, fun j hj hji e => ?_⟩
      have := List.all_eq_true.1 hd.2 j (List.mem_range.2 hj)
      simp only [Bool.or_eq_true, beq_iff_eq, bne_iff_ne] at this
      rcases this with h | h
      · exact hji h
      · exact h e
  have hfr0 : FrameIs l.toArray n a (madeV S) (Array.replicate l.toArray.size false) a := ⟨rfl, rfl, fun j d _ h _ => (by rw [Go.getD_replicate_false] at h; cases h), fun _ _ => rfl⟩
  obtain ⟨lF, hlF, hF⟩ := headPut_is (ops := l.toArray) (n := n) (a0 := a) (vs := madeV S) (fun i hi => by obtain ⟨o, d, _, _, _, h1, h2, h3⟩ := hopi i hi; exact ⟨d, h1, h2, h3⟩)
    (l.take n) 0 (Array.replicate l.toArray.size false) a (by omega) (fun j hj => by rw [htl] at hj; simp [List.getElem?_take, hj]) (by simp; omega) (fun i hi => by rw [Go.getD_replicate_false]; simp) hfr0
  refine wp_region_inv n m _ _ hm hB (fun listed a' w' => listed.size = l.toArray.size ∧ ∃ vs : Nat → Value, FrameIs l.toArray n a vs listed a' ∧ Below w.heap.size w w' ∧
      (∀ (i : Nat) (s : MadeSpec), i < n → listed.getD i false = true → S[i]? = some s → madeAt w w' s (vs i)) ∧
      (∀ (i j : Nat) (s t : MadeSpec), i < n → j < n → listed.getD i false = true → listed.getD j false = true → S[i]? = some s → S[j]? = some t → i ≠ j → s.al.isSome = true → t.al.isSome = true → blkOf (vs i) ≠ blkOf (vs j))) ?_ ?_ ?_
  · refine ⟨by simp, madeV S, hfr0, ⟨rfl, rfl, rfl, Nat.le_refl _, fun _ _ => rfl⟩, fun i s _ h => (by rw [Go.getD_replicate_false] at h; cases h), fun i j s t _ _ h => (by rw [Go.getD_replicate_false] at h; cases h)⟩
  · intro i hi listed a' w' hr inv hJ
    obtain ⟨hls, vs, hf, hb, hsp, hdi⟩ := hJ
    obtain ⟨o, d, ho, hg, hod, hd, hdm, hne⟩ := hopi i hi
    have hu : listed.getD i false = false := Go.getD_both (mem_ready.1 hr).1
    have hil : i < listed.size := by rw [hls]; omega
    obtain ⟨s, hs⟩ : ∃ s, S[i]? = some s := ⟨S[i]'(by omega), List.getElem?_eq_getElem (by omega)⟩
    have hobl := hget i o s (by simpa [List.getElem?_take, hi] using ho) hs
    have hwaits : ∀ j, j < n → Region.waitsFor .any l.toArray i j = true → listed.getD j false = true := fun j hj hw1 => by
      obtain ⟨oj, hoj, e, he, hbi, heq⟩ := Region.waitsFor_spec hw1
      rw [ho] at hoj; cases hoj
      obtain ⟨_, o2, ho2, hall⟩ := mem_ready.1 hr
      rw [ho] at ho2; cases ho2
      rw [← heq]; exact hall e he hbi
    have hreads : ∀ p ∈ s.rd, a'.tmps.getD p.1 undef = p.2 := fun p hp => by
      have hR := List.all_eq_true.1 hrds i (List.mem_range.2 hi)
      unfold headRdB at hR
      have hpi : p.1 ∈ (S.map fun s => s.rd.map (·.1)).getD i [] := by
        simp only [List.getD_eq_getElem?_getD, List.getElem?_map, hs, Option.map_some, Option.getD_some]
        exact List.mem_map.2 ⟨p, hp, rfl⟩
      have hR2 := List.all_eq_true.1 hR p.1 hpi
      rw [← madeReads_get hrd i s hs p hp]
      by_cases hx : ∃ j, j < n ∧ dstOf l.toArray j = some p.1
      · obtain ⟨j, hj, hdj⟩ := hx
        have hR3 := List.all_eq_true.1 hR2 j (List.mem_range.2 hj)
        simp only [hdj, bne_self_eq_false, Bool.false_or, Bool.and_eq_true] at hR3
        obtain ⟨hw1, hw2⟩ := hR3
        have hlj := hwaits j hj hw1
        obtain ⟨t, ht⟩ : ∃ t, S[j]? = some t := ⟨S[j]'(by omega), List.getElem?_eq_getElem (by omega)⟩
        have hta : t.al = none := by
          simp only [List.getD_eq_getElem?_getD, List.getElem?_map, ht, Option.map_some, Option.getD_some, Bool.not_eq_true'] at hw2
          simpa using hw2
        rw [hf.put j p.1 hj hlj hdj, hF.put j p.1 hj (hlF j hj) hdj]
        have := hsp j t hj hlj ht
        unfold madeAt at this
        simp only [hta] at this
        rw [this, madeV, ht]; rfl
      · rw [hf.old p.1 fun j hj _ e => hx ⟨j, hj, e⟩, hF.old p.1 fun j hj _ e => hx ⟨j, hj, e⟩]
    have hmades : ∀ p ∈ s.rm, ∃ g : Nat, a'.tmps.getD p.2.1 undef = p.2.2.2 g ∧ w'.heap[g]? = some p.2.2.1 := fun p hp => by
      have hR := List.all_eq_true.1 hM i (List.mem_range.2 hi)
      have hpi : (p.1, p.2.1) ∈ (S.map fun s => s.rm.map fun p => (p.1, p.2.1)).getD i [] := by
        simp only [List.getD_eq_getElem?_getD, List.getElem?_map, hs, Option.map_some, Option.getD_some]
        exact List.mem_map.2 ⟨p, hp, rfl⟩
      have hR2 := List.all_eq_true.1 hR (p.1, p.2.1) hpi
      simp only [Bool.and_eq_true, decide_eq_true_eq, beq_iff_eq] at hR2
      obtain ⟨⟨hj, hdj⟩, hw1⟩ := hR2
      have hlj := hwaits p.1 hj hw1
      obtain ⟨t, ht⟩ : ∃ t, S[p.1]? = some t := ⟨S[p.1]'(by omega), List.getElem?_eq_getElem (by omega)⟩
      have hta := madeMk_get hmk i s hs p hp
      rw [ht] at hta
      simp only [Option.bind_some] at hta
      have := hsp p.1 t hj hlj ht
      unfold madeAt at this
      simp only [hta] at this
      obtain ⟨g, h1, _, _, h4⟩ := this
      exact ⟨g, by rw [hf.put p.1 p.2.1 hj hlj hdj, h1], h4⟩
    unfold wpOp
    simp only [ho]
    have hw : Region.wanted o (yielded l.toArray a'.tmps) = true := by simp [Region.wanted, hg]
    rw [if_pos hw]
    refine .inl ?_
    unfold madeSpecObl at hobl
    cases hal : s.al with
    | none =>
      simp only [hal] at hobl
      refine wp_of_sQuiet (hobl a' w' hb hreads hmades) fun w'' hb2 => ?_
      rw [hod]
      refine ⟨by simpa using hls, _, hf.step hi hil hu hd hdm hne s.v, hb.trans (hb2.mono hb.size), fun j t hj hlj ht => ?_, fun j k t u hj hk hlj hlk ht hu' hjk hta hua => ?_⟩
      · by_cases hji : j = i
        · subst hji; rw [hs] at ht; cases ht; unfold madeAt; simp [hal]
        · simp only [if_neg hji]
          rw [getD_set_not _ _ _ (Ne.symm hji)] at hlj
          exact (hsp j t hj hlj ht).keep hb2
      · have hji : j ≠ i := fun e => by subst e; rw [hs] at ht; cases ht; simp [hal] at hta
        have hki : k ≠ i := fun e => by subst e; rw [hs] at hu'; cases hu'; simp [hal] at hua
        simp only [if_neg hji, if_neg hki]
        rw [getD_set_not _ _ _ (Ne.symm hji)] at hlj
        rw [getD_set_not _ _ _ (Ne.symm hki)] at hlk
        exact hdi j k t u hj hk hlj hlk ht hu' hjk hta hua
    | some om =>
      obtain ⟨ob, mk⟩ := om
      simp only [hal] at hobl
      obtain ⟨hbk, hrun⟩ := hobl
      unfold Oper.wp
      rw [hrun a' w' hb hreads]
      simp only [Oper.upon]
      rw [hod]
      have hb2 := below_new w' ob
      have hkey : ∀ j t, j < n → listed.getD j false = true → S[j]? = some t → t.al.isSome = true → blkOf (vs j) ≠ some w'.heap.size := fun j t hj hlj ht hta e => by
        have := hsp j t hj hlj ht
        unfold madeAt at this
        cases hta' : t.al with
        | none => simp [hta'] at hta
        | some om' =>
          obtain ⟨ob', mk'⟩ := om'
          simp only [hta'] at this
          obtain ⟨g, h1, h2, _, h3⟩ := this
          rw [e] at h2
          have : w'.heap.size = g := by simpa using h2
          have := blk_lt h3
          omega
      refine ⟨by simpa using hls, _, hf.step hi hil hu hd hdm hne (mk w'.heap.size), hb.trans (hb2.mono hb.size), fun j t hj hlj ht => ?_, fun j k t u hj hk hlj hlk ht hu' hjk hta hua => ?_⟩
      · by_cases hji : j = i
        · subst hji; rw [hs] at ht; cases ht; unfold madeAt; simp only [hal]; exact ⟨w'.heap.size, by simp, by simp [hbk], hb.size, blk_new w' ob⟩
        · simp only [if_neg hji]
          rw [getD_set_not _ _ _ (Ne.symm hji)] at hlj
          exact (hsp j t hj hlj ht).keep hb2
      · by_cases hji : j = i
        · subst hji
          have hkj : k ≠ j := Ne.symm hjk
          simp only [if_pos, if_neg hkj, hbk]
          rw [getD_set_not _ _ _ (Ne.symm hkj)] at hlk
          exact fun e => hkey k u hk hlk hu' hua e.symm
        · rw [getD_set_not _ _ _ (Ne.symm hji)] at hlj
          by_cases hki : k = i
          · subst hki
            simp only [if_pos, if_neg hji, hbk]
            exact hkey j t hj hlj ht hta
          · simp only [if_neg hji, if_neg hki]
            rw [getD_set_not _ _ _ (Ne.symm hki)] at hlk
            exact hdi j k t u hj hk hlj hlk ht hu' hjk hta hua
  · intro listed a' w' hall hJ
    obtain ⟨hls, vs, hf, hb, hsp, hdi⟩ := hJ
    have hfr1 : FrameIs l.toArray n a vs (Array.replicate l.toArray.size false) a := ⟨rfl, rfl, fun j d _ h _ => (by rw [Go.getD_replicate_false] at h; cases h), fun _ _ => rfl⟩
    obtain ⟨lV, hlV, hV⟩ := headPut_is (ops := l.toArray) (n := n) (a0 := a) (vs := vs) (fun i hi => by obtain ⟨o, d, _, _, _, h1, h2, h3⟩ := hopi i hi; exact ⟨d, h1, h2, h3⟩)
      (l.take n) 0 (Array.replicate l.toArray.size false) a (by omega) (fun j hj => by rw [htl] at hj; simp [List.getElem?_take, hj]) (by simp; omega) (fun i hi => by rw [Go.getD_replicate_false]; simp) hfr1
    rw [hf.eq hV hall hlV]
    have hin : ∀ (i : Nat) (s : MadeSpec), S[i]? = some s → i < n := fun i s h => by have := (List.getElem?_eq_some_iff.1 h).1; omega
    refine madeEnd_use hb (l.take n) S a [] 0 (by omega) (fun i s hs => ?_) (fun _ _ _ _ p hp => by simp at hp) (fun i j s t hs ht hij hsa hta => ?_) (fun p hp => by simp at hp) hend
    · rw [Nat.zero_add]; exact hsp i s (hin i s hs) (hall i (hin i s hs)) hs
    · rw [Nat.zero_add, Nat.zero_add]; exact hdi i j s t (hin i s hs) (hin j t ht) (hall i (hin i s hs)) (hall j (hin j t ht)) hs ht hij hsa hta
end
end Go.Proofs.YtoejkiblampecaaDoor
