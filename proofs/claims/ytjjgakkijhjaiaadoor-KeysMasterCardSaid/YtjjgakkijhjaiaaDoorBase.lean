/- Small laws on worlds that the walks of this seat share: blocks behind new blocks, and a region that draws its order, reads, and calls what makes memory; A region that draws its order: a head whose operations only read and whose callees change nothing that was there, and a tail (stores, appends) in one forced order. One walk of the text's order serves every order; A region that draws its order: a head whose operations only read and whose callees change nothing that was there, and a tail (stores, appends) in one forced order. One walk of the text's order serves every order; Rows of bytes in memory, and the string that is made of one; A slice of one-cell elements that the call has made, told by its cells, and append to it: one law for nil, for room and for growth; Append to a slice of the call's own, with what is known of the new slice's block: the old one's, or one behind all others; Arrays of bytes in memory and by value: one element, a part, the whole; bytes of a number laid into them; A part of a row of bytes as a value of its own: loaded, stored, and taken out of a value (arrays of arrays); A region that draws its order, whose head reads, calls what changes nothing that was there, and makes new blocks at places that the order picks; and a tail (stores) in one forced order. One walk serves every order: the new blocks' numbers are variables; A region that draws its order, whose head makes new blocks at places that the order picks (pointers to them, or slices of them), and whose operations may read what is in them; as XFresh, with readers of new blocks; Arguments: an array of integers, of whatever length; A region that draws its order: a head that reads and calls what changes nothing that was there, then two components of the call's tuple, then a tail in one forced order ('a[i], c = f(..)': the second component is not waited for by the store, so it may come behind it). One walk of the text's order serves every order; 'return x, y' of two whole rows: two loads and two stores in whatever order is drawn; What the obligations of a region say of the slots that they read; steps of worlds in few words. -/
import Derived.Test.YtjjgakkijhjaiaaDoorRows
import Derived.WalkKit
import Derived.WalkSpells
import Derived.WalkLawsBesides
import Derived.Deep.QuietTactic
import Derived.BigQuiet
import Derived.Lib.QuietBelow
import Derived.Lib.Hide
import Derived.Deep.RegionHeld3
import Derived.Deep.WholeRow
import Derived.Laws.Rows
import Derived.Lib.Strings
import Derived.Laws.CopyOwn
import Derived.StillTail
import Derived.BigFrame
import Derived.Lib.BufferWrite
import Derived.Lib.UnsafeStr
import Derived.Laws.MakeOwn
import Derived.Lib.AppendStr
import Derived.Laws.BytesString
import Derived.ArgAppend
import Derived.Lib.ConvBytes
import Derived.Laws.Tables
import Derived.Laws.ResultCell
import Derived.ProofKit
import Derived.OpenShut
import Derived.Lib.SmallJoins
namespace Go.Proofs.YtjjgakkijhjaiaaDoor
section
open Go.RowKit Go.Sort
set_option maxRecDepth 100000
set_option linter.unusedSimpArgs false
set_option linter.unusedVariables false

theorem blk_new (w : World) (o : Obj) : (w.alloc o).heap[w.heap.size]? = some o := by
  show (w.heap.push o)[w.heap.size]? = some o
  simp
theorem blk_old {w : World} {o x : Obj} {i : Nat} (h : w.heap[i]? = some x) : (w.alloc o).heap[i]? = some x := by
  have hi : i < w.heap.size := by
    rcases Nat.lt_or_ge i w.heap.size with h' | h'
    · exact h'
    · rw [Array.getElem?_eq_none h'] at h; cases h
  show (w.heap.push o)[i]? = some x
  rw [Array.getElem?_push, if_neg (Nat.ne_of_lt hi)]
  exact h
theorem blk_lt {W : World} {b : Nat} {o : Obj} (h : W.heap[b]? = some o) : b < W.heap.size := by
  rcases Nat.lt_or_ge b W.heap.size with h' | h'
  · exact h'
  · rw [Array.getElem?_eq_none h'] at h; cases h
theorem blk_below {W W' : World} {b B : Nat} {o : Obj} (hb : Below B W W') (hlt : b < B) (h : W.heap[b]? = some o) : W'.heap[b]? = some o := (hb.block b hlt).trans h
theorem blk_new2 (w : World) (P R : Obj) : ((w.alloc P).alloc R).heap[w.heap.size + 1]? = some R := by
  have := blk_new (w.alloc P) R
  simpa using this
theorem blk_new3 (w : World) (P R A : Obj) : (((w.alloc P).alloc R).alloc A).heap[w.heap.size + 1 + 1]? = some A := by
  have := blk_new ((w.alloc P).alloc R) A
  simpa using this
theorem below_new (w : World) (P : Obj) : Below w.heap.size w (w.alloc P) := (Below.refl _ _).alloc (Nat.le_refl _) _
theorem below_new2 (w : World) (P R : Obj) : Below w.heap.size w ((w.alloc P).alloc R) := (below_new w P).alloc (by simp) _
theorem below_new3 (w : World) (P R A : Obj) : Below w.heap.size w (((w.alloc P).alloc R).alloc A) := (below_new2 w P R).alloc (by simp; omega) _

/-- A region that draws, whose operations only read, and whose callees change nothing that was there: behind it, any such world. -/
theorem wp_region_reads {P : Program} {id : Nat} {Q : Exit → Act → World → Prop} {a : Act} {w : World} {l : List Oper} (hm : P.follows .mixedOrders = true) (hB : Region.lexB .any l.toArray = true)
    (h : wpQuiet P l.toArray (fun w' => ∃ p : Regrown, w' = grow (redrawn w p.d) p.os) (fun a' => ∀ w', Below w.heap.size w w' → Q .normal a' w') l a) : (Code.region id l.toArray true).wp P Q a w := by
  refine wp_region_quiet (C := fun w' => ∃ p : Regrown, w' = grow (redrawn w p.d) p.os) hm hB ⟨⟨w.drawn + 1, #[]⟩, by rw [grow_empty]; rfl⟩ ?_
  have e : (fun a' => ∀ w', Below w.heap.size w w' → Q .normal a' w') = (fun a' => ∀ w', (∃ p : Regrown, w' = grow (redrawn w p.d) p.os) → Q .normal a' w') := by
    funext a'
    refine propext ⟨fun h w' ⟨p, hp⟩ => h w' (hp ▸ below_regrown w p.d p.os), fun h w' hb => h w' (regrown_of_below hb)⟩
  rw [← e]
  simpa using h
end

section
open Go.RowKit Go.Sort
set_option maxRecDepth 100000
set_option linter.unusedSimpArgs false
set_option linter.unusedVariables false

section
variable {P : Program} {ops : Array Oper} {md : Region.Mode} {C : World → Prop}

/-- The head's operations in whatever order, each quiet in the class; then L. -/
def headAny (P : Program) (md : Region.Mode) (ops : Array Oper) (C : World → Prop) (n : Nat) (L : Array Bool → Act → Prop) : Nat → Array Bool → Act → Prop
  | 0, listed, a => L listed a
  | f + 1, listed, a => Region.ready md ops listed ≠ [] ∧ ∀ i ∈ Region.ready md ops listed, i < n ∧ qOp P ops C i (headAny P md ops C n L f (listed.setIfInBounds i true)) a

theorem any_of_head {n g : Nat} {L : Array Bool → Act → Prop} {Q' : Exit → Act → World → Prop} (hL : ∀ listed a w, C w → L listed a → wpAny P md ops Q' g listed a w) :
    ∀ (f : Nat) (listed : Array Bool) (a : Act) (w : World), C w → headAny P md ops C n L f listed a → wpAny P md ops Q' (f + g) listed a w
  | 0, listed, a, w, hw, h => by rw [Nat.zero_add]; exact hL _ _ _ hw h
  | f + 1, listed, a, w, hw, h => by
    rw [show f + 1 + g = (f + g) + 1 by omega]
    exact ⟨fun h0 => absurd h0 h.1, fun i hi => wpOp_of_qOp hw (fun a' w' hw' h' => any_of_head hL f _ a' w' hw' h') (h.2 i hi).2⟩

theorem headAny_first {n i : Nat} {oi : Oper} {v : Value} {L : Array Bool → Act → Prop} (hi : ops[i]? = some oi) (hsel : ∀ (j : Nat) (o : Oper) cs b, ops[j]? = some o → o.op ≠ .select cs b)
    (hs : Region.sinkB md ops n = true) (hc : Region.chainB md ops n = true) (hn : n < ops.size) (hin : i < n)
    (hdone : ∀ listed a, L listed a → ∀ j ∈ Region.ready md ops listed, n ≤ j) :
    ∀ (f : Nat) (listed : Array Bool) (a : Act), HeadInv md ops n listed →
      (∀ j oj, ops[j]? = some oj → j ≠ i → listed.getD j true = false → (∀ e ∈ oj.after, Region.binds md e = true → e.on ≠ i) → oi.apart ops oj = true) →
      i ∈ Region.ready md ops listed → YieldsIn P ops C oi v a →
      headAny P md ops C n L f (listed.setIfInBounds i true) (a.put oi.dst v) → headAny P md ops C n L (f + 1) listed a := by
  intro f
  induction f with
  | zero =>
    intro listed a inv _ hr hy H
    have hun := (mem_ready.1 hr).1
    refine ⟨fun h => (by rw [h] at hr; cases hr), fun j hj => ?_⟩
    have hjn : j < n := Nat.lt_of_not_le fun h => absurd hj (tail_waits hs hc hn inv _ i rfl hin hun j h)
    refine ⟨hjn, ?_⟩
    by_cases hji : j = i
    · subst hji; exact hy.qOp hi H
    · have := hdone _ _ H j (ready_mono hj hji)
      omega
  | succ f ih =>
    intro listed a inv hfree hr hy H
    have hun := (mem_ready.1 hr).1
    refine ⟨fun h => (by rw [h] at hr; cases hr), fun j hj => ?_⟩
    have hjn : j < n := Nat.lt_of_not_le fun h => absurd hj (tail_waits hs hc hn inv _ i rfl hin hun j h)
    refine ⟨hjn, ?_⟩
    by_cases hji : j = i
    · subst hji; exact hy.qOp hi H
    · have h1 := (H.2 j (ready_mono hj hji)).2
      obtain ⟨hjun, oj, hoj, hall⟩ := mem_ready.1 hj
      have hnot : ∀ e ∈ oj.after, Region.binds md e = true → e.on ≠ i := fun e he hb heq => by
        have h1 := hall e he hb
        rw [heq, getD_both hun] at h1
        cases h1
      have h2 := qOp_put hoj (hfree j oj hoj hji hjun hnot) (fun cs b => hsel i oi cs b hi) (fun cs b => hsel j oj cs b hoj) hy h1
      refine qOp_mono (fun a' h3 => ih (listed.setIfInBounds j true) a' (inv.set hj hjn) (fun k ok hk hki hu hno => hfree k ok hk hki ?_ hno) (ready_mono hr (Ne.symm hji)) h3.1 ?_) h2
      · by_cases hjk : j = k
        · subst hjk; exact hjun
        · rwa [getD_set_ne true hjk] at hu
      · rw [Array.setIfInBounds_comm _ _ hji]
        exact h3.2

theorem headAny_lex {n g : Nat} {Lq : Act → Prop} (hsel : Region.noSelect ops = true) (hs : Region.sinkB md ops n = true) (hc : Region.chainB md ops n = true) (hn : n < ops.size) :
    ∀ (l : List Oper) (k : Nat) (listed : Array Bool) (a : Act), (∀ j, j < l.length → l[j]? = ops[k + j]?) → k + l.length = n → HeadInv md ops n listed →
    Region.lexHead md ops g l.length k listed = true → wpQuiet P ops C Lq l a →
    headAny P md ops C n (fun listed' a' => Region.seqB md ops g n listed' = true ∧ Lq a') l.length listed a
  | [], k, listed, a, _, hk, _, hB, h => by
    obtain rfl : k = n := by simpa using hk
    exact ⟨by simpa [Region.lexHead] using hB, h⟩
  | o :: l, k, listed, a, hl, hk, inv, hB, h => by
    have h0 : ops[k]? = some o := by simpa using (hl 0 (by simp)).symm
    simp only [List.length_cons, Region.lexHead, Bool.and_eq_true] at hB
    obtain ⟨⟨hr, hf⟩, hB'⟩ := hB
    have hkn : k < n := by simp only [List.length_cons] at hk; omega
    have hr' : k ∈ Region.ready md ops listed := by simpa using hr
    have hst : qOp P ops C k (wpQuiet P ops C Lq l) a := by unfold qOp; simp only [h0]; exact h
    obtain ⟨v, hy, hK⟩ := yieldsIn_of_qOp h0 hst
    exact headAny_first h0 (Region.noSelect_spec hsel) hs hc hn hkn (fun listed' a' hL => seqB_ready hL.1) l.length listed a inv (Region.free_spec h0 hf) hr' hy
      (headAny_lex hsel hs hc hn l (k + 1) _ _ (fun j hj => by have := hl (j + 1) (by simp; omega); simpa [Nat.add_assoc, Nat.add_comm 1 j] using this) (by simp only [List.length_cons] at hk; omega) (inv.set hr' hkn) hB' hK)

/-- The head (n operations) by one quiet walk; the tail from every world that the head may leave. -/
theorem wp_region_head_tail {id : Nat} {Q : Exit → Act → World → Prop} {a : Act} {w : World} {l : List Oper} (n : Nat) (hm : P.follows .mixedOrders = true) (hB : Region.lexTailB .any l.toArray n = true) (hC : C { w with drawn := w.drawn + 1 })
    (h : wpQuiet P l.toArray C (fun a' => ∀ w', C w' → wpList P l.toArray Q (l.drop n) a' w') (l.take n) a) : (Code.region id l.toArray true).wp P Q a w := by
  simp only [Region.lexTailB, Bool.and_eq_true, decide_eq_true_eq] at hB
  obtain ⟨⟨⟨⟨hsel, hn⟩, hs⟩, hc⟩, hlex⟩ := hB
  have hn' : n < l.length := by simpa using hn
  have htl : (l.take n).length = n := by simp; omega
  have hdl : (l.drop n).length = l.toArray.size - n := by simp
  have inv0 : HeadInv .any l.toArray n (Array.replicate l.toArray.size false) :=
    ⟨by simp, fun j oj _ hl => (by rw [getD_replicate_false] at hl; cases hl), fun t _ ht => getD_in (by simpa using ht) (getD_replicate_false _ _)⟩
  have H := headAny_lex (md := .any) (g := l.toArray.size - n) hsel hs hc hn (l.take n) 0 _ a (fun j hj => by
    have hj' : j < n := by rw [htl] at hj; exact hj
    simp [hj']) (by simpa using htl) inv0 (by rw [htl]; exact hlex) h
  refine wp_region_any hm ?_
  have := any_of_head (Q' := Q) (g := l.toArray.size - n) (fun listed a' w' hw' hL => by
    have := wpAny_of_seq (md := .any) (Q' := Q) (l.drop n) n listed a' w' (fun j => by simp [List.getElem?_drop]) (by rw [hdl]; exact hL.1) (hL.2 w' hw')
    rwa [hdl] at this) _ _ _ _ hC H
  rw [htl, show n + (l.toArray.size - n) = l.toArray.size by omega] at this
  exact this
end

/-- The same at the class 'nothing that was there has changed'. -/
theorem wp_region_reads_tail {P : Program} {id : Nat} {Q : Exit → Act → World → Prop} {a : Act} {w : World} {l : List Oper} (n : Nat) (hm : P.follows .mixedOrders = true) (hB : Region.lexTailB .any l.toArray n = true)
    (h : wpQuiet P l.toArray (fun w' => ∃ p : Regrown, w' = grow (redrawn w p.d) p.os) (fun a' => ∀ w', Below w.heap.size w w' → wpList P l.toArray Q (l.drop n) a' w') (l.take n) a) : (Code.region id l.toArray true).wp P Q a w := by
  refine wp_region_head_tail (C := fun w' => ∃ p : Regrown, w' = grow (redrawn w p.d) p.os) n hm hB ⟨⟨w.drawn + 1, #[]⟩, by rw [grow_empty]; rfl⟩ ?_
  have e : (fun a' => ∀ w', Below w.heap.size w w' → wpList P l.toArray Q (l.drop n) a' w') = (fun a' => ∀ w', (∃ p : Regrown, w' = grow (redrawn w p.d) p.os) → wpList P l.toArray Q (l.drop n) a' w') := by
    funext a'
    refine propext ⟨fun h w' ⟨p, hp⟩ => h w' (hp ▸ below_regrown w p.d p.os), fun h w' hb => h w' (regrown_of_below hb)⟩
  rw [← e]
  exact h
end

section
open Go.RowKit Go.Sort
set_option maxRecDepth 100000
set_option linter.unusedSimpArgs false
set_option linter.unusedVariables false

section
variable {P : Program} {ops : Array Oper} {md : Region.Mode} {C : World → Prop}

/-- Each operation of the head from m on is waited for by a later one, up to the tail's first. -/
def sinkFrom (m : Nat) (md : Region.Mode) (ops : Array Oper) (n : Nat) : Bool :=
  (List.range n).all fun i => decide (i < m) || (List.range (n + 1)).any fun j => decide (i < j) && Region.waitsFor md ops j i
theorem sinkFrom_zero {n : Nat} (h : Region.sinkB md ops n = true) : sinkFrom 0 md ops n = true := by
  unfold sinkFrom
  rw [List.all_eq_true]
  intro i hi
  have := List.all_eq_true.1 h i hi
  simp only [Bool.or_eq_true]
  exact .inr this
/-- While an operation of the head from m on is left, none of the tail may come up. -/
theorem tail_stays {m n : Nat} {listed : Array Bool} (hs : sinkFrom m md ops n = true) (hc : Region.chainB md ops n = true) (hn : n < ops.size) (inv : HeadInv md ops n listed) :
    ∀ (d i : Nat), n - i = d → m ≤ i → i < n → listed.getD i true = false → ∀ t, n ≤ t → t ∉ Region.ready md ops listed := by
  intro d
  induction d using Nat.strongRecOn with
  | _ d ih =>
    intro i hd hm hi hun t ht hr
    obtain ⟨_, ot, hot, hall⟩ := mem_ready.1 hr
    have htlt : t < ops.size := (Array.getElem?_eq_some_iff.1 hot).1
    by_cases htn : t = n
    · have h1 := List.all_eq_true.1 hs i (List.mem_range.2 hi)
      simp only [Bool.or_eq_true, decide_eq_true_eq] at h1
      rcases h1 with h1 | h1
      · omega
      · obtain ⟨j, hj, hj2⟩ := List.any_eq_true.1 h1
        simp only [Bool.and_eq_true, decide_eq_true_eq] at hj2
        obtain ⟨oj, hoj, e, he, hb, hon⟩ := Region.waitsFor_spec hj2.2
        have hjle : j ≤ n := by have := List.mem_range.1 hj; omega
        by_cases hjn : j = n
        · have : oj = ot := Option.some.inj (hoj.symm.trans (by rw [hjn, ← htn]; exact hot))
          rw [this] at he
          have h2 := hall e he hb
          rw [hon, getD_both hun] at h2
          cases h2
        · cases hl : listed.getD j false with
          | true =>
            have h2 := inv.closed j oj hoj hl e he hb
            rw [hon, getD_both hun] at h2
            cases h2
          | false =>
            have hjs : j < listed.size := by rw [inv.size]; omega
            exact ih (n - j) (by omega) j rfl (by omega) (by omega) (getD_in hjs hl) t ht hr
    · have h1 := List.all_eq_true.1 hc t (List.mem_range.2 htlt)
      simp only [Bool.or_eq_true, decide_eq_true_eq] at h1
      rcases h1 with h1 | h1
      · omega
      · obtain ⟨o', ho', e, he, hb, hon⟩ := Region.waitsFor_spec h1
        have : o' = ot := Option.some.inj (ho'.symm.trans hot)
        rw [this] at he
        have h2 := hall e he hb
        rw [hon, getD_both (inv.tail (t - 1) (by omega) (by omega))] at h2
        cases h2

/-- The head's operations in whatever order, each quiet in the class; then L. -/
def mheadAny (P : Program) (md : Region.Mode) (ops : Array Oper) (C : World → Prop) (n : Nat) (L : Array Bool → Act → Prop) : Nat → Array Bool → Act → Prop
  | 0, listed, a => L listed a
  | f + 1, listed, a => Region.ready md ops listed ≠ [] ∧ ∀ i ∈ Region.ready md ops listed, i < n ∧ qOp P ops C i (mheadAny P md ops C n L f (listed.setIfInBounds i true)) a

theorem any_of_mhead {n g : Nat} {L : Array Bool → Act → Prop} {Q' : Exit → Act → World → Prop} (hL : ∀ listed a w, C w → L listed a → wpAny P md ops Q' g listed a w) :
    ∀ (f : Nat) (listed : Array Bool) (a : Act) (w : World), C w → mheadAny P md ops C n L f listed a → wpAny P md ops Q' (f + g) listed a w
  | 0, listed, a, w, hw, h => by rw [Nat.zero_add]; exact hL _ _ _ hw h
  | f + 1, listed, a, w, hw, h => by
    rw [show f + 1 + g = (f + g) + 1 by omega]
    exact ⟨fun h0 => absurd h0 h.1, fun i hi => wpOp_of_qOp hw (fun a' w' hw' h' => any_of_mhead hL f _ a' w' hw' h') (h.2 i hi).2⟩

theorem mheadAny_first {m n i : Nat} {oi : Oper} {v : Value} {L : Array Bool → Act → Prop} (hi : ops[i]? = some oi) (hsel : ∀ (j : Nat) (o : Oper) cs b, ops[j]? = some o → o.op ≠ .select cs b)
    (hs : sinkFrom m md ops n = true) (hc : Region.chainB md ops n = true) (hn : n < ops.size) (him : m ≤ i) (hin : i < n)
    (hdone : ∀ listed a, L listed a → ∀ j ∈ Region.ready md ops listed, n ≤ j) :
    ∀ (f : Nat) (listed : Array Bool) (a : Act), HeadInv md ops n listed →
      (∀ j oj, ops[j]? = some oj → j ≠ i → listed.getD j true = false → (∀ e ∈ oj.after, Region.binds md e = true → e.on ≠ i) → oi.apart ops oj = true) →
      i ∈ Region.ready md ops listed → YieldsIn P ops C oi v a →
      mheadAny P md ops C n L f (listed.setIfInBounds i true) (a.put oi.dst v) → mheadAny P md ops C n L (f + 1) listed a := by
  intro f
  induction f with
  | zero =>
    intro listed a inv _ hr hy H
    have hun := (mem_ready.1 hr).1
    refine ⟨fun h => (by rw [h] at hr; cases hr), fun j hj => ?_⟩
    have hjn : j < n := Nat.lt_of_not_le fun h => absurd hj (tail_stays hs hc hn inv _ i rfl him hin hun j h)
    refine ⟨hjn, ?_⟩
    by_cases hji : j = i
    · subst hji; exact hy.qOp hi H
    · have := hdone _ _ H j (ready_mono hj hji)
      omega
  | succ f ih =>
    intro listed a inv hfree hr hy H
    have hun := (mem_ready.1 hr).1
    refine ⟨fun h => (by rw [h] at hr; cases hr), fun j hj => ?_⟩
    have hjn : j < n := Nat.lt_of_not_le fun h => absurd hj (tail_stays hs hc hn inv _ i rfl him hin hun j h)
    refine ⟨hjn, ?_⟩
    by_cases hji : j = i
    · subst hji; exact hy.qOp hi H
    · have h1 := (H.2 j (ready_mono hj hji)).2
      obtain ⟨hjun, oj, hoj, hall⟩ := mem_ready.1 hj
      have hnot : ∀ e ∈ oj.after, Region.binds md e = true → e.on ≠ i := fun e he hb heq => by
        have h1 := hall e he hb
        rw [heq, getD_both hun] at h1
        cases h1
      have h2 := qOp_put hoj (hfree j oj hoj hji hjun hnot) (fun cs b => hsel i oi cs b hi) (fun cs b => hsel j oj cs b hoj) hy h1
      refine qOp_mono (fun a' h3 => ih (listed.setIfInBounds j true) a' (inv.set hj hjn) (fun k ok hk hki hu hno => hfree k ok hk hki ?_ hno) (ready_mono hr (Ne.symm hji)) h3.1 ?_) h2
      · by_cases hjk : j = k
        · subst hjk; exact hjun
        · rwa [getD_set_ne true hjk] at hu
      · rw [Array.setIfInBounds_comm _ _ hji]
        exact h3.2

theorem mheadAny_lex {m n g : Nat} {Lq : Act → Prop} (hsel : Region.noSelect ops = true) (hs : sinkFrom m md ops n = true) (hc : Region.chainB md ops n = true) (hn : n < ops.size) :
    ∀ (l : List Oper) (k : Nat) (listed : Array Bool) (a : Act), m ≤ k → (∀ j, j < l.length → l[j]? = ops[k + j]?) → k + l.length = n → HeadInv md ops n listed →
    Region.lexHead md ops g l.length k listed = true → wpQuiet P ops C Lq l a →
    mheadAny P md ops C n (fun listed' a' => Region.seqB md ops g n listed' = true ∧ Lq a') l.length listed a
  | [], k, listed, a, _, _, hk, _, hB, h => by
    obtain rfl : k = n := by simpa using hk
    exact ⟨by simpa [Region.lexHead] using hB, h⟩
  | o :: l, k, listed, a, hmk, hl, hk, inv, hB, h => by
    have h0 : ops[k]? = some o := by simpa using (hl 0 (by simp)).symm
    simp only [List.length_cons, Region.lexHead, Bool.and_eq_true] at hB
    obtain ⟨⟨hr, hf⟩, hB'⟩ := hB
    have hkn : k < n := by simp only [List.length_cons] at hk; omega
    have hr' : k ∈ Region.ready md ops listed := by simpa using hr
    have hst : qOp P ops C k (wpQuiet P ops C Lq l) a := by unfold qOp; simp only [h0]; exact h
    obtain ⟨v, hy, hK⟩ := yieldsIn_of_qOp h0 hst
    exact mheadAny_first h0 (Region.noSelect_spec hsel) hs hc hn hmk hkn (fun listed' a' hL => seqB_ready hL.1) l.length listed a inv (Region.free_spec h0 hf) hr' hy
      (mheadAny_lex hsel hs hc hn l (k + 1) _ _ (by omega) (fun j hj => by have := hl (j + 1) (by simp; omega); simpa [Nat.add_assoc, Nat.add_comm 1 j] using this) (by simp only [List.length_cons] at hk; omega) (inv.set hr' hkn) hB' hK)

/-- The head (n operations) by one quiet walk; the tail from every world that the head may leave. -/
theorem wp_region_mhead_tail {id : Nat} {Q : Exit → Act → World → Prop} {a : Act} {w : World} {l : List Oper} (n : Nat) (hm : P.follows .mixedOrders = true) (hB : Region.lexTailB .any l.toArray n = true) (hC : C { w with drawn := w.drawn + 1 })
    (h : wpQuiet P l.toArray C (fun a' => ∀ w', C w' → wpList P l.toArray Q (l.drop n) a' w') (l.take n) a) : (Code.region id l.toArray true).wp P Q a w := by
  simp only [Region.lexTailB, Bool.and_eq_true, decide_eq_true_eq] at hB
  obtain ⟨⟨⟨⟨hsel, hn⟩, hs⟩, hc⟩, hlex⟩ := hB
  have hn' : n < l.length := by simpa using hn
  have htl : (l.take n).length = n := by simp; omega
  have hdl : (l.drop n).length = l.toArray.size - n := by simp
  have inv0 : HeadInv .any l.toArray n (Array.replicate l.toArray.size false) :=
    ⟨by simp, fun j oj _ hl => (by rw [getD_replicate_false] at hl; cases hl), fun t _ ht => getD_in (by simpa using ht) (getD_replicate_false _ _)⟩
  have H := mheadAny_lex (m := 0) (md := .any) (g := l.toArray.size - n) hsel (sinkFrom_zero hs) hc hn (l.take n) 0 _ a (Nat.le_refl _) (fun j hj => by
    have hj' : j < n := by rw [htl] at hj; exact hj
    simp [hj']) (by simpa using htl) inv0 (by rw [htl]; exact hlex) h
  refine wp_region_any hm ?_
  have := any_of_mhead (Q' := Q) (g := l.toArray.size - n) (fun listed a' w' hw' hL => by
    have := wpAny_of_seq (md := .any) (Q' := Q) (l.drop n) n listed a' w' (fun j => by simp [List.getElem?_drop]) (by rw [hdl]; exact hL.1) (hL.2 w' hw')
    rwa [hdl] at this) _ _ _ _ hC H
  rw [htl, show n + (l.toArray.size - n) = l.toArray.size by omega] at this
  exact this

/-- The same for a region whose first operation is a move that the tail alone waits for: it may be taken first. -/
def lexMoveB (ops : Array Oper) (n : Nat) : Bool :=
  Region.noSelect ops && decide (n < ops.size) && decide (0 < n) && sinkFrom 1 .any ops n && Region.chainB .any ops n && Region.free .any ops (Array.replicate ops.size false) 0 && (Region.ready .any ops (Array.replicate ops.size false)).contains 0 &&
    Region.lexHead .any ops (ops.size - n) (n - 1) 1 ((Array.replicate ops.size false).setIfInBounds 0 true)
theorem wp_region_move_tail {id : Nat} {Q : Exit → Act → World → Prop} {a : Act} {w : World} {o : Oper} {l : List Oper} (n : Nat) (x : Operand) (ho : o.op = .move x) (hg : o.guard = none) (ha : o.after = #[]) (hm : P.follows .mixedOrders = true) (hB : lexMoveB (o :: l).toArray n = true) (hC : C { w with drawn := w.drawn + 1 })
    (hQ : ∀ c a w, Q (.panic c) (a.put o.dst (Act.eval a x)) w → Q (.panic c) a w) (hQ' : ∀ c (a : Act) v w, Q (.panic c) (a.put o.dst v) w → Q (.panic c) a w)
    (h : wpQuiet P (o :: l).toArray C (fun a' => ∀ w', C w' → wpList P (o :: l).toArray Q (l.drop (n - 1)) a' w') (l.take (n - 1)) (a.put o.dst (a.eval x))) : (Code.region id (o :: l).toArray true).wp P Q a w := by
  simp only [lexMoveB, Bool.and_eq_true, decide_eq_true_eq] at hB
  obtain ⟨⟨⟨⟨⟨⟨⟨hsel, hn⟩, hn0⟩, hs⟩, hc⟩, hf⟩, hr⟩, hlex⟩ := hB
  have hn' : n < l.length + 1 := by simpa using hn
  have htl : (l.take (n - 1)).length = n - 1 := by simp; omega
  have hdl : (l.drop (n - 1)).length = (o :: l).toArray.size - n := by simp; omega
  have h0 : (o :: l).toArray[0]? = some o := by simp
  have inv0 : HeadInv .any (o :: l).toArray n ((Array.replicate (o :: l).toArray.size false).setIfInBounds 0 true) := by
    refine ⟨by simp, fun j oj hj hl e he hb => ?_, fun t ht ht' => ?_⟩
    · by_cases hj0 : 0 = j
      · subst hj0
        have : oj = o := Option.some.inj (hj.symm.trans h0)
        subst this
        rw [ha] at he
        simp at he
      · rw [getD_set_ne false hj0, getD_replicate_false] at hl; cases hl
    · rw [getD_set_ne true (by omega)]
      exact getD_in (by simpa using ht') (getD_replicate_false _ _)
  have H := mheadAny_lex (m := 1) (md := .any) (g := (o :: l).toArray.size - n) hsel hs hc hn (l.take (n - 1)) 1 _ (a.put o.dst (a.eval x)) (Nat.le_refl _) (fun j hj => by
    have hj' : j < n - 1 := by rw [htl] at hj; exact hj
    rw [List.getElem?_take, if_pos hj']
    simp [Nat.add_comm 1 j]) (by rw [htl]; omega) inv0 (by rw [htl]; exact hlex) h
  refine wp_region_any hm ?_
  have hsz : (o :: l).toArray.size = (n - 1 + ((o :: l).toArray.size - n)) + 1 := by omega
  rw [hsz]
  refine wpAny_take h0 hsel ?_ ?_ (fun c a w hh => hQ' c a _ w hh) (v := a.eval x) (.inl ⟨by simp [Region.wanted, hg], fun w => BigFrame.run_move x ho w⟩) ?_
  · rw [← hsz]; exact hf
  · rw [← hsz]; exact hr
  · have := any_of_mhead (Q' := Q) (g := (o :: l).toArray.size - n) (fun listed a' w' hw' hL => by
      have := wpAny_of_seq (md := .any) (Q' := Q) (l.drop (n - 1)) n listed a' w' (fun j => by
        rw [List.getElem?_drop]
        have : n + j = (n - 1 + j) + 1 := by omega
        rw [this]; simp) (by rw [hdl]; exact hL.1) (hL.2 w' hw')
      rwa [hdl] at this) _ _ _ _ hC H
    rw [htl] at this
    rw [← hsz]
    exact this
end

/-- The same, a move taken first. -/
theorem wp_region_moves_tail {P : Program} {id : Nat} {Q : Exit → Act → World → Prop} {a : Act} {w : World} {o : Oper} {l : List Oper} (n : Nat) (x : Operand) (ho : o.op = .move x) (hg : o.guard = none) (ha : o.after = #[]) (hm : P.follows .mixedOrders = true) (hB : lexMoveB (o :: l).toArray n = true)
    (hQ : ∀ c (a : Act) v w, Q (.panic c) (a.put o.dst v) w → Q (.panic c) a w)
    (h : wpQuiet P (o :: l).toArray (fun w' => ∃ p : Regrown, w' = grow (redrawn w p.d) p.os) (fun a' => ∀ w', Below w.heap.size w w' → wpList P (o :: l).toArray Q (l.drop (n - 1)) a' w') (l.take (n - 1)) (a.put o.dst (a.eval x))) : (Code.region id (o :: l).toArray true).wp P Q a w := by
  refine wp_region_move_tail (C := fun w' => ∃ p : Regrown, w' = grow (redrawn w p.d) p.os) n x ho hg ha hm hB ⟨⟨w.drawn + 1, #[]⟩, by rw [grow_empty]; rfl⟩ (fun c a w => hQ c a _ w) hQ ?_
  have e : (fun a' => ∀ w', Below w.heap.size w w' → wpList P (o :: l).toArray Q (l.drop (n - 1)) a' w') = (fun a' => ∀ w', (∃ p : Regrown, w' = grow (redrawn w p.d) p.os) → wpList P (o :: l).toArray Q (l.drop (n - 1)) a' w') := by
    funext a'
    refine propext ⟨fun h w' ⟨p, hp⟩ => h w' (hp ▸ below_regrown w p.d p.os), fun h w' hb => h w' (regrown_of_below hb)⟩
  rw [← e]
  exact h
end

section
open Go.RowKit Go.Sort
set_option maxRecDepth 100000
set_option linter.unusedSimpArgs false
set_option linter.unusedVariables false

theorem info_u8 : (Tryd.prog.info? 5).map (fun i => (i.zero, i.size, i.bytes)) = some (some (.int .u8 0), 1, 1) := by kernel_rfl

/-- The cells of bytes. -/
def bcells (l : List UInt8) : Array Value := (Lib.byteCells l).toArray
theorem bcells_size (l : List UInt8) : (bcells l).size = l.length := by simp [bcells, Lib.byteCells]
theorem bcells_get (l : List UInt8) (j : Nat) (x : UInt8) (h : l[j]? = some x) : (bcells l)[j]? = some (.int .u8 x.toNat) := by simp [bcells, Lib.byteCells, h]
theorem bcells_set (l : List UInt8) (j : Nat) (x : UInt8) : (bcells l).setIfInBounds j (.int .u8 x.toNat) = bcells (l.set j x) := by simp [bcells, Lib.byteCells, List.map_set]
theorem made_zero (n : Nat) : madeCells (Value.int .u8 0).cells n = bcells (List.replicate n 0) := by
  apply Array.ext_getElem?
  intro i
  by_cases h : i < n
  · simp [madeCells, bcells, Lib.byteCells, Value.cells, h, Nat.mod_one]
  · simp [madeCells, bcells, Lib.byteCells, Value.cells, h]
theorem pushes (ns : List UInt8) : ∀ s : ByteArray, (ns.map (fun b => (b.toNat : Int))).foldl (fun r n => r.push (UInt8.ofNat n.toNat)) s = ⟨s.data ++ ns.toArray⟩ := by
  induction ns with
  | nil => intro s; simp
  | cons a r ih =>
    intro s
    rw [List.map_cons, List.foldl_cons, ih]
    have : UInt8.ofNat ((a.toNat : Int)).toNat = a := by simp
    rw [this]
    apply ByteArray.ext
    simp [ByteArray.push]
theorem loads_bytes (w : World) (g : Nat) (l : List UInt8) (h : ∀ j x, l[j]? = some x → w.cell? ⟨g, j, none⟩ = some (.int .u8 x.toNat)) :
    (loadCells ⟨g, 0, none⟩ l.length).run Tryd.prog w = .ok (bcells l) w := by
  have := run_loadCells_list (P := Tryd.prog) w ⟨g, 0, none⟩ (Lib.byteCells l) (fun j v hv => by
    have hadd : (⟨g, 0, none⟩ : Addr).add j = ⟨g, j, none⟩ := by unfold Addr.add; split <;> simp_all
    rw [hadd]
    simp only [Lib.byteCells, List.getElem?_map, Option.map_eq_some_iff] at hv
    obtain ⟨x, hx, rfl⟩ := hv
    exact h j x hx)
  rwa [Lib.byteCells_length] at this
/-- The string of a slice of bytes. -/
theorem run_string_row (w : World) (g cap : Nat) (l : List UInt8) (h : ∀ j x, l[j]? = some x → w.cell? ⟨g, j, none⟩ = some (.int .u8 x.toNat)) :
    (convert 38 9 (.slice (some ⟨g, 0, none⟩) l.length cap)).run Tryd.prog w = .ok (.string ⟨l.toArray⟩) w := by
  rw [run_convert_bytes_string w 38 9 5 _ _ _ Tryd.underlying38 Tryd.underlying5 Tryd.underlying9,
    run_bytesToString w ⟨g, 0, none⟩ l.length cap (l.map fun b => (b.toNat : Int)) (by rw [loads_bytes w g l h]; simp [bcells, Lib.byteCells]), pushes]
  simp
theorem cells_of_bcells {w : World} {g : Nat} {t : TypeId} {fr : Nat × Nat} {l : List UInt8} (h : w.heap[g]? = some (.cells (bcells l) t fr)) : ∀ j x, l[j]? = some x → w.cell? ⟨g, j, none⟩ = some (.int .u8 x.toNat) := fun j x hx => by
  rw [cell_of_row w g j _ t fr h]; exact bcells_get l j x hx

/-- So many bytes of a number, the greatest first. -/
def be : Nat → Nat → List UInt8
  | 0, _ => []
  | j + 1, x => UInt8.ofNat (x / 256 ^ j) :: be j x
theorem be_length (j x : Nat) : (be j x).length = j := by induction j with | zero => rfl | succ j ih => simp [be, ih]
theorem be_lead (x j : Nat) (h : x / 256 ^ j = 0) (d : Nat) : be (j + d) x = List.replicate d 0 ++ be j x := by
  induction d with
  | zero => simp
  | succ d ih =>
    have e : x / 256 ^ (j + d) = 0 := by
      rw [Nat.pow_add, ← Nat.div_div_eq_div_mul, h, Nat.zero_div]
    rw [← Nat.add_assoc, be, ih, e, List.replicate_succ]
    rfl
/-- Nothing that was there has changed, but for block b. -/
structure But (b : Nat) (w w' : World) : Prop where
  os : w'.os = w.os
  tape : w'.tape = w.tape
  output : w'.output = w.output
  size : w.heap.size ≤ w'.heap.size
  block : ∀ k, k < w.heap.size → k ≠ b → w'.heap[k]? = w.heap[k]?
theorem But.refl (b : Nat) (w : World) : But b w w := ⟨rfl, rfl, rfl, Nat.le_refl _, fun _ _ _ => rfl⟩
theorem But.trans {b : Nat} {u v w : World} (h : But b u v) (k : But b v w) : But b u w :=
  ⟨k.os.trans h.os, k.tape.trans h.tape, k.output.trans h.output, Nat.le_trans h.size k.size, fun i hi hb => (k.block i (Nat.lt_of_lt_of_le hi h.size) hb).trans (h.block i hi hb)⟩
theorem But.of_below {b : Nat} {w w' : World} (h : Below w.heap.size w w') : But b w w' := ⟨h.os, h.tape, h.output, h.size, fun k hk _ => h.block k hk⟩
theorem But.setCell (b : Nat) (w : World) (a : Addr) (v : Value) (h : a.block = b) : But b w (w.setCell a v) :=
  ⟨rfl, rfl, rfl, by simp [World.setCell], fun k _ hb => heap_setCell_other _ _ _ _ (fun e => hb (e.trans h))⟩
theorem But.setCells (b : Nat) : ∀ (vs : List Value) (o : Nat) (w : World), But b w (w.setCells b o vs)
  | [], _, w => But.refl b w
  | v :: r, o, w => (But.setCell b w ⟨b, o, none⟩ v rfl).trans (But.setCells b r (o + 1) _)
theorem But.below {b B : Nat} {w w' : World} (h : But b w w') (hb : B ≤ b) (hB : B ≤ w.heap.size) : Below B w w' :=
  ⟨h.os, h.tape, h.output, h.size, fun k hk => h.block k (by omega) (by omega)⟩

/-- The byte of a number that stands s bits from its end. -/
def wbyte (v : Int) (s : Nat) : UInt8 := UInt8.ofNat (v / 2 ^ s % 256).toNat
theorem wbyte_toNat (v : Int) (s : Nat) : ((wbyte v s).toNat : Int) = v / 2 ^ s % 256 := by
  have h0 : 0 ≤ v / 2 ^ s % 256 := Int.emod_nonneg _ (by decide)
  have h1 : v / 2 ^ s % 256 < 256 := Int.emod_lt_of_pos _ (by decide)
  simp [wbyte]
  omega

/-- A byte xor a mask. -/
def xorB (m : Int) (x : UInt8) : UInt8 := UInt8.ofNat (bits .xor .u8 (x.toNat : Int) m).toNat
theorem bits8_range (op : BinOp) (x y : Int) : 0 ≤ bits op .u8 x y ∧ bits op .u8 x y < 256 := by
  unfold bits
  simp only [IntKind.wrap]
  constructor
  · exact Int.emod_nonneg _ (by decide)
  · exact Int.emod_lt_of_pos _ (by decide)
theorem xorB_toNat (m : Int) (x : UInt8) : ((xorB m x).toNat : Int) = bits .xor .u8 (x.toNat : Int) m := by
  obtain ⟨h0, h1⟩ := bits8_range .xor (x.toNat : Int) m
  simp only [xorB, UInt8.toNat_ofNat']
  omega

/-- 'append', its run told. -/
theorem wpList_append_run {P : Program} {w : World} {ops : Array Oper} {rest : List Oper} {o : Oper} {a : Act} {Q : Exit → Act → World → Prop} (hgd : o.guard = none) (sl x : Operand) (t u : TypeId)
    (ho : o.op = .call { callee := .builtin .append, args := #[sl, x], argTypes := #[t, u] }) (v vx v' : Value) (w' : World) (hs : a.eval sl = v) (hx : a.eval x = vx)
    (hr : (Builtin.append_ #[t, u] o.type #[v, vx]).run P w = .ok v' w') (h : wpList P ops Q rest (a.put o.dst v') w') : wpList P ops Q (o :: rest) a w := by
  refine wpList_plain hgd fun K hK => ?_
  unfold Oper.wp execOp
  simp only [ho, resolve, invoke, builtin, Sem.run_bind, Sem.run_pure, Result.andThen_ok, List.map_toArray, List.map_cons, List.map_nil, hs, hx, hr]
  exact hK _ _ h
end

section
open Go.RowKit
set_option maxRecDepth 100000
set_option linter.unusedSimpArgs false
set_option linter.unusedVariables false

/-- v is a slice of the cells xs: nil, or in a block from base on, all of whose cells up to the capacity may be written. -/
structure OwnS (W : World) (base : Nat) (g cap : Nat) (xs : List Value) : Prop where
  base : base ≤ g
  le : xs.length ≤ cap
  cells : ∀ j u, xs[j]? = some u → W.cell? ⟨g, j, none⟩ = some u
  room : ∀ j, j < cap → (W.cell? ⟨g, j, none⟩).isSome = true ∧ W.frozen? ⟨g, j, none⟩ = false
def Own (W : World) (base : Nat) (v : Value) (xs : List Value) : Prop :=
  (v = .slice none 0 0 ∧ xs = []) ∨ ∃ g cap, v = .slice (some ⟨g, 0, none⟩) xs.length cap ∧ OwnS W base g cap xs
theorem Own.nil (W : World) (base : Nat) : Own W base (.slice none 0 0) [] := .inl ⟨rfl, rfl⟩
theorem OwnS.keep {W W' : World} {base g cap : Nat} {xs : List Value} (h : OwnS W base g cap xs) (e : W'.heap[g]? = W.heap[g]?) : OwnS W' base g cap xs :=
  ⟨h.base, h.le, fun j u hj => (World.cell?_of_block (a := ⟨g, j, none⟩) e).trans (h.cells j u hj), fun j hj => by
    rw [World.cell?_of_block (a := ⟨g, j, none⟩) e, World.frozen?_of_block (a := ⟨g, j, none⟩) e]; exact h.room j hj⟩
theorem OwnS.lt {W : World} {base g cap : Nat} {xs : List Value} (h : OwnS W base g cap xs) (hp : 0 < cap) : g < W.heap.size := by
  obtain ⟨u, hu⟩ := Option.isSome_iff_exists.1 (h.room 0 hp).1
  exact block_lt_of_cell hu
theorem Own.keep {W W' : World} {base : Nat} {v : Value} {xs : List Value} (h : Own W base v xs) (e : ∀ k, v.ownBlock = some k → W'.heap[k]? = W.heap[k]?) : Own W' base v xs := by
  rcases h with h | ⟨g, cap, rfl, h⟩
  · exact .inl h
  · exact .inr ⟨g, cap, rfl, h.keep (e g rfl)⟩
theorem Own.below {W W' : World} {base : Nat} {v : Value} {xs : List Value} (h : Own W base v xs) (hb : Below W.heap.size W W') : Own W' base v xs := by
  rcases h with h | ⟨g, cap, rfl, h⟩
  · exact .inl h
  · refine .inr ⟨g, cap, rfl, h.base, h.le, fun j u hj => ?_, fun j hj => ?_⟩
    · have := h.cells j u hj
      exact (hb.cell (block_lt_of_cell this)).trans this
    · obtain ⟨u, hu⟩ := Option.isSome_iff_exists.1 (h.room j hj).1
      have hlt := block_lt_of_cell hu
      rw [hb.cell (p := ⟨g, j, none⟩) hlt, hb.frozen (p := ⟨g, j, none⟩) hlt]
      exact h.room j hj
theorem Own.alloc {W : World} {base : Nat} {v : Value} {xs : List Value} (h : Own W base v xs) (o : Obj) : Own (W.alloc o) base v xs := h.below (below_new W o)
/-- A slice with an element is not nil. -/
theorem Own.some {W : World} {base : Nat} {v : Value} {xs : List Value} (h : Own W base v xs) (hp : 0 < xs.length) : ∃ g cap, v = .slice (.some ⟨g, 0, none⟩) xs.length cap ∧ OwnS W base g cap xs ∧ g < W.heap.size := by
  rcases h with ⟨_, rfl⟩ | ⟨g, cap, rfl, h⟩
  · simp at hp
  · exact ⟨g, cap, rfl, h, h.lt (Nat.lt_of_lt_of_le hp h.le)⟩
theorem grown_any {w w' : World} (h : w.grownBy w' none) (row : Option Nat) : w.grownBy w' row := ⟨h.os, h.tape, h.output, h.size, fun k hk _ => h.block k hk (by simp)⟩
theorem own_of_row {W : World} {base : Nat} {e : TypeId} {v : Value} {n : Nat} {xs : List Value} (h : W.ownsRow base e 1 v n xs) : Own W base v xs ∧ xs.length = n := by
  obtain ⟨hl, ⟨rfl, rfl⟩ | ⟨g, cap, cur, rfl, hb, hg, h1, h2, h3, h4⟩⟩ := h
  · exact ⟨.inl ⟨rfl, List.eq_nil_of_length_eq_zero (by simpa using hl)⟩, by simpa using hl⟩
  · have hx : xs.length = n := by simpa using hl
    refine ⟨.inr ⟨g, cap, by rw [hx], hb, by omega, fun j u hj => ?_, fun j hj => ?_⟩, hx⟩
    · rw [cell_of_row W g j cur e _ hg]
      rw [← h4] at hj
      rw [List.getElem?_take] at hj
      split at hj
      · simpa using hj
      · cases hj
    · rw [cell_of_row W g j cur e _ hg]
      refine ⟨?_, frozen_of_row W g j cur e hg⟩
      have : j < cur.size := by omega
      simp [this]

theorem Own.shape {W : World} {base : Nat} {v : Value} {xs : List Value} (h : Own W base v xs) : ∃ ao cap, v = .slice ao xs.length cap := by
  rcases h with ⟨rfl, rfl⟩ | ⟨g, cap, rfl, _⟩
  · exact ⟨none, 0, rfl⟩
  · exact ⟨_, cap, rfl⟩
theorem grown_trans {u v w : World} {row : Option Nat} (h : u.grownBy v row) (k : v.grownBy w row) : u.grownBy w row :=
  ⟨k.os.trans h.os, k.tape.trans h.tape, k.output.trans h.output, Nat.le_trans h.size k.size, fun i hi hne => (k.block i (Nat.lt_of_lt_of_le hi h.size) hne).trans (h.block i hi hne)⟩
theorem grown_setCells (g : Nat) : ∀ (vs : List Value) (o : Nat) (w : World), w.grownBy (w.setCells g o vs) (Option.some g)
  | [], _, w => World.grownBy.refl w _
  | v :: r, o, w => by
    have h : w.grownBy (w.setCell ⟨g, o, none⟩ v) (Option.some g) := ⟨rfl, rfl, rfl, by simp [World.setCell], fun k _ hne => heap_setCell_other w ⟨g, o, none⟩ k v (fun e => hne (congrArg Option.some e))⟩
    exact grown_trans h (grown_setCells g r (o + 1) (w.setCell ⟨g, o, none⟩ v))

/-- 'append' to such a slice. -/
theorem wpList_append_Own {w : World} {ops : Array Oper} {rest : List Oper} {o : Oper} {a : Act} {Q : Exit → Act → World → Prop} (hg : o.guard = none) (s x : Operand) (t : TypeId)
    (hop : o.op = Op.call { callee := Callee.builtin Builtin.append, args := #[s, x], argTypes := #[t, t] })
    (base : Nat) (e : TypeId) (i : TypeInfo) (z : Value) (bytes : Nat) (h1 : Tryd.prog.underlying t = Option.some (.slice e)) (h2 : Tryd.prog.info? e = Option.some i) (h3 : i.zero = Option.some z) (h4 : i.size = 1) (h5 : i.bytes = bytes) (h6 : z.cells.size = 1)
    (v : Value) (xs : List Value) (hs : a.eval s = v) (hown : Own w base v xs)
    (ad : Addr) (m c : Nat) (news : List Value) (hx : a.eval x = .slice (Option.some ad) m c) (hn : news.length = m) (hc : ∀ j u, news[j]? = Option.some u → w.cell? (ad.add j) = Option.some u) (h1c : ∀ u ∈ news, u.oneCell' = true)
    (b1 : xs.length + m ≤ maxLen) (b2 : (xs.length + m) * bytes ≤ 140737488355328) (hbase : base ≤ w.heap.size)
    (hK : ∀ v' w', Own w' base v' (xs ++ news) → w.grownBy w' v.ownBlock → wpList Tryd.prog ops Q rest (a.put o.dst v') w') :
    wpList Tryd.prog ops Q (o :: rest) a w := by
  rcases hown with ⟨rfl, rfl⟩ | ⟨g, cap, rfl, hown⟩
  · refine wpList_append_own w hg s x t hop base e i z 1 bytes h1 h2 h3 h4 h5 h6 (by omega) (.slice none 0 0) 0 [] hs (World.ownsRow_nil _ _ _ _) ad m c news hx (by omega) hc h1c (by simpa using b1) (by simpa using b2) hbase ?_
    intro v' w' hown' hgrow _
    exact hK v' w' (own_of_row hown').1 hgrow
  · refine wpList_append_arg w hg s x t hop e i z 1 bytes h1 h2 h3 h4 h5 h6 (by omega) g 0 xs.length cap xs hs (by omega) (fun j u hj => by simpa using hown.cells j u hj) ad m c news hx (by omega) hc h1c ?_ b1 b2 ?_ ?_
    · intro hr j hj
      have := hown.room (xs.length + j) (by omega)
      simpa using this
    · intro hr
      refine hK _ _ (.inr ⟨g, cap, by rw [List.length_append, hn], hown.base, by rw [List.length_append]; omega, fun j u hj => ?_, fun j hj => ?_⟩) ?_
      · simp only [Nat.zero_add, Nat.mul_one]
        by_cases hlt : j < xs.length
        · rw [World.cell?_setCells_out _ _ _ _ _ (fun _ _ => Or.inl hlt)]
          rw [List.getElem?_append_left hlt] at hj
          exact hown.cells j u hj
        · rw [List.getElem?_append_right (by omega)] at hj
          have hj' : j - xs.length < news.length := (List.getElem?_eq_some_iff.1 hj).1
          have := World.cell?_setCells_in g news xs.length w (fun q hq => (hown.room (xs.length + q) (by omega)).1) (j - xs.length) hj'
          rw [show xs.length + (j - xs.length) = j by omega] at this
          rw [this]
          have := (List.getElem?_eq_some_iff.1 hj).2
          rw [this]
      · simp only [Nat.zero_add, Nat.mul_one]
        refine ⟨?_, by rw [World.frozen?_setCells]; exact (hown.room j hj).2⟩
        by_cases hin : xs.length ≤ j ∧ j < xs.length + news.length
        · have := World.cell?_setCells_in g news xs.length w (fun q hq => (hown.room (xs.length + q) (by omega)).1) (j - xs.length) (by omega)
          rw [show xs.length + (j - xs.length) = j by omega] at this
          rw [this]; rfl
        · rw [World.cell?_setCells_out _ _ _ _ _ (fun _ _ => by simp; omega)]
          exact (hown.room j hj).1
      · exact grown_setCells g news _ w
    · intro hr v' w' hown' hgrow
      refine hK v' w' ?_ (grown_any hgrow _)
      have := own_of_row hown'
      rcases this.1 with h | ⟨g', cap', hv, hh⟩
      · exact .inl h
      · exact .inr ⟨g', cap', hv, Nat.le_trans hbase hh.base, hh.le, hh.cells, hh.room⟩

/-- The same, the slice's shape written out. -/
theorem wpList_append_sl {w : World} {ops : Array Oper} {rest : List Oper} {o : Oper} {a : Act} {Q : Exit → Act → World → Prop} (hg : o.guard = none) (s x : Operand) (t : TypeId)
    (hop : o.op = Op.call { callee := Callee.builtin Builtin.append, args := #[s, x], argTypes := #[t, t] })
    (base : Nat) (e : TypeId) (i : TypeInfo) (z : Value) (bytes : Nat) (h1 : Tryd.prog.underlying t = Option.some (.slice e)) (h2 : Tryd.prog.info? e = Option.some i) (h3 : i.zero = Option.some z) (h4 : i.size = 1) (h5 : i.bytes = bytes) (h6 : z.cells.size = 1)
    (ao : Option Addr) (n cap : Nat) (xs : List Value) (hs : a.eval s = .slice ao n cap) (hown : Own w base (.slice ao n cap) xs) (hlen : xs.length = n)
    (ad : Addr) (m c : Nat) (news : List Value) (hx : a.eval x = .slice (Option.some ad) m c) (hn : news.length = m) (hc : ∀ j u, news[j]? = Option.some u → w.cell? (ad.add j) = Option.some u) (h1c : ∀ u ∈ news, u.oneCell' = true)
    (b2 : (n + m) * bytes ≤ 140737488355328) (b1 : n + m ≤ 140737488355328) (hbase : base ≤ w.heap.size)
    (hK : ∀ ao' cap' w', Own w' base (.slice ao' (n + m) cap') (xs ++ news) → w.grownBy w' (Value.ownBlock (.slice ao n cap)) → wpList Tryd.prog ops Q rest (a.put o.dst (.slice ao' (n + m) cap')) w') :
    wpList Tryd.prog ops Q (o :: rest) a w := by
  subst hlen
  refine wpList_append_Own hg s x t hop base e i z bytes h1 h2 h3 h4 h5 h6 _ xs hs hown ad m c news hx hn hc h1c (by unfold maxLen; omega) b2 hbase ?_
  intro v' w' hown' hgrow
  obtain ⟨ao', cap', hv⟩ := hown'.shape
  rw [List.length_append, hn] at hv
  subst hv
  exact hK ao' cap' w' hown' hgrow
/-- What an append to a slice of the call's own leaves of older memory. -/
theorem below_append {B : Nat} {u w w' : World} {ao : Option Addr} {n cap : Nat} {xs : List Value} (hb : Below B u w) (hB : B ≤ w.heap.size) (hown : Own w B (.slice ao n cap) xs) (hg : w.grownBy w' (Value.ownBlock (.slice ao n cap))) : Below B u w' :=
  hb.grown hg hB fun k hk => by
    rcases hown with ⟨h, _⟩ | ⟨g, c, h, hh⟩
    · cases h; simp [Value.ownBlock] at hk
    · cases h; simp [Value.ownBlock] at hk; have := hh.base; omega
/-- The conversion of a string to bytes: a slice of its own. -/
theorem run_convert_string_bytes_own (s : ByteArray) (w : World) : ∃ ao cap, (convert 9 38 (.string s)).run Tryd.prog w = .ok (.slice ao s.size cap) (Lib.bytesWorld w 5 s) ∧ Own (Lib.bytesWorld w 5 s) w.heap.size (.slice ao s.size cap) (Lib.byteCells s.data.toList) ∧ Below w.heap.size w (Lib.bytesWorld w 5 s) := by
  have hl : (Lib.byteCells s.data.toList).length = s.size := by rw [Lib.byteCells_length, ← Lib.size_eq]
  have hge := grownCap_ge w s.size 0 5
  have hsz : (Lib.bytesCells w 5 s).size = grownCap w s.size 0 5 := by
    simp only [Lib.bytesCells, Array.size_append, Array.size_map, Array.size_replicate]
    have : s.data.size = s.size := rfl
    omega
  have hnew := Lib.bytesWorld_at_new w 5 s
  refine ⟨_, _, Lib.run_convert_string_bytes w 9 38 5 s Tryd.underlying9 Tryd.underlying38 Tryd.underlying5, .inr ⟨w.heap.size, grownCap w s.size 0 5, by rw [hl], Nat.le_refl _, by omega, ?_, ?_⟩, ?_⟩
  · intro j u hj
    have hlt : j < s.size := by rw [← hl]; exact (List.getElem?_eq_some_iff.1 hj).1
    rw [Lib.bytesWorld_cell w 5 s j hlt]
    have hlt' : j < s.data.toList.length := by rw [← Lib.size_eq]; exact hlt
    simp only [Lib.byteCells, List.getElem?_map, List.getElem?_eq_getElem hlt', Option.map_some] at hj
    rw [List.getD_eq_getElem?_getD, List.getElem?_eq_getElem hlt']
    exact hj
  · intro j hj
    constructor
    · rw [cell_of_row _ _ _ _ _ _ hnew]
      have : j < (Lib.bytesCells w 5 s).size := by omega
      simp [this]
    · have : j < (Lib.bytesCells w 5 s).size := by omega
      simp [World.frozen?, hnew]
      omega
  · exact ⟨rfl, rfl, rfl, by rw [Lib.bytesWorld_size]; omega, fun k hk => Lib.bytesWorld_at_old w 5 s k hk⟩
/-- One cell of such a slice written. -/
theorem OwnS.put {W : World} {base g cap : Nat} {xs : List Value} (h : OwnS W base g cap xs) (j : Nat) (hj : j < xs.length) (v : Value) : OwnS (W.setCell ⟨g, j, none⟩ v) base g cap (xs.set j v) := by
  refine ⟨h.base, by rw [List.length_set]; exact h.le, fun i u hu => ?_, fun i hi => ?_⟩
  · by_cases hij : i = j
    · subst hij
      rw [List.getElem?_set_self hj] at hu
      cases hu
      exact World.cell?_setCell_same _ _ _ (h.cells i _ (List.getElem?_eq_getElem hj))
    · rw [List.getElem?_set_ne (fun e => hij e.symm)] at hu
      rw [World.cell?_setCell_other _ _ _ _ (by simp [hij])]
      exact h.cells i u hu
  · obtain ⟨h1, h2⟩ := h.room i hi
    refine ⟨?_, by rw [World.frozen?_setCell]; exact h2⟩
    by_cases hij : i = j
    · subst hij
      obtain ⟨u, hu⟩ := Option.isSome_iff_exists.1 h1
      rw [World.cell?_setCell_same _ _ _ hu]; rfl
    · rw [World.cell?_setCell_other _ _ _ _ (by simp [hij])]; exact h1
end

section
open Go.RowKit
set_option maxRecDepth 100000
set_option linter.unusedSimpArgs false
set_option linter.unusedVariables false

/-- 'append' to such a slice. -/
theorem wpList_append_OwnF {w : World} {ops : Array Oper} {rest : List Oper} {o : Oper} {a : Act} {Q : Exit → Act → World → Prop} (hg : o.guard = none) (s x : Operand) (t : TypeId)
    (hop : o.op = Op.call { callee := Callee.builtin Builtin.append, args := #[s, x], argTypes := #[t, t] })
    (base : Nat) (e : TypeId) (i : TypeInfo) (z : Value) (bytes : Nat) (h1 : Tryd.prog.underlying t = Option.some (.slice e)) (h2 : Tryd.prog.info? e = Option.some i) (h3 : i.zero = Option.some z) (h4 : i.size = 1) (h5 : i.bytes = bytes) (h6 : z.cells.size = 1)
    (v : Value) (xs : List Value) (hs : a.eval s = v) (hown : Own w base v xs)
    (ad : Addr) (m c : Nat) (news : List Value) (hx : a.eval x = .slice (Option.some ad) m c) (hn : news.length = m) (hc : ∀ j u, news[j]? = Option.some u → w.cell? (ad.add j) = Option.some u) (h1c : ∀ u ∈ news, u.oneCell' = true)
    (b1 : xs.length + m ≤ maxLen) (b2 : (xs.length + m) * bytes ≤ 140737488355328) (hbase : base ≤ w.heap.size)
    (hK : ∀ v' w', Own w' base v' (xs ++ news) → w.grownBy w' v.ownBlock → (∀ k, v'.ownBlock = Option.some k → v.ownBlock = Option.some k ∨ w.heap.size ≤ k) → wpList Tryd.prog ops Q rest (a.put o.dst v') w') :
    wpList Tryd.prog ops Q (o :: rest) a w := by
  rcases hown with ⟨rfl, rfl⟩ | ⟨g, cap, rfl, hown⟩
  · refine wpList_append_own w hg s x t hop w.heap.size e i z 1 bytes h1 h2 h3 h4 h5 h6 (by omega) (.slice none 0 0) 0 [] hs (World.ownsRow_nil _ _ _ _) ad m c news hx (by omega) hc h1c (by simpa using b1) (by simpa using b2) (Nat.le_refl _) ?_
    intro v' w' hown' hgrow _
    refine hK v' w' ?_ hgrow ?_
    · rcases (own_of_row hown').1 with h | ⟨g', cap', hv, hh⟩
      · exact .inl h
      · exact .inr ⟨g', cap', hv, Nat.le_trans hbase hh.base, hh.le, hh.cells, hh.room⟩
    · intro k hk
      rcases (own_of_row hown').1 with ⟨h, _⟩ | ⟨g', cap', hv, hh⟩
      · rw [h] at hk; simp [Value.ownBlock] at hk
      · rw [hv] at hk; simp [Value.ownBlock] at hk; have := hh.base; right; omega
  · refine wpList_append_arg w hg s x t hop e i z 1 bytes h1 h2 h3 h4 h5 h6 (by omega) g 0 xs.length cap xs hs (by omega) (fun j u hj => by simpa using hown.cells j u hj) ad m c news hx (by omega) hc h1c ?_ b1 b2 ?_ ?_
    · intro hr j hj
      have := hown.room (xs.length + j) (by omega)
      simpa using this
    · intro hr
      refine hK _ _ (.inr ⟨g, cap, by rw [List.length_append, hn], hown.base, by rw [List.length_append]; omega, fun j u hj => ?_, fun j hj => ?_⟩) ?_ ?_
      · simp only [Nat.zero_add, Nat.mul_one]
        by_cases hlt : j < xs.length
        · rw [World.cell?_setCells_out _ _ _ _ _ (fun _ _ => Or.inl hlt)]
          rw [List.getElem?_append_left hlt] at hj
          exact hown.cells j u hj
        · rw [List.getElem?_append_right (by omega)] at hj
          have hj' : j - xs.length < news.length := (List.getElem?_eq_some_iff.1 hj).1
          have := World.cell?_setCells_in g news xs.length w (fun q hq => (hown.room (xs.length + q) (by omega)).1) (j - xs.length) hj'
          rw [show xs.length + (j - xs.length) = j by omega] at this
          rw [this]
          have := (List.getElem?_eq_some_iff.1 hj).2
          rw [this]
      · simp only [Nat.zero_add, Nat.mul_one]
        refine ⟨?_, by rw [World.frozen?_setCells]; exact (hown.room j hj).2⟩
        by_cases hin : xs.length ≤ j ∧ j < xs.length + news.length
        · have := World.cell?_setCells_in g news xs.length w (fun q hq => (hown.room (xs.length + q) (by omega)).1) (j - xs.length) (by omega)
          rw [show xs.length + (j - xs.length) = j by omega] at this
          rw [this]; rfl
        · rw [World.cell?_setCells_out _ _ _ _ _ (fun _ _ => by simp; omega)]
          exact (hown.room j hj).1
      · exact grown_setCells g news _ w
      · intro k hk; exact .inl hk
    · intro hr v' w' hown' hgrow
      refine hK v' w' ?_ (grown_any hgrow _) ?_
      · rcases (own_of_row hown').1 with h | ⟨g', cap', hv, hh⟩
        · exact .inl h
        · exact .inr ⟨g', cap', hv, Nat.le_trans hbase hh.base, hh.le, hh.cells, hh.room⟩
      · intro k hk
        rcases (own_of_row hown').1 with ⟨h, _⟩ | ⟨g', cap', hv, hh⟩
        · rw [h] at hk; simp [Value.ownBlock] at hk
        · rw [hv] at hk; simp [Value.ownBlock] at hk; have := hh.base; right; omega

/-- The same, the slice's shape written out. -/
theorem wpList_append_slF {w : World} {ops : Array Oper} {rest : List Oper} {o : Oper} {a : Act} {Q : Exit → Act → World → Prop} (hg : o.guard = none) (s x : Operand) (t : TypeId)
    (hop : o.op = Op.call { callee := Callee.builtin Builtin.append, args := #[s, x], argTypes := #[t, t] })
    (base : Nat) (e : TypeId) (i : TypeInfo) (z : Value) (bytes : Nat) (h1 : Tryd.prog.underlying t = Option.some (.slice e)) (h2 : Tryd.prog.info? e = Option.some i) (h3 : i.zero = Option.some z) (h4 : i.size = 1) (h5 : i.bytes = bytes) (h6 : z.cells.size = 1)
    (ao : Option Addr) (n cap : Nat) (xs : List Value) (hs : a.eval s = .slice ao n cap) (hown : Own w base (.slice ao n cap) xs) (hlen : xs.length = n)
    (ad : Addr) (m c : Nat) (news : List Value) (hx : a.eval x = .slice (Option.some ad) m c) (hn : news.length = m) (hc : ∀ j u, news[j]? = Option.some u → w.cell? (ad.add j) = Option.some u) (h1c : ∀ u ∈ news, u.oneCell' = true)
    (b2 : (n + m) * bytes ≤ 140737488355328) (b1 : n + m ≤ 140737488355328) (hbase : base ≤ w.heap.size)
    (hK : ∀ ao' cap' w', Own w' base (.slice ao' (n + m) cap') (xs ++ news) → w.grownBy w' (Value.ownBlock (.slice ao n cap)) → (∀ k, (Value.slice ao' (n + m) cap').ownBlock = Option.some k → (Value.slice ao n cap).ownBlock = Option.some k ∨ w.heap.size ≤ k) → wpList Tryd.prog ops Q rest (a.put o.dst (.slice ao' (n + m) cap')) w') :
    wpList Tryd.prog ops Q (o :: rest) a w := by
  subst hlen
  refine wpList_append_OwnF hg s x t hop base e i z bytes h1 h2 h3 h4 h5 h6 _ xs hs hown ad m c news hx hn hc h1c (by unfold maxLen; omega) b2 hbase ?_
  intro v' w' hown' hgrow hfar
  obtain ⟨ao', cap', hv⟩ := hown'.shape
  rw [List.length_append, hn] at hv
  subst hv
  exact hK ao' cap' w' hown' hgrow hfar
end

section
open Go.RowKit Go.Sort
set_option maxRecDepth 100000
set_option linter.unusedSimpArgs false
set_option linter.unusedVariables false

theorem arr_one (l : List UInt8) : (bcells l).all (·.oneCell') = true := by
  rw [Array.all_eq_true]
  intro i hi
  simp [bcells, Lib.byteCells, Value.oneCell']
theorem arr_sizeOf {e : TypeId} (hs : (Tryd.prog.info? e).map (·.size) = some 1) (w : World) : (sizeOf e).run Tryd.prog w = .ok 1 w := by
  cases hq : Tryd.prog.info? e with
  | none => simp [hq] at hs
  | some i => simp [hq] at hs; simp [sizeOf, typeInfo, hq, hs]
theorem arr_index {P : Program} (t e : TypeId) (n k : Nat) (cs : Array Value) (x : Value) (hu : P.underlying t = some (.array n e)) (hs : (P.info? e).map (·.size) = some 1) (ha : ∀ w, (isAgg e).run P w = .ok false w) (hk : k < n) (hx : cs[k]? = some x) (w : World) :
    (Instr.index t (.agg cs) (.int .i64 (k : Int))).run P w = .ok x w := by
  have hn : (0 : Int) ≤ (k : Int) ∧ (k : Int) < (n : Int) := by omega
  have hsz : ∀ w, (sizeOf e).run P w = .ok 1 w := fun w => by
    cases hq : P.info? e with
    | none => simp [hq] at hs
    | some i => simp [hq] at hs; simp [sizeOf, typeInfo, hq, hs]
  simp [Instr.index, run_underlying hu, asIntOf, hn, go_sem, part, hsz, ha, hx]
  intro h; omega
theorem arr_sliced_at (t : TypeId) (n a i j : Nat) (ht : Tryd.prog.underlying t = some (.array (Tryd.prog.arrayLen t) (Tryd.prog.elem t))) (hn : Tryd.prog.arrayLen t = n) (hs : (Tryd.prog.info? (Tryd.prog.elem t)).map (·.size) = some 1) (hij : i ≤ j) (hj : j ≤ n) (hi : i < n) (x y : Int) (hx : x = (i : Int)) (hy : y = (j : Int)) (w : World) :
    (Instr.sliceAt t (.pointer (some ⟨a, 0, none⟩)) (some (.int .i64 x)) (some (.int .i64 y)) none).run Tryd.prog w = .ok (.slice (some ⟨a, i, none⟩) (j - i) (n - i)) w := by
  subst hx hy
  rw [run_sliceAt_array_lh w t ⟨a, 0, none⟩ ht .i64 .i64 (i : Int) (j : Int) (by omega) (by omega) (by rw [hn]; omega), arr_sizeOf hs, hn]
  simp only [Result.andThen_ok, slicedAt, Int.toNat_natCast, Nat.mul_one]
  by_cases he : n = i
  · omega
  · rw [if_neg he, Addr.add_lit, Nat.zero_add]
theorem arr_sliced_all (t : TypeId) (n a : Nat) (ht : Tryd.prog.underlying t = some (.array (Tryd.prog.arrayLen t) (Tryd.prog.elem t))) (hn : Tryd.prog.arrayLen t = n) (hs : (Tryd.prog.info? (Tryd.prog.elem t)).map (·.size) = some 1) (hp : 0 < n) (w : World) :
    (Instr.sliceAt t (.pointer (some ⟨a, 0, none⟩)) none none none).run Tryd.prog w = .ok (.slice (some ⟨a, 0, none⟩) n n) w := by
  rw [run_sliceAt_array_all w t ⟨a, 0, none⟩ ht, arr_sizeOf hs, hn]
  simp only [Result.andThen_ok, slicedAt, Nat.sub_zero]
  rw [if_neg (by omega), Addr.add_lit]
/-- A whole row that was there, in every world of the class. -/
theorem arr_row_regrown {P : Program} {w : World} (ty : TypeId) (g : Nat) (t : TypeId) (cs : Array Value) (fr : Nat × Nat) (d : TypeDesc) (hg : w.heap[g]? = some (.cells cs t fr))
    (hu : P.underlying ty = some d) (hd : (match d with | .struct _ | .array _ _ => true | _ => false) = true) (hi : (P.info? ty).map (·.size) = some cs.size) (n : Nat) (os : Array Obj) :
    (Instr.loadAt ty (.pointer (some ⟨g, 0, none⟩))).run P (grow (redrawn w n) os) = .ok (.agg cs) (grow (redrawn w n) os) := by
  have hg' : (grow (redrawn w n) os).heap[g]? = some (.cells cs t fr) := ((below_regrown w n os).block g (blk_lt hg)).trans hg
  simp only [Instr.loadAt, Instr.sureAddr, Sem.run_bind, Sem.run_pure, Result.andThen_ok, run_loadVar_row _ g t ty cs fr d hg' hu hd hi]
theorem arr_quiet_load {P : Program} {ops : Array Oper} {w : World} {Q : Act → Prop} {a : Act} {o : Oper} {rest : List Oper} (hw : Region.wanted o (yielded ops a.tmps) = true) (ty : TypeId) (x : Operand) (ho : o.op = .load ty x)
    (p : Addr) (hx : a.eval x = .pointer (some p)) (cs : Array Value) (hl : ∀ n os, (Instr.loadAt ty (.pointer (some p))).run P (grow (redrawn w n) os) = .ok (.agg cs) (grow (redrawn w n) os))
    (h : wpQuiet P ops (fun w' => ∃ p : Regrown, w' = grow (redrawn w p.d) p.os) Q rest (a.put o.dst (.agg cs))) : wpQuiet P ops (fun w' => ∃ p : Regrown, w' = grow (redrawn w p.d) p.os) Q (o :: rest) a := by
  refine BigFrame.wpQuiet_want hw fun K hK => ⟨.agg cs, fun w' hw' => ?_, hK _ h⟩
  obtain ⟨p, rfl⟩ := hw'
  unfold Oper.quietAt execOp
  simp only [ho, hx, Sem.run_bind, Result.andThen_ok, hl p.d p.os]
  exact ⟨rfl, rfl⟩

/-- Bytes with so many of a number's at a place. -/
def putA (l : List UInt8) (off : Nat) (v : Int) : Nat → List UInt8
  | 0 => l
  | k + 1 => (putA l off v k).set (off + k) (wbyte v (8 * k))
theorem putA_length (l : List UInt8) (off : Nat) (v : Int) (k : Nat) : (putA l off v k).length = l.length := by
  induction k with
  | zero => rfl
  | succ k ih => rw [putA, List.length_set, ih]
theorem putA_get (l : List UInt8) (off : Nat) (v : Int) (i : Nat) : ∀ k, off + k ≤ l.length → (putA l off v k).getD i 0 = if off ≤ i ∧ i < off + k then wbyte v (8 * (i - off)) else l.getD i 0
  | 0, _ => by rw [putA, if_neg (by omega)]
  | k + 1, h => by
    rw [putA, List.getD_eq_getElem?_getD, List.getElem?_set]
    by_cases hi : off + k = i
    · subst hi
      rw [if_pos rfl, if_pos (show off + k < (putA l off v k).length by rw [putA_length]; omega), if_pos (by omega)]
      simp
    · rw [if_neg hi, ← List.getD_eq_getElem?_getD, putA_get l off v i k (by omega)]
      by_cases h1 : off ≤ i ∧ i < off + k
      · rw [if_pos h1, if_pos (by omega)]
      · rw [if_neg h1, if_neg (by omega)]
/-- A list of so many bytes, byte by byte. -/
theorem bytes_ext {l m : List UInt8} {n : Nat} (hl : l.length = n) (hm : m.length = n) (h : ∀ i, i < n → l.getD i 0 = m.getD i 0) : l = m := by
  apply List.ext_getElem?
  intro i
  by_cases hi : i < n
  · have := h i hi
    rw [List.getD_eq_getElem?_getD, List.getD_eq_getElem?_getD, List.getElem?_eq_getElem (by omega), List.getElem?_eq_getElem (by omega)] at this
    rw [List.getElem?_eq_getElem (by omega), List.getElem?_eq_getElem (by omega)]
    simpa using this
  · rw [List.getElem?_eq_none (by omega), List.getElem?_eq_none (by omega)]
theorem range_getD (f : Nat → UInt8) (n i : Nat) (h : i < n) : ((List.range n).map f).getD i 0 = f i := by simp [List.getD_eq_getElem?_getD, h]
theorem bcell_at {W : World} {b : Nat} {l : List UInt8} {T : TypeId} {fr : Nat × Nat} (h : W.heap[b]? = some (.cells (bcells l) T fr)) (j : Nat) (hj : j < l.length) : W.cell? ⟨b, j, none⟩ = some (.int .u8 ((l.getD j 0).toNat : Int)) := by
  rw [cell_of_row W _ _ _ _ _ h]
  exact bcells_get l j _ (by rw [List.getD_eq_getElem?_getD, List.getElem?_eq_getElem hj]; rfl)
theorem bheap_set {W : World} {b : Nat} {l : List UInt8} {T : TypeId} (h : W.heap[b]? = some (.cells (bcells l) T)) (j : Nat) (x : UInt8) : (W.setCell ⟨b, j, none⟩ (.int .u8 (x.toNat : Int))).heap[b]? = some (.cells (bcells (l.set j x)) T) := by rw [← bcells_set]; exact Go.heap_setCell_same _ _ _ _ _ _ h
end

section
open Go.RowKit Go.Sort
set_option maxRecDepth 100000
set_option linter.unusedSimpArgs false
set_option linter.unusedVariables false

theorem setRow_self (w : World) (g : Nat) (t : TypeId) (cur : Array Value) (hg : w.heap[g]? = some (.cells cur t (0, 0))) : w.setRow g cur = w := by
  have := run_storeCells_from (P := Tryd.prog) g t [] cur.size cur w hg (by simp) (by simp)
  rw [List.append_nil, List.take_of_length_le (by simp), Array.toArray_toList] at this
  simp only [storeCells] at this
  have h2 : (Result.ok () w : Result Unit) = .ok () (w.setRow g cur) := this
  injection h2 with _ h3
  exact h3.symm
/-- Cells with others laid from a place on. -/
def setMany (cur : Array Value) (p : Nat) : List Value → Array Value
  | [] => cur
  | v :: r => setMany (cur.setIfInBounds p v) (p + 1) r
theorem run_storeCells_at (g off : Nat) (t : TypeId) : ∀ (vs : List Value) (i : Nat) (cur : Array Value) (w : World), w.heap[g]? = some (.cells cur t (0, 0)) → off + i + vs.length ≤ cur.size → (∀ v ∈ vs, v.oneCell' = true) →
    (storeCells ⟨g, off, none⟩ vs i).run Tryd.prog w = .ok () (w.setRow g (setMany cur (off + i) vs))
  | [], i, cur, w, hg, hl, _ => by rw [setMany, setRow_self w g t cur hg]; rfl
  | v :: rest, i, cur, w, hg, hl, h1 => by
    have hi : off + i < cur.size := by simp at hl; omega
    have hadd : (⟨g, off, none⟩ : Addr).add i = ⟨g, off + i, none⟩ := by unfold Addr.add; split <;> simp_all
    have hcell : w.cell? ⟨g, off + i, none⟩ = some cur[off + i] := by simp [World.cell?, hg, hi]
    have hfro : w.frozen? ⟨g, off + i, none⟩ = false := by simp [World.frozen?, hg]
    have hst : (store ((⟨g, off, none⟩ : Addr).add i) v).run Tryd.prog w = .ok () (w.setRow g (cur.setIfInBounds (off + i) v)) := by
      rw [hadd, run_store Tryd.prog w _ v _ (h1 v (by simp)), hcell]
      simp [hfro, setCell_eq_setRow w g (off + i) cur t (0, 0) v hg]
    have ih := run_storeCells_at g off t rest (i + 1) (cur.setIfInBounds (off + i) v) (w.setRow g (cur.setIfInBounds (off + i) v)) (setRow_heap w g cur _ t _ hg) (by simp at hl ⊢; omega) (fun x hx => h1 x (by simp [hx]))
    simp only [storeCells, Sem.run_bind, hst, Result.andThen_ok, ih, setRow_setRow]
    rfl
/-- Bytes with others laid from a place on. -/
def putMany (l : List UInt8) (p : Nat) : List UInt8 → List UInt8
  | [] => l
  | x :: r => putMany (l.set p x) (p + 1) r
theorem setMany_bytes : ∀ (m l : List UInt8) (p : Nat), setMany (bcells l) p (Lib.byteCells m) = bcells (putMany l p m)
  | [], l, p => rfl
  | x :: r, l, p => by
    rw [show Lib.byteCells (x :: r) = Value.int .u8 x.toNat :: Lib.byteCells r from rfl, setMany, bcells_set, putMany]
    exact setMany_bytes r (l.set p x) (p + 1)
theorem putMany_length : ∀ (m l : List UInt8) (p : Nat), (putMany l p m).length = l.length
  | [], l, p => rfl
  | x :: r, l, p => by rw [putMany, putMany_length r, List.length_set]
theorem putMany_get : ∀ (m l : List UInt8) (p i : Nat), p + m.length ≤ l.length → (putMany l p m).getD i 0 = if p ≤ i ∧ i < p + m.length then m.getD (i - p) 0 else l.getD i 0
  | [], l, p, i, _ => by rw [putMany, if_neg (by simp)]
  | x :: r, l, p, i, h => by
    rw [List.length_cons] at h ⊢
    rw [putMany, putMany_get r _ _ _ (by rw [List.length_set]; omega)]
    by_cases h1 : p + 1 ≤ i ∧ i < p + 1 + r.length
    · rw [if_pos h1, if_pos (by omega), show i - p = (i - (p + 1)) + 1 by omega, List.getD_cons_succ]
    · rw [if_neg h1, List.getD_eq_getElem?_getD, List.getElem?_set]
      by_cases h2 : p = i
      · subst h2
        rw [if_pos rfl, if_pos (by omega), if_pos (by omega)]
        simp
      · rw [if_neg h2, if_neg (by omega), ← List.getD_eq_getElem?_getD]
/-- Bytes from a place on. -/
def subL (l : List UInt8) (off n : Nat) : List UInt8 := (l.drop off).take n
theorem subL_length (l : List UInt8) (off n : Nat) (h : off + n ≤ l.length) : (subL l off n).length = n := by simp [subL]; omega
theorem subL_get? (l : List UInt8) (off n j : Nat) (h : j < n) : (subL l off n)[j]? = l[off + j]? := by
  rw [subL, List.getElem?_take, if_pos h, List.getElem?_drop]
theorem subL_getD (l : List UInt8) (off n j : Nat) (h : j < n) : (subL l off n).getD j 0 = l.getD (off + j) 0 := by
  rw [List.getD_eq_getElem?_getD, List.getD_eq_getElem?_getD, subL_get? _ _ _ _ h]

theorem run_loadVar_sub (w : World) (g off : Nat) (t ty : TypeId) (l : List UInt8) (n : Nat) (fr : Nat × Nat) (d : TypeDesc) (hg : w.heap[g]? = some (.cells (bcells l) t fr))
    (hu : Tryd.prog.underlying ty = some d) (hd : (match d with | .struct _ | .array _ _ => true | _ => false) = true) (hi : (Tryd.prog.info? ty).map (·.size) = some n) (hn : off + n ≤ l.length) :
    (loadVar ty ⟨g, off, none⟩).run Tryd.prog w = .ok (.agg (bcells (subL l off n))) w := by
  have hlen : (Lib.byteCells (subL l off n)).length = n := by rw [Lib.byteCells_length, subL_length _ _ _ hn]
  have hl : (loadCells ⟨g, off, none⟩ (Lib.byteCells (subL l off n)).length).run Tryd.prog w = .ok (Lib.byteCells (subL l off n)).toArray w :=
    run_loadCells_list (P := Tryd.prog) w ⟨g, off, none⟩ (Lib.byteCells (subL l off n)) (fun j v hv => by
      have hadd : (⟨g, off, none⟩ : Addr).add j = ⟨g, off + j, none⟩ := by unfold Addr.add; split <;> simp_all
      have hj : j < n := by have := (List.getElem?_eq_some_iff.1 hv).1; omega
      simp only [Lib.byteCells, List.getElem?_map, Option.map_eq_some_iff] at hv
      obtain ⟨x, hx, rfl⟩ := hv
      rw [subL_get? _ _ _ _ hj] at hx
      rw [hadd, cell_of_row w g _ _ t fr hg]
      exact bcells_get l _ x hx)
  rw [hlen] at hl
  cases hq : Tryd.prog.info? ty with
  | none => simp [hq] at hi
  | some i =>
    have hs : i.size = n := by simpa [hq] using hi
    have hagg : (isAgg ty).run Tryd.prog w = .ok true w := by
      unfold isAgg
      rw [Sem.run_bind, run_underlying hu w]
      cases d <;> simp_all
    simp [loadVar, Sem.run_bind, hagg, sizeOf, typeInfo, hq, hs, hl]
    rfl
theorem run_storeVar_sub (w : World) (g off : Nat) (t ty : TypeId) (l m : List UInt8) (hg : w.heap[g]? = some (.cells (bcells l) t)) (hi : (Tryd.prog.info? ty).map (·.size) = some m.length) (hn : off + m.length ≤ l.length) :
    (storeVar ty ⟨g, off, none⟩ (.agg (bcells m))).run Tryd.prog w = .ok () (w.setRow g (bcells (putMany l off m))) := by
  have h := run_storeCells_at g off t (Lib.byteCells m) 0 (bcells l) w hg (by rw [Lib.byteCells_length, bcells_size]; omega) (fun v hv => by
    simp only [Lib.byteCells, List.mem_map] at hv
    obtain ⟨x, _, rfl⟩ := hv
    rfl)
  rw [Nat.add_zero, setMany_bytes] at h
  have hs0 : (bcells m).size = m.length := bcells_size m
  have hl0 : (bcells m).toList = Lib.byteCells m := by simp [bcells]
  cases hq : Tryd.prog.info? ty with
  | none => simp [hq] at hi
  | some i =>
    have hs : m.length = i.size := by simp [hq] at hi; omega
    simp [storeVar, sizeOf, typeInfo, hq, Value.cells, hs0, hs, hl0, h]
theorem wpList_load_sub {ops : Array Oper} {rest : List Oper} {o : Oper} {a : Act} {w : World} {Q : Exit → Act → World → Prop} (hgd : o.guard = none) (ty : TypeId) (x : Operand) (ho : o.op = .load ty x)
    (g off : Nat) (hx : a.eval x = .pointer (some ⟨g, off, none⟩)) (t : TypeId) (l : List UInt8) (n : Nat) (fr : Nat × Nat) (d : TypeDesc) (hg : w.heap[g]? = some (.cells (bcells l) t fr))
    (hu : Tryd.prog.underlying ty = some d) (hd : (match d with | .struct _ | .array _ _ => true | _ => false) = true) (hi : (Tryd.prog.info? ty).map (·.size) = some n) (hn : off + n ≤ l.length)
    (h : wpList Tryd.prog ops Q rest (a.put o.dst (.agg (bcells (subL l off n)))) w) : wpList Tryd.prog ops Q (o :: rest) a w :=
  wpList_plain hgd fun _ hK => by
    unfold Oper.wp execOp
    simp only [ho, hx, Instr.loadAt, Instr.sureAddr, Sem.run_bind, Sem.run_pure, Result.andThen_ok, run_loadVar_sub w g off t ty l n fr d hg hu hd hi hn]
    exact hK _ _ h
theorem wpList_store_sub {ops : Array Oper} {rest : List Oper} {o : Oper} {a : Act} {w : World} {Q : Exit → Act → World → Prop} (hgd : o.guard = none) (ty : TypeId) (x y : Operand) (ho : o.op = .store ty x y)
    (g off : Nat) (l m : List UInt8) (hx : a.eval x = .pointer (some ⟨g, off, none⟩)) (hy : a.eval y = .agg (bcells m)) (t : TypeId) (hg : w.heap[g]? = some (.cells (bcells l) t))
    (hi : (Tryd.prog.info? ty).map (·.size) = some m.length) (hn : off + m.length ≤ l.length)
    (h : wpList Tryd.prog ops Q rest (a.put o.dst undef) (w.setRow g (bcells (putMany l off m)))) : wpList Tryd.prog ops Q (o :: rest) a w :=
  wpList_plain hgd fun _ hK => by
    unfold Oper.wp execOp
    simp only [ho, hx, hy, Instr.storeAt, Instr.sureAddr, Sem.run_bind, Sem.run_pure, Result.andThen_ok, run_storeVar_sub w g off t ty l m hg hi hn]
    exact hK _ _ h
theorem sub_regrown {w : World} (ty : TypeId) (g off : Nat) (t : TypeId) (l : List UInt8) (n : Nat) (fr : Nat × Nat) (d : TypeDesc) (hg : w.heap[g]? = some (.cells (bcells l) t fr))
    (hu : Tryd.prog.underlying ty = some d) (hd : (match d with | .struct _ | .array _ _ => true | _ => false) = true) (hi : (Tryd.prog.info? ty).map (·.size) = some n) (hn : off + n ≤ l.length) (k : Nat) (os : Array Obj) :
    (Instr.loadAt ty (.pointer (some ⟨g, off, none⟩))).run Tryd.prog (grow (redrawn w k) os) = .ok (.agg (bcells (subL l off n))) (grow (redrawn w k) os) := by
  have hg' : (grow (redrawn w k) os).heap[g]? = some (.cells (bcells l) t fr) := ((below_regrown w k os).block g (blk_lt hg)).trans hg
  simp only [Instr.loadAt, Instr.sureAddr, Sem.run_bind, Sem.run_pure, Result.andThen_ok, run_loadVar_sub _ g off t ty l n fr d hg' hu hd hi hn]
/-- One array out of an array of arrays by value. -/
theorem run_index_sub (t e : TypeId) (n k s : Nat) (l : List UInt8) (d : TypeDesc) (hu : Tryd.prog.underlying t = some (.array n e)) (hs : (Tryd.prog.info? e).map (·.size) = some s) (hue : Tryd.prog.underlying e = some d) (hd : (match d with | .struct _ | .array _ _ => true | _ => false) = true) (hk : k < n) (w : World) :
    (Instr.index t (.agg (bcells l)) (.int .i64 (k : Int))).run Tryd.prog w = .ok (.agg (bcells (subL l (k * s) s))) w := by
  have hn : (0 : Int) ≤ (k : Int) ∧ (k : Int) < (n : Int) := by omega
  have hsz : ∀ w, (sizeOf e).run Tryd.prog w = .ok s w := fun w => by
    cases hq : Tryd.prog.info? e with
    | none => simp [hq] at hs
    | some i => simp [hq] at hs; simp [sizeOf, typeInfo, hq, hs]
  have hagg : ∀ w, (isAgg e).run Tryd.prog w = .ok true w := fun w => by
    unfold isAgg
    rw [Sem.run_bind, run_underlying hue w]
    cases d <;> simp_all
  have he : (bcells l).extract (k * s) (k * s + s) = bcells (subL l (k * s) s) := by
    simp [bcells, Lib.byteCells, subL, List.map_take, List.map_drop]
  simp [Instr.index, run_underlying hu, asIntOf, hn, go_sem, part, hsz, hagg, he]
  intro h; omega
end

section
open Go.RowKit Go.Sort
set_option maxRecDepth 100000
set_option linter.unusedSimpArgs false
set_option linter.unusedVariables false

/-- What is said of an operation of the head: the block that it makes; or the value that it yields, and the slots that it reads with what they hold. -/
structure HeadSpec where
  al : Option Obj
  v : Value
  rd : List (Nat × Value)
def HeadSpec.val (v : Value) (rd : List (Nat × Value)) : HeadSpec := ⟨none, v, rd⟩
def HeadSpec.fresh (ob : Obj) : HeadSpec := ⟨some ob, undef, []⟩

def sQuiet (P : Program) (w : World) (v : Value) : Result Next → Prop
  | .ok (.value u) w' => w' = w ∧ u = v
  | .ok (.enter f args) w' => w' = w ∧ Calls P f args w (fun e w'' => e = .returned v ∧ Below w.heap.size w w'')
  | _ => False
theorem wp_of_sQuiet {P : Program} {o : Oper} {a : Act} {w : World} {v : Value} {K : Act → World → Prop} {Q : Exit → Act → World → Prop}
    (h : sQuiet P w v ((execOp a.eval o).run P w)) (hK : ∀ w', Below w.heap.size w w' → K (a.put o.dst v) w') : o.wp P a w K Q := by
  unfold Oper.wp
  generalize (execOp a.eval o).run P w = r at *
  cases r with
  | ok n w' =>
    cases n <;> simp only [sQuiet] at h <;> simp only [Oper.upon]
    case value u => obtain ⟨rfl, rfl⟩ := h; exact hK _ (Below.refl _ _)
    case enter f args =>
      obtain ⟨rfl, hc⟩ := h
      exact hc.mono fun e w'' ⟨he, hw''⟩ => by subst he; exact hK _ hw''
  | halt x w' => simp only [sQuiet] at h

section
variable {P : Program} {ops : Array Oper}

def dstOf (ops : Array Oper) (i : Nat) : Option Tmp := (ops[i]?).bind (·.dst)
def headOpB (ops : Array Oper) (n m i : Nat) : Bool :=
  match ops[i]? with
  | some o => o.guard.isNone && o.after.all (fun e => !Region.binds .any e || decide (e.on < i)) && (match o.dst with
    | some d => decide (d < m) && (List.range n).all fun j => j == i || dstOf ops j != some d
    | none => false)
  | none => false
def headRdB (ops : Array Oper) (n i : Nat) (als : List Bool) (rd : List Nat) : Bool := rd.all fun k => (List.range n).all fun j => dstOf ops j != some k || (Region.waitsFor .any ops i j && !als.getD j true)
def freshB (ops : Array Oper) (n m : Nat) (als : List Bool) (rds : List (List Nat)) : Bool :=
  decide (n < ops.size) && Region.sinkB .any ops n && Region.chainB .any ops n && (List.range n).all (headOpB ops n m) && (List.range n).all (fun i => headRdB ops n i als (rds.getD i [])) && decide (rds.length = n) &&
  Region.seqB .any ops (ops.size - n) n (Array.replicate n true ++ Array.replicate (ops.size - n) false)

/-- How many of the head are still to come. -/
def toCome (listed : Array Bool) (n : Nat) : Nat := ((List.range n).filter fun i => !listed.getD i false).length
theorem getD_set_self (listed : Array Bool) (i : Nat) (h : i < listed.size) : (listed.setIfInBounds i true).getD i false = true := by simp [Array.getD_eq_getD_getElem?, h]
theorem getD_set_not (listed : Array Bool) (i j : Nat) (h : i ≠ j) (b : Bool) : (listed.setIfInBounds i true).getD j b = listed.getD j b := by simp [Array.getD_eq_getD_getElem?, Array.getElem?_setIfInBounds, h]
theorem toCome_set (listed : Array Bool) (n i : Nat) (hi : i < n) (hs : i < listed.size) (hu : listed.getD i false = false) : toCome listed n = toCome (listed.setIfInBounds i true) n + 1 := by
  induction n with
  | zero => omega
  | succ n ih =>
    unfold toCome at *
    rw [List.range_succ, List.filter_append, List.filter_append, List.length_append, List.length_append]
    by_cases h : i = n
    · subst h
      have e : (List.range i).filter (fun j => !(listed.setIfInBounds i true).getD j false) = (List.range i).filter (fun j => !listed.getD j false) := by
        apply List.filter_congr
        intro j hj
        have := List.mem_range.1 hj
        rw [getD_set_not _ _ _ (by omega)]
      rw [e]
      simp only [List.filter_cons, hu, getD_set_self _ _ hs]
      simp
    · rw [ih (by omega)]
      simp only [List.filter_cons, getD_set_not _ _ _ h]
      split <;> simp <;> omega
theorem toCome_zero (listed : Array Bool) (n : Nat) (h : toCome listed n = 0) : ∀ i, i < n → listed.getD i false = true := by
  intro i hi
  unfold toCome at h
  have := List.length_eq_zero_iff.1 h
  rw [List.filter_eq_nil_iff] at this
  simpa using this i (List.mem_range.2 hi)
theorem toCome_pos (listed : Array Bool) (n f : Nat) (h : toCome listed n = f + 1) : ∃ i, i < n ∧ listed.getD i false = false ∧ ∀ j, j < i → listed.getD j false = true := by
  induction n with
  | zero => simp [toCome] at h
  | succ n ih =>
    by_cases h0 : toCome listed n = 0
    · refine ⟨n, by omega, ?_, fun j hj => toCome_zero _ _ h0 j hj⟩
      unfold toCome at h h0
      rw [List.range_succ, List.filter_append, List.length_append, h0] at h
      cases hb : listed.getD n false
      · rfl
      · simp only [List.filter_cons, hb, Bool.not_true, Bool.false_eq_true, if_false, List.filter_nil, List.length_nil] at h; omega
    · obtain ⟨f', hf'⟩ : ∃ f', toCome listed n = f' + 1 := ⟨toCome listed n - 1, by omega⟩
      have : ∃ i, i < n ∧ listed.getD i false = false ∧ ∀ j, j < i → listed.getD j false = true := by
        clear ih
        -- the least one below n
        have hex : ∃ i, i < n ∧ listed.getD i false = false := by
          unfold toCome at hf'
          have hne : (List.range n).filter (fun i => !listed.getD i false) ≠ [] := by intro e; rw [e] at hf'; simp at hf'
          obtain ⟨i, hi⟩ := List.exists_mem_of_ne_nil _ hne
          simp only [List.mem_filter, List.mem_range] at hi
          exact ⟨i, hi.1, by simpa using hi.2⟩
        obtain ⟨i, hi, hf⟩ := hex
        induction i using Nat.strongRecOn with
        | _ i ih =>
          by_cases hall : ∀ j, j < i → listed.getD j false = true
          · exact ⟨i, hi, hf, hall⟩
          · obtain ⟨j, hj⟩ : ∃ j, ¬ (j < i → listed.getD j false = true) := Classical.not_forall.1 hall
            have hji : j < i := Classical.byContradiction fun h => hj fun h' => absurd h' h
            have hjf : listed.getD j false = false := by cases hb : listed.getD j false; rfl; exact absurd (fun _ => hb) hj
            exact ih j hji (by omega) hjf
      obtain ⟨i, hi, h1, h2⟩ := this
      exact ⟨i, by omega, h1, h2⟩

/-- A region by an invariant of its head. -/
theorem wp_region_inv {id : Nat} {Q : Exit → Act → World → Prop} {a : Act} {w : World} {l : List Oper} (n m : Nat) (als : List Bool) (rds : List (List Nat)) (hm : P.follows .mixedOrders = true) (hB : freshB l.toArray n m als rds = true)
    (J : Array Bool → Act → World → Prop) (h0 : J (Array.replicate l.toArray.size false) a { w with drawn := w.drawn + 1 })
    (hstep : ∀ i, i < n → ∀ listed a' w', i ∈ Region.ready .any l.toArray listed → HeadInv .any l.toArray n listed → J listed a' w' → wpOp P l.toArray Q i (J (listed.setIfInBounds i true)) a' w')
    (hend : ∀ listed a' w', (∀ i, i < n → listed.getD i false = true) → J listed a' w' → wpList P l.toArray Q (l.drop n) a' w') : (Code.region id l.toArray true).wp P Q a w := by
  unfold freshB at hB
  simp only [Bool.and_eq_true, decide_eq_true_eq] at hB
  obtain ⟨⟨⟨⟨⟨⟨hn, hs⟩, hc⟩, hops⟩, _⟩, _⟩, hseq⟩ := hB
  have hn' : n < l.length := by simpa using hn
  refine wp_region_any hm ?_
  have main : ∀ (f : Nat) (listed : Array Bool) (a' : Act) (w' : World), toCome listed n = f → HeadInv .any l.toArray n listed → J listed a' w' → wpAny P .any l.toArray Q (f + (l.toArray.size - n)) listed a' w' := by
    intro f
    induction f with
    | zero =>
      intro listed a' w' hf inv hJ
      have hall := toCome_zero _ _ hf
      have hl : listed = Array.replicate n true ++ Array.replicate (l.toArray.size - n) false := by
        apply Array.ext
        · simp [inv.size]; omega
        · intro i h1 h2
          by_cases hi : i < n
          · have := hall i hi
            simp [Array.getD_eq_getD_getElem?, h1] at this
            rw [this, Array.getElem_append_left (by simpa using hi)]; simp
          · have := inv.tail i (by omega) (by rw [← inv.size]; exact h1)
            simp [Array.getD_eq_getD_getElem?, h1] at this
            rw [this, Array.getElem_append_right (by simp; omega)]; simp
      have hdl : (l.drop n).length = l.toArray.size - n := by simp
      have := wpAny_of_seq (md := .any) (Q' := Q) (l.drop n) n listed a' w' (fun j => by simp [List.getElem?_drop]) (by rw [hdl, hl]; exact hseq) (hend listed a' w' hall hJ)
      rw [hdl] at this
      rwa [Nat.zero_add]
    | succ f ih =>
      intro listed a' w' hf inv hJ
      obtain ⟨i, hi, hun, hall⟩ := toCome_pos _ _ _ hf
      have hil : i < listed.size := by rw [inv.size]; omega
      have hunt : listed.getD i true = false := Go.getD_in hil hun
      have hready : i ∈ Region.ready .any l.toArray listed := by
        rw [mem_ready]
        have hop := List.all_eq_true.1 hops i (List.mem_range.2 hi)
        unfold headOpB at hop
        have hio : l.toArray[i]? = some l.toArray[i] := Array.getElem?_eq_getElem (by simpa using Nat.lt_trans hi hn')
        rw [hio] at hop
        simp only [Bool.and_eq_true] at hop
        refine ⟨hunt, _, hio, fun e he hb => ?_⟩
        have := Array.all_eq_true'.1 hop.1.2 e he
        simp only [hb, Bool.not_true, Bool.false_or, decide_eq_true_eq] at this
        exact hall _ this
      rw [show f + 1 + (l.toArray.size - n) = (f + (l.toArray.size - n)) + 1 by omega]
      refine ⟨fun h => (by rw [h] at hready; cases hready), fun j hj => ?_⟩
      have hjn : j < n := Nat.lt_of_not_le fun h => absurd hj (tail_waits hs hc hn inv _ i rfl hi hunt j h)
      have hjl : j < listed.size := by rw [inv.size]; omega
      have hju : listed.getD j false = false := Go.getD_both (mem_ready.1 hj).1
      refine wpOp_mono (fun a'' w'' h => ih _ a'' w'' ?_ (inv.set hj hjn) h) (hstep j hjn listed a' w' hj inv hJ)
      have := toCome_set listed n j hjn hjl hju
      omega
  have hf0 : toCome (Array.replicate l.toArray.size false) n = n := by
    unfold toCome
    have : (List.range n).filter (fun i => !(Array.replicate l.toArray.size false).getD i false) = List.range n := by
      rw [List.filter_eq_self]; intro i _; rw [Go.getD_replicate_false]; rfl
    rw [this, List.length_range]
  have inv0 : HeadInv .any l.toArray n (Array.replicate l.toArray.size false) :=
    ⟨by simp, fun j oj _ hl => (by rw [Go.getD_replicate_false] at hl; cases hl), fun t _ ht => Go.getD_in (by simpa using ht) (Go.getD_replicate_false _ _)⟩
  have := main n _ a _ hf0 inv0 h0
  rwa [show n + (l.toArray.size - n) = l.toArray.size by omega] at this

/-- The frame behind the head. -/
def headPut : Act → List Oper → (Nat → Value) → Nat → Act
  | a, [], _, _ => a
  | a, o :: l, vs, k => headPut (a.put o.dst (vs k)) l vs (k + 1)
def specV (S : List HeadSpec) (i : Nat) : Value := ((S[i]?).map (·.v)).getD undef
/-- What is to be shown of each operation of the head. -/
def specObl (P : Program) (w0 : World) (o : Oper) (s : HeadSpec) : Prop :=
  match s.al with
  | some ob => ∀ (a : Act) (w : World), Below w0.heap.size w0 w → (execOp a.eval o).run P w = .ok (.value (.pointer (some ⟨w.heap.size, 0, none⟩))) (w.alloc ob)
  | none => ∀ (a : Act) (w : World), Below w0.heap.size w0 w → (∀ p ∈ s.rd, a.tmps.getD p.1 undef = p.2) → sQuiet P w s.v ((execOp a.eval o).run P w)
def headObl (P : Program) (w0 : World) : List Oper → List HeadSpec → Prop
  | o :: l, s :: S => specObl P w0 o s ∧ headObl P w0 l S
  | [], [] => True
  | _, _ => False
def headReads (aF : Act) : List HeadSpec → Prop
  | [] => True
  | s :: S => (∀ p ∈ s.rd, aF.tmps.getD p.1 undef = p.2) ∧ headReads aF S
/-- What follows: for whatever new blocks. -/
def headEnd (P : Program) (ops : Array Oper) (Q : Exit → Act → World → Prop) (rest : List Oper) (w0 : World) : List Oper → List HeadSpec → Act → List (Nat × Obj) → Prop
  | o :: l, s :: S, a, gs => match s.al with
    | none => headEnd P ops Q rest w0 l S (a.put o.dst s.v) gs
    | some ob => ∀ g : Nat, w0.heap.size ≤ g → (∀ p ∈ gs, p.1 ≠ g) → headEnd P ops Q rest w0 l S (a.put o.dst (.pointer (some ⟨g, 0, none⟩))) (gs ++ [(g, ob)])
  | _, _, a, gs => ∀ w' : World, Below w0.heap.size w0 w' → (∀ p ∈ gs, w'.heap[p.1]? = some p.2) → wpList P ops Q rest a w'
theorem headObl_get {w0 : World} : ∀ {l : List Oper} {S : List HeadSpec}, headObl P w0 l S → l.length = S.length ∧ ∀ (i : Nat) (o : Oper) (s : HeadSpec), l[i]? = some o → S[i]? = some s → specObl P w0 o s
  | [], [], _ => ⟨rfl, fun i o s h _ => by simp at h⟩
  | o :: l, s :: S, h => by
    obtain ⟨h1, h2⟩ := h
    obtain ⟨hl, hg⟩ := headObl_get h2
    refine ⟨by simp [hl], fun i o' s' ho hs => ?_⟩
    cases i with
    | zero => simp at ho hs; subst ho hs; exact h1
    | succ i => simp at ho hs; exact hg i o' s' ho hs
  | [], _ :: _, h => h.elim
  | _ :: _, [], h => h.elim
theorem headReads_get {aF : Act} : ∀ {S : List HeadSpec}, headReads aF S → ∀ (i : Nat) (s : HeadSpec), S[i]? = some s → ∀ p ∈ s.rd, aF.tmps.getD p.1 undef = p.2
  | [], _, i, s, h => by simp at h
  | s :: S, hr, i, s', h => by
    cases i with
    | zero => simp at h; subst h; exact hr.1
    | succ i => simp at h; exact headReads_get hr.2 i s' h

/-- A frame that is a0 but for what some of the head have put. -/
structure FrameIs (ops : Array Oper) (n : Nat) (a0 : Act) (vs : Nat → Value) (listed : Array Bool) (a : Act) : Prop where
  defers : a.defers = a0.defers
  size : a.tmps.size = a0.tmps.size
  put : ∀ j d, j < n → listed.getD j false = true → dstOf ops j = some d → a.tmps.getD d undef = vs j
  old : ∀ d, (∀ j, j < n → listed.getD j false = true → dstOf ops j ≠ some d) → a.tmps.getD d undef = a0.tmps.getD d undef
theorem tmps_put (a : Act) (d k : Nat) (v : Value) (hd : d < a.tmps.size) : (a.put (some d) v).tmps.getD k undef = if k = d then v else a.tmps.getD k undef := by
  simp only [Act.put, Array.getD_eq_getD_getElem?, Array.getElem?_setIfInBounds]
  by_cases h : d = k
  · subst h; simp [hd]
  · simp [h, Ne.symm h]
theorem FrameIs.step {n i d : Nat} {a0 a : Act} {vs : Nat → Value} {listed : Array Bool} (h : FrameIs ops n a0 vs listed a) (hi : i < n) (hil : i < listed.size) (hu : listed.getD i false = false) (hd : dstOf ops i = some d) (hdm : d < a0.tmps.size)
    (hne : ∀ j, j < n → j ≠ i → dstOf ops j ≠ some d) (v : Value) : FrameIs ops n a0 (fun j => if j = i then v else vs j) (listed.setIfInBounds i true) (a.put (some d) v) := by
  have hda : d < a.tmps.size := by rw [h.size]; exact hdm
  refine ⟨h.defers, by simp [Act.put, h.size], fun j d' hj hlj hdj => ?_, fun d' hno => ?_⟩
  · rw [tmps_put _ _ _ _ hda]
    by_cases hji : j = i
    · subst hji; rw [hd] at hdj; cases hdj; simp
    · have : d' ≠ d := fun e => hne j hj hji (by rw [hdj, e])
      rw [if_neg this, if_neg hji]
      rw [getD_set_not _ _ _ (Ne.symm hji)] at hlj
      exact h.put j d' hj hlj hdj
  · rw [tmps_put _ _ _ _ hda]
    have : d' ≠ d := fun e => hno i hi (getD_set_self _ _ hil) (by rw [hd, e])
    rw [if_neg this]
    exact h.old d' fun j hj hlj => by
      by_cases hji : j = i
      · subst hji; rw [hu] at hlj; cases hlj
      · exact hno j hj (by rw [getD_set_not _ _ _ (Ne.symm hji)]; exact hlj)
theorem FrameIs.eq {n : Nat} {a0 a b : Act} {vs : Nat → Value} {listed listed' : Array Bool} (h : FrameIs ops n a0 vs listed a) (k : FrameIs ops n a0 vs listed' b) (hl : ∀ i, i < n → listed.getD i false = true) (hl' : ∀ i, i < n → listed'.getD i false = true) : a = b := by
  have ht : a.tmps = b.tmps := by
    apply Array.ext
    · rw [h.size, k.size]
    · intro d h1 h2
      have e : a.tmps.getD d undef = b.tmps.getD d undef := by
        by_cases hx : ∃ j, j < n ∧ dstOf ops j = some d
        · obtain ⟨j, hj, hd⟩ := hx
          rw [h.put j d hj (hl j hj) hd, k.put j d hj (hl' j hj) hd]
        · rw [h.old d fun j hj _ e => hx ⟨j, hj, e⟩, k.old d fun j hj _ e => hx ⟨j, hj, e⟩]
      simpa [Array.getD_eq_getD_getElem?, h1, h2] using e
  cases a; cases b
  have h1 := h.defers; have h2 := k.defers
  simp only at ht h1 h2
  rw [ht, h1, h2]
theorem headPut_is {n : Nat} {a0 : Act} {vs : Nat → Value} (hops : ∀ i, i < n → ∃ d, dstOf ops i = some d ∧ d < a0.tmps.size ∧ ∀ j, j < n → j ≠ i → dstOf ops j ≠ some d) :
    ∀ (l' : List Oper) (k : Nat) (listed : Array Bool) (b : Act), k + l'.length = n → (∀ j, j < l'.length → l'[j]? = ops[k + j]?) → n ≤ listed.size → (∀ i, i < n → listed.getD i false = decide (i < k)) → FrameIs ops n a0 vs listed b →
    ∃ listed', (∀ i, i < n → listed'.getD i false = true) ∧ FrameIs ops n a0 vs listed' (headPut b l' vs k)
  | [], k, listed, b, hk, _, _, hl, h => ⟨listed, fun i hi => by rw [hl i hi]; simp at hk; simp; omega, h⟩
  | o :: l', k, listed, b, hk, hops', hs, hl, h => by
    have hkn : k < n := by simp at hk; omega
    obtain ⟨d, hd, hdm, hne⟩ := hops k hkn
    have h0 : ops[k]? = some o := by simpa using (hops' 0 (by simp)).symm
    have hod : o.dst = some d := by simpa [dstOf, h0] using hd
    have hst := h.step hkn (by omega) (by rw [hl k hkn]; simp) hd hdm hne (vs k)
    rw [show (fun j => if j = k then vs k else vs j) = vs by funext j; split <;> simp_all] at hst
    rw [headPut, hod]
    refine headPut_is hops l' (k + 1) (listed.setIfInBounds k true) _ (by simp at hk; omega) (fun j hj => ?_) (by simpa using hs) (fun i hi => ?_) hst
    · have := hops' (j + 1) (by simp; omega)
      simpa [Nat.add_assoc, Nat.add_comm 1 j] using this
    · by_cases hik : i = k
      · subst hik; rw [getD_set_self _ _ (by omega)]; simp
      · rw [getD_set_not _ _ _ (Ne.symm hik), hl i hi]
        rw [show decide (i < k) = decide (i < k + 1) from by rw [decide_eq_decide]; omega]
def specAt (w0 w : World) (s : HeadSpec) (v : Value) : Prop :=
  match s.al with
  | none => v = s.v
  | some ob => ∃ g : Nat, v = .pointer (some ⟨g, 0, none⟩) ∧ w0.heap.size ≤ g ∧ w.heap[g]? = some ob
theorem specAt.keep {w0 w w' : World} {s : HeadSpec} {v : Value} (h : specAt w0 w s v) (hb : Below w.heap.size w w') : specAt w0 w' s v := by
  unfold specAt at *
  split
  · rename_i ha; simp only [ha] at h; exact h
  · rename_i ob ha
    simp only [ha] at h
    obtain ⟨g, h1, h2, h3⟩ := h
    exact ⟨g, h1, h2, blk_below hb (blk_lt h3) h3⟩
theorem headEnd_use {Q : Exit → Act → World → Prop} {rest : List Oper} {w0 w' : World} {vs : Nat → Value} (hb : Below w0.heap.size w0 w') :
    ∀ (l' : List Oper) (S' : List HeadSpec) (b : Act) (gs : List (Nat × Obj)) (k : Nat), l'.length = S'.length →
    (∀ (i : Nat) (s : HeadSpec), S'[i]? = some s → specAt w0 w' s (vs (k + i))) →
    (∀ (i : Nat) (s : HeadSpec), S'[i]? = some s → s.al.isSome = true → ∀ p ∈ gs, vs (k + i) ≠ .pointer (some ⟨p.1, 0, none⟩)) →
    (∀ (i j : Nat) (s t : HeadSpec), S'[i]? = some s → S'[j]? = some t → i ≠ j → s.al.isSome = true → t.al.isSome = true → vs (k + i) ≠ vs (k + j)) →
    (∀ p ∈ gs, w'.heap[p.1]? = some p.2) → headEnd P ops Q rest w0 l' S' b gs → wpList P ops Q rest (headPut b l' vs k) w'
  | [], [], b, gs, k, _, _, _, _, hg, h => by rw [headPut]; exact h w' hb hg
  | o :: l', s :: S', b, gs, k, hl, h1, h2, h3, hg, h => by
    have hs := h1 0 s (by simp)
    rw [Nat.add_zero] at hs
    have n1 : ∀ (i : Nat) (t : HeadSpec), S'[i]? = some t → specAt w0 w' t (vs (k + 1 + i)) := fun i t ht => by
      have := h1 (i + 1) t (by simpa using ht); rwa [show k + (i + 1) = k + 1 + i by omega] at this
    have n3 : ∀ (i j : Nat) (t u : HeadSpec), S'[i]? = some t → S'[j]? = some u → i ≠ j → t.al.isSome = true → u.al.isSome = true → vs (k + 1 + i) ≠ vs (k + 1 + j) := fun i j t u ht hu hij => by
      have := h3 (i + 1) (j + 1) t u (by simpa using ht) (by simpa using hu) (by omega)
      rwa [show k + (i + 1) = k + 1 + i by omega, show k + (j + 1) = k + 1 + j by omega] at this
    have n2 : ∀ (i : Nat) (t : HeadSpec), S'[i]? = some t → t.al.isSome = true → ∀ p ∈ gs, vs (k + 1 + i) ≠ .pointer (some ⟨p.1, 0, none⟩) := fun i t ht ha p hp => by
      have := h2 (i + 1) t (by simpa using ht) ha p hp; rwa [show k + (i + 1) = k + 1 + i by omega] at this
    rw [headPut]
    unfold headEnd at h
    cases hal : s.al with
    | none =>
      simp only [hal] at h
      have hv : vs k = s.v := by unfold specAt at hs; simpa only [hal] using hs
      rw [hv]
      exact headEnd_use hb l' S' _ gs (k + 1) (by simpa using hl) n1 n2 n3 hg h
    | some ob =>
      simp only [hal] at h
      have hv : ∃ g : Nat, vs k = .pointer (some ⟨g, 0, none⟩) ∧ w0.heap.size ≤ g ∧ w'.heap[g]? = some ob := by unfold specAt at hs; simpa only [hal] using hs
      obtain ⟨g, hvg, hge, hgo⟩ := hv
      rw [hvg]
      have hnew := h g hge (fun p hp e => h2 0 s (by simp) (by simp [hal]) p hp (by rw [Nat.add_zero, hvg, e]))
      refine headEnd_use hb l' S' _ (gs ++ [(g, ob)]) (k + 1) (by simpa using hl) n1 (fun i t ht ha p hp => ?_) n3 (fun p hp => ?_) hnew
      · rcases List.mem_append.1 hp with hp | hp
        · exact n2 i t ht ha p hp
        · have : p = (g, ob) := by simpa using hp
          subst this
          have := h3 (i + 1) 0 t s (by simpa using ht) (by simp) (by omega) ha (by simp [hal])
          rw [show k + (i + 1) = k + 1 + i by omega, show k + 0 = k from rfl, hvg] at this
          exact this
      · rcases List.mem_append.1 hp with hp | hp
        · exact hg p hp
        · have : p = (g, ob) := by simpa using hp
          subst this; exact hgo
  | [], _ :: _, _, _, _, hl, _, _, _, _, _ => by simp at hl
  | _ :: _, [], _, _, _, hl, _, _, _, _, _ => by simp at hl

/-- The region. -/
theorem wp_region_fresh {id : Nat} {Q : Exit → Act → World → Prop} {a : Act} {w : World} {l : List Oper} (n m : Nat) (S : List HeadSpec) (hm : P.follows .mixedOrders = true)
    (hB : freshB l.toArray n m (S.map fun s => s.al.isSome) (S.map fun s => s.rd.map (·.1)) = true) (hsz : a.tmps.size = m)
    (hob : headObl P w (l.take n) S) (hrd : headReads (headPut a (l.take n) (specV S) 0) S)
    (hend : headEnd P l.toArray Q (l.drop n) w (l.take n) S a []) : (Code.region id l.toArray true).wp P Q a w := by
  have hB0 := hB
  unfold freshB at hB0
  simp only [Bool.and_eq_true, decide_eq_true_eq] at hB0
  obtain ⟨⟨⟨⟨⟨⟨hn, _⟩, _⟩, hops⟩, hrds⟩, hlen⟩, _⟩ := hB0
  have hn' : n < l.length := by simpa using hn
  have htl : (l.take n).length = n := by simp; omega
  obtain ⟨hSl, hget⟩ := headObl_get hob
  rw [htl] at hSl
  have hopi : ∀ i, i < n → ∃ o d, l.toArray[i]? = some o ∧ o.guard = none ∧ o.dst = some d ∧ dstOf l.toArray i = some d ∧ d < a.tmps.size ∧ ∀ j, j < n → j ≠ i → dstOf l.toArray j ≠ some d := fun i hi => by
    have hop := List.all_eq_true.1 hops i (List.mem_range.2 hi)
    unfold headOpB at hop
    have hio : l.toArray[i]? = some l.toArray[i] := Array.getElem?_eq_getElem (by simpa using Nat.lt_trans hi hn')
    rw [hio] at hop
    simp only [Bool.and_eq_true] at hop
    obtain ⟨⟨hg, _⟩, hd⟩ := hop
    cases hdd : l.toArray[i].dst with
    | none => rw [hdd] at hd; cases hd
    | some d =>
      rw [hdd] at hd
      simp only [Bool.and_eq_true, decide_eq_true_eq] at hd
      refine ⟨_, d, hio, by simpa using hg, hdd, by rw [dstOf, hio]; exact hdd, by rw [hsz]; exact hd.1, fun j hj hji e => ?_⟩
      have := List.all_eq_true.1 hd.2 j (List.mem_range.2 hj)
      simp only [Bool.or_eq_true, beq_iff_eq, bne_iff_ne] at this
      rcases this with h | h
      · exact hji h
      · exact h e
  have hfr0 : FrameIs l.toArray n a (specV S) (Array.replicate l.toArray.size false) a := ⟨rfl, rfl, fun j d _ h _ => (by rw [Go.getD_replicate_false] at h; cases h), fun _ _ => rfl⟩
  obtain ⟨lF, hlF, hF⟩ := headPut_is (ops := l.toArray) (n := n) (a0 := a) (vs := specV S) (fun i hi => by obtain ⟨o, d, _, _, _, h1, h2, h3⟩ := hopi i hi; exact ⟨d, h1, h2, h3⟩)
    (l.take n) 0 (Array.replicate l.toArray.size false) a (by omega) (fun j hj => by rw [htl] at hj; simp [List.getElem?_take, hj]) (by simp; omega) (fun i hi => by rw [Go.getD_replicate_false]; simp) hfr0
  refine wp_region_inv n m _ _ hm hB (fun listed a' w' => listed.size = l.toArray.size ∧ ∃ vs : Nat → Value, FrameIs l.toArray n a vs listed a' ∧ Below w.heap.size w w' ∧
      (∀ (i : Nat) (s : HeadSpec), i < n → listed.getD i false = true → S[i]? = some s → specAt w w' s (vs i)) ∧
      (∀ (i j : Nat) (s t : HeadSpec), i < n → j < n → listed.getD i false = true → listed.getD j false = true → S[i]? = some s → S[j]? = some t → i ≠ j → s.al.isSome = true → t.al.isSome = true → vs i ≠ vs j)) ?_ ?_ ?_
  · refine ⟨by simp, specV S, hfr0, ⟨rfl, rfl, rfl, Nat.le_refl _, fun _ _ => rfl⟩, fun i s _ h => (by rw [Go.getD_replicate_false] at h; cases h), fun i j s t _ _ h => (by rw [Go.getD_replicate_false] at h; cases h)⟩
  · intro i hi listed a' w' hr inv hJ
    obtain ⟨hls, vs, hf, hb, hsp, hdi⟩ := hJ
    obtain ⟨o, d, ho, hg, hod, hd, hdm, hne⟩ := hopi i hi
    have hu : listed.getD i false = false := Go.getD_both (mem_ready.1 hr).1
    have hil : i < listed.size := by rw [hls]; omega
    obtain ⟨s, hs⟩ : ∃ s, S[i]? = some s := ⟨S[i]'(by omega), List.getElem?_eq_getElem (by omega)⟩
    have hobl := hget i o s (by simpa [List.getElem?_take, hi] using ho) hs
    unfold wpOp
    simp only [ho]
    have hw : Region.wanted o (yielded l.toArray a'.tmps) = true := by simp [Region.wanted, hg]
    rw [if_pos hw]
    refine .inl ?_
    unfold specObl at hobl
    cases hal : s.al with
    | none =>
      simp only [hal] at hobl
      refine wp_of_sQuiet (hobl a' w' hb (fun p hp => ?_)) fun w'' hb2 => ?_
      · have hR := List.all_eq_true.1 hrds i (List.mem_range.2 hi)
        unfold headRdB at hR
        have hpi : p.1 ∈ (S.map fun s => s.rd.map (·.1)).getD i [] := by
          simp only [List.getD_eq_getElem?_getD, List.getElem?_map, hs, Option.map_some, Option.getD_some]
          exact List.mem_map.2 ⟨p, hp, rfl⟩
        have hR2 := List.all_eq_true.1 hR p.1 hpi
        rw [← headReads_get hrd i s hs p hp]
        by_cases hx : ∃ j, j < n ∧ dstOf l.toArray j = some p.1
        · obtain ⟨j, hj, hdj⟩ := hx
          have hR3 := List.all_eq_true.1 hR2 j (List.mem_range.2 hj)
          simp only [hdj, bne_self_eq_false, Bool.false_or, Bool.and_eq_true] at hR3
          obtain ⟨hw1, hw2⟩ := hR3
          obtain ⟨oj, hoj, e, he, hbi, heq⟩ := Region.waitsFor_spec hw1
          rw [ho] at hoj; cases hoj
          have hlj : listed.getD j false = true := by
            obtain ⟨_, o2, ho2, hall⟩ := mem_ready.1 hr
            rw [ho] at ho2; cases ho2
            rw [← heq]; exact hall e he hbi
          obtain ⟨t, ht⟩ : ∃ t, S[j]? = some t := ⟨S[j]'(by omega), List.getElem?_eq_getElem (by omega)⟩
          have hta : t.al = none := by
            simp only [List.getD_eq_getElem?_getD, List.getElem?_map, ht, Option.map_some, Option.getD_some, Bool.not_eq_true'] at hw2
            simpa using hw2
          rw [hf.put j p.1 hj hlj hdj, hF.put j p.1 hj (hlF j hj) hdj]
          have := hsp j t hj hlj ht
          unfold specAt at this
          simp only [hta] at this
          rw [this, specV, ht]; rfl
        · rw [hf.old p.1 fun j hj _ e => hx ⟨j, hj, e⟩, hF.old p.1 fun j hj _ e => hx ⟨j, hj, e⟩]
      · rw [hod]
        refine ⟨by simpa using hls, _, hf.step hi hil hu hd hdm hne s.v, hb.trans (hb2.mono hb.size), fun j t hj hlj ht => ?_, fun j k t u hj hk hlj hlk ht hu' hjk hta hua => ?_⟩
        · by_cases hji : j = i
          · subst hji; rw [hs] at ht; cases ht; unfold specAt; simp [hal]
          · simp only [if_neg hji]
            rw [getD_set_not _ _ _ (Ne.symm hji)] at hlj
            exact (hsp j t hj hlj ht).keep hb2
        · have hji : j ≠ i := fun e => by subst e; rw [hs] at ht; cases ht; simp [hal] at hta
          have hki : k ≠ i := fun e => by subst e; rw [hs] at hu'; cases hu'; simp [hal] at hua
          simp only [if_neg hji, if_neg hki]
          rw [getD_set_not _ _ _ (Ne.symm hji)] at hlj
          rw [getD_set_not _ _ _ (Ne.symm hki)] at hlk
          exact hdi j k t u hj hk hlj hlk ht hu' hjk hta hua
    | some ob =>
      simp only [hal] at hobl
      unfold Oper.wp
      rw [hobl a' w' hb]
      simp only [Oper.upon]
      rw [hod]
      have hb2 := below_new w' ob
      have hkey : ∀ j t, j < n → listed.getD j false = true → S[j]? = some t → t.al.isSome = true → vs j ≠ .pointer (some ⟨w'.heap.size, 0, none⟩) := fun j t hj hlj ht hta e => by
        have := hsp j t hj hlj ht
        unfold specAt at this
        cases hta' : t.al with
        | none => simp [hta'] at hta
        | some ob' =>
          simp only [hta'] at this
          obtain ⟨g, h1, _, h3⟩ := this
          rw [e] at h1
          have : w'.heap.size = g := by simpa using h1
          have := blk_lt h3
          omega
      refine ⟨by simpa using hls, _, hf.step hi hil hu hd hdm hne (.pointer (some ⟨w'.heap.size, 0, none⟩)), hb.trans (hb2.mono hb.size), fun j t hj hlj ht => ?_, fun j k t u hj hk hlj hlk ht hu' hjk hta hua => ?_⟩
      · by_cases hji : j = i
        · subst hji; rw [hs] at ht; cases ht; unfold specAt; simp only [hal]; exact ⟨w'.heap.size, by simp, hb.size, blk_new w' ob⟩
        · simp only [if_neg hji]
          rw [getD_set_not _ _ _ (Ne.symm hji)] at hlj
          exact (hsp j t hj hlj ht).keep hb2
      · by_cases hji : j = i
        · subst hji
          have hkj : k ≠ j := Ne.symm hjk
          simp only [if_pos, if_neg hkj]
          rw [getD_set_not _ _ _ (Ne.symm hkj)] at hlk
          exact fun e => hkey k u hk hlk hu' hua e.symm
        · rw [getD_set_not _ _ _ (Ne.symm hji)] at hlj
          by_cases hki : k = i
          · subst hki
            simp only [if_pos, if_neg hji]
            exact hkey j t hj hlj ht hta
          · simp only [if_neg hji, if_neg hki]
            rw [getD_set_not _ _ _ (Ne.symm hki)] at hlk
            exact hdi j k t u hj hk hlj hlk ht hu' hjk hta hua
  · intro listed a' w' hall hJ
    obtain ⟨hls, vs, hf, hb, hsp, hdi⟩ := hJ
    have hfr1 : FrameIs l.toArray n a vs (Array.replicate l.toArray.size false) a := ⟨rfl, rfl, fun j d _ h _ => (by rw [Go.getD_replicate_false] at h; cases h), fun _ _ => rfl⟩
    obtain ⟨lV, hlV, hV⟩ := headPut_is (ops := l.toArray) (n := n) (a0 := a) (vs := vs) (fun i hi => by obtain ⟨o, d, _, _, _, h1, h2, h3⟩ := hopi i hi; exact ⟨d, h1, h2, h3⟩)
      (l.take n) 0 (Array.replicate l.toArray.size false) a (by omega) (fun j hj => by rw [htl] at hj; simp [List.getElem?_take, hj]) (by simp; omega) (fun i hi => by rw [Go.getD_replicate_false]; simp) hfr1
    rw [hf.eq hV hall hlV]
    have hin : ∀ (i : Nat) (s : HeadSpec), S[i]? = some s → i < n := fun i s h => by have := (List.getElem?_eq_some_iff.1 h).1; omega
    refine headEnd_use hb (l.take n) S a [] 0 (by omega) (fun i s hs => ?_) (fun _ _ _ _ p hp => by simp at hp) (fun i j s t hs ht hij hsa hta => ?_) (fun p hp => by simp at hp) hend
    · rw [Nat.zero_add]; exact hsp i s (hin i s hs) (hall i (hin i s hs)) hs
    · rw [Nat.zero_add, Nat.zero_add]; exact hdi i j s t (hin i s hs) (hin j t ht) (hall i (hin i s hs)) (hall j (hin j t ht)) hs ht hij hsa hta
end

/-- A whole row that was there, loaded. -/
theorem sQuiet_load_row {P : Program} {o : Oper} {a : Act} {w : World} (ty : TypeId) (x : Operand) (ho : o.op = .load ty x)
    (g : Nat) (hx : a.eval x = .pointer (some ⟨g, 0, none⟩)) (t : TypeId) (cs : Array Value) (fr : Nat × Nat) (d : TypeDesc) (hg : w.heap[g]? = some (.cells cs t fr))
    (hu : P.underlying ty = some d) (hd : (match d with | .struct _ | .array _ _ => true | _ => false) = true) (hi : (P.info? ty).map (·.size) = some cs.size) : sQuiet P w (.agg cs) ((execOp a.eval o).run P w) := by
  unfold execOp
  simp only [ho, hx, Instr.loadAt, Instr.sureAddr, Sem.run_bind, Sem.run_pure, Result.andThen_ok, run_loadVar_row w g t ty cs fr d hg hu hd hi]
  exact ⟨rfl, rfl⟩
end

section
open Go.RowKit Go.Sort
set_option maxRecDepth 100000
set_option linter.unusedSimpArgs false
set_option linter.unusedVariables false

/-- What is said of an operation of the head: the block that it makes and the value that names it; or the value that it yields; the slots that it reads with what they hold; the new blocks that it reads (by operation and slot). -/
structure MadeSpec where
  al : Option (Obj × (Nat → Value))
  v : Value
  rd : List (Nat × Value)
  rm : List (Nat × Nat × Obj × (Nat → Value))
def MadeSpec.val (v : Value) (rd : List (Nat × Value)) : MadeSpec := ⟨none, v, rd, []⟩
def MadeSpec.from (v : Value) (rd : List (Nat × Value)) (rm : List (Nat × Nat × Obj × (Nat → Value))) : MadeSpec := ⟨none, v, rd, rm⟩
def MadeSpec.new (ob : Obj) (mk : Nat → Value) (rd : List (Nat × Value)) : MadeSpec := ⟨some (ob, mk), undef, rd, []⟩
def mkP (g : Nat) : Value := .pointer (some ⟨g, 0, none⟩)
def mkS (n c : Nat) (g : Nat) : Value := .slice (some ⟨g, 0, none⟩) n c
def blkOf : Value → Option Nat
  | .pointer (some a) => some a.block
  | .slice (some a) _ _ => some a.block
  | _ => none

section
variable {P : Program} {ops : Array Oper}

def madeB (ops : Array Oper) (n : Nat) (rms : List (List (Nat × Nat))) : Bool := (List.range n).all fun i => (rms.getD i []).all fun p => decide (p.1 < n) && dstOf ops p.1 == some p.2 && Region.waitsFor .any ops i p.1
def madeV (S : List MadeSpec) (i : Nat) : Value := ((S[i]?).map (·.v)).getD undef
def madeSpecObl (P : Program) (w0 : World) (o : Oper) (s : MadeSpec) : Prop :=
  match s.al with
  | some (ob, mk) => (∀ g, blkOf (mk g) = some g) ∧ ∀ (a : Act) (w : World), Below w0.heap.size w0 w → (∀ p ∈ s.rd, a.tmps.getD p.1 undef = p.2) → (execOp a.eval o).run P w = .ok (.value (mk w.heap.size)) (w.alloc ob)
  | none => ∀ (a : Act) (w : World), Below w0.heap.size w0 w → (∀ p ∈ s.rd, a.tmps.getD p.1 undef = p.2) → (∀ p ∈ s.rm, ∃ g : Nat, a.tmps.getD p.2.1 undef = p.2.2.2 g ∧ w.heap[g]? = some p.2.2.1) → sQuiet P w s.v ((execOp a.eval o).run P w)
def madeObl (P : Program) (w0 : World) : List Oper → List MadeSpec → Prop
  | o :: l, s :: S => madeSpecObl P w0 o s ∧ madeObl P w0 l S
  | [], [] => True
  | _, _ => False
def madeReads (aF : Act) : List MadeSpec → Prop
  | [] => True
  | s :: S => (∀ p ∈ s.rd, aF.tmps.getD p.1 undef = p.2) ∧ madeReads aF S
def madeMk (S : List MadeSpec) : List MadeSpec → Prop
  | [] => True
  | s :: R => (∀ p ∈ s.rm, (S[p.1]?).bind (·.al) = some (p.2.2.1, p.2.2.2)) ∧ madeMk S R
def madeEnd (P : Program) (ops : Array Oper) (Q : Exit → Act → World → Prop) (rest : List Oper) (w0 : World) : List Oper → List MadeSpec → Act → List (Nat × Obj) → Prop
  | o :: l, s :: S, a, gs => match s.al with
    | none => madeEnd P ops Q rest w0 l S (a.put o.dst s.v) gs
    | some (ob, mk) => ∀ g : Nat, w0.heap.size ≤ g → (∀ p ∈ gs, p.1 ≠ g) → madeEnd P ops Q rest w0 l S (a.put o.dst (mk g)) (gs ++ [(g, ob)])
  | _, _, a, gs => ∀ w' : World, Below w0.heap.size w0 w' → (∀ p ∈ gs, w'.heap[p.1]? = some p.2) → wpList P ops Q rest a w'
theorem madeObl_get {w0 : World} : ∀ {l : List Oper} {S : List MadeSpec}, madeObl P w0 l S → l.length = S.length ∧ ∀ (i : Nat) (o : Oper) (s : MadeSpec), l[i]? = some o → S[i]? = some s → madeSpecObl P w0 o s
  | [], [], _ => ⟨rfl, fun i o s h _ => by simp at h⟩
  | o :: l, s :: S, h => by
    obtain ⟨h1, h2⟩ := h
    obtain ⟨hl, hg⟩ := madeObl_get h2
    refine ⟨by simp [hl], fun i o' s' ho hs => ?_⟩
    cases i with
    | zero => simp at ho hs; subst ho hs; exact h1
    | succ i => simp at ho hs; exact hg i o' s' ho hs
  | [], _ :: _, h => h.elim
  | _ :: _, [], h => h.elim
theorem madeReads_get {aF : Act} : ∀ {S : List MadeSpec}, madeReads aF S → ∀ (i : Nat) (s : MadeSpec), S[i]? = some s → ∀ p ∈ s.rd, aF.tmps.getD p.1 undef = p.2
  | [], _, i, s, h => by simp at h
  | s :: S, hr, i, s', h => by
    cases i with
    | zero => simp at h; subst h; exact hr.1
    | succ i => simp at h; exact madeReads_get hr.2 i s' h
theorem madeMk_get {S : List MadeSpec} : ∀ {R : List MadeSpec}, madeMk S R → ∀ (i : Nat) (s : MadeSpec), R[i]? = some s → ∀ p ∈ s.rm, (S[p.1]?).bind (·.al) = some (p.2.2.1, p.2.2.2)
  | [], _, i, s, h => by simp at h
  | s :: R, hr, i, s', h => by
    cases i with
    | zero => simp at h; subst h; exact hr.1
    | succ i => simp at h; exact madeMk_get hr.2 i s' h
def madeAt (w0 w : World) (s : MadeSpec) (v : Value) : Prop :=
  match s.al with
  | none => v = s.v
  | some (ob, mk) => ∃ g : Nat, v = mk g ∧ blkOf v = some g ∧ w0.heap.size ≤ g ∧ w.heap[g]? = some ob
theorem madeAt.keep {w0 w w' : World} {s : MadeSpec} {v : Value} (h : madeAt w0 w s v) (hb : Below w.heap.size w w') : madeAt w0 w' s v := by
  unfold madeAt at *
  split
  · rename_i ha; simp only [ha] at h; exact h
  · rename_i ob mk ha
    simp only [ha] at h
    obtain ⟨g, h1, h2, h3, h4⟩ := h
    exact ⟨g, h1, h2, h3, blk_below hb (blk_lt h4) h4⟩
theorem madeEnd_use {Q : Exit → Act → World → Prop} {rest : List Oper} {w0 w' : World} {vs : Nat → Value} (hb : Below w0.heap.size w0 w') :
    ∀ (l' : List Oper) (S' : List MadeSpec) (b : Act) (gs : List (Nat × Obj)) (k : Nat), l'.length = S'.length →
    (∀ (i : Nat) (s : MadeSpec), S'[i]? = some s → madeAt w0 w' s (vs (k + i))) →
    (∀ (i : Nat) (s : MadeSpec), S'[i]? = some s → s.al.isSome = true → ∀ p ∈ gs, blkOf (vs (k + i)) ≠ some p.1) →
    (∀ (i j : Nat) (s t : MadeSpec), S'[i]? = some s → S'[j]? = some t → i ≠ j → s.al.isSome = true → t.al.isSome = true → blkOf (vs (k + i)) ≠ blkOf (vs (k + j))) →
    (∀ p ∈ gs, w'.heap[p.1]? = some p.2) → madeEnd P ops Q rest w0 l' S' b gs → wpList P ops Q rest (headPut b l' vs k) w'
  | [], [], b, gs, k, _, _, _, _, hg, h => by rw [headPut]; exact h w' hb hg
  | o :: l', s :: S', b, gs, k, hl, h1, h2, h3, hg, h => by
    have hs := h1 0 s (by simp)
    rw [Nat.add_zero] at hs
    have n1 : ∀ (i : Nat) (t : MadeSpec), S'[i]? = some t → madeAt w0 w' t (vs (k + 1 + i)) := fun i t ht => by
      have := h1 (i + 1) t (by simpa using ht); rwa [show k + (i + 1) = k + 1 + i by omega] at this
    have n3 : ∀ (i j : Nat) (t u : MadeSpec), S'[i]? = some t → S'[j]? = some u → i ≠ j → t.al.isSome = true → u.al.isSome = true → blkOf (vs (k + 1 + i)) ≠ blkOf (vs (k + 1 + j)) := fun i j t u ht hu hij => by
      have := h3 (i + 1) (j + 1) t u (by simpa using ht) (by simpa using hu) (by omega)
      rwa [show k + (i + 1) = k + 1 + i by omega, show k + (j + 1) = k + 1 + j by omega] at this
    have n2 : ∀ (i : Nat) (t : MadeSpec), S'[i]? = some t → t.al.isSome = true → ∀ p ∈ gs, blkOf (vs (k + 1 + i)) ≠ some p.1 := fun i t ht ha p hp => by
      have := h2 (i + 1) t (by simpa using ht) ha p hp; rwa [show k + (i + 1) = k + 1 + i by omega] at this
    rw [headPut]
    unfold madeEnd at h
    cases hal : s.al with
    | none =>
      simp only [hal] at h
      have hv : vs k = s.v := by unfold madeAt at hs; simpa only [hal] using hs
      rw [hv]
      exact madeEnd_use hb l' S' _ gs (k + 1) (by simpa using hl) n1 n2 n3 hg h
    | some om =>
      obtain ⟨ob, mk⟩ := om
      simp only [hal] at h
      have hv : ∃ g : Nat, vs k = mk g ∧ blkOf (vs k) = some g ∧ w0.heap.size ≤ g ∧ w'.heap[g]? = some ob := by unfold madeAt at hs; simpa only [hal] using hs
      obtain ⟨g, hvg, hbg, hge, hgo⟩ := hv
      have hnew := h g hge (fun p hp e => h2 0 s (by simp) (by simp [hal]) p hp (by rw [Nat.add_zero, hbg, e]))
      rw [hvg]
      refine madeEnd_use hb l' S' _ (gs ++ [(g, ob)]) (k + 1) (by simpa using hl) n1 (fun i t ht ha p hp => ?_) n3 (fun p hp => ?_) hnew
      · rcases List.mem_append.1 hp with hp | hp
        · exact n2 i t ht ha p hp
        · have : p = (g, ob) := by simpa using hp
          subst this
          have := h3 (i + 1) 0 t s (by simpa using ht) (by simp) (by omega) ha (by simp [hal])
          rw [show k + (i + 1) = k + 1 + i by omega, show k + 0 = k from rfl, hbg] at this
          exact this
      · rcases List.mem_append.1 hp with hp | hp
        · exact hg p hp
        · have : p = (g, ob) := by simpa using hp
          subst this; exact hgo
  | [], _ :: _, _, _, _, hl, _, _, _, _, _ => by simp at hl
  | _ :: _, [], _, _, _, hl, _, _, _, _, _ => by simp at hl

/-- The region. -/
theorem wp_region_made {id : Nat} {Q : Exit → Act → World → Prop} {a : Act} {w : World} {l : List Oper} (n m : Nat) (S : List MadeSpec) (hm : P.follows .mixedOrders = true)
    (hB : freshB l.toArray n m (S.map fun s => s.al.isSome) (S.map fun s => s.rd.map (·.1)) = true) (hM : madeB l.toArray n (S.map fun s => s.rm.map fun p => (p.1, p.2.1)) = true) (hsz : a.tmps.size = m)
    (hmk : madeMk S S) (hob : madeObl P w (l.take n) S) (hrd : madeReads (headPut a (l.take n) (madeV S) 0) S)
    (hend : madeEnd P l.toArray Q (l.drop n) w (l.take n) S a []) : (Code.region id l.toArray true).wp P Q a w := by
  have hB0 := hB
  unfold freshB at hB0
  simp only [Bool.and_eq_true, decide_eq_true_eq] at hB0
  obtain ⟨⟨⟨⟨⟨⟨hn, _⟩, _⟩, hops⟩, hrds⟩, hlen⟩, _⟩ := hB0
  have hn' : n < l.length := by simpa using hn
  have htl : (l.take n).length = n := by simp; omega
  obtain ⟨hSl, hget⟩ := madeObl_get hob
  rw [htl] at hSl
  have hopi : ∀ i, i < n → ∃ o d, l.toArray[i]? = some o ∧ o.guard = none ∧ o.dst = some d ∧ dstOf l.toArray i = some d ∧ d < a.tmps.size ∧ ∀ j, j < n → j ≠ i → dstOf l.toArray j ≠ some d := fun i hi => by
    have hop := List.all_eq_true.1 hops i (List.mem_range.2 hi)
    unfold headOpB at hop
    have hio : l.toArray[i]? = some l.toArray[i] := Array.getElem?_eq_getElem (by simpa using Nat.lt_trans hi hn')
    rw [hio] at hop
    simp only [Bool.and_eq_true] at hop
    obtain ⟨⟨hg, _⟩, hd⟩ := hop
    cases hdd : l.toArray[i].dst with
    | none => rw [hdd] at hd; cases hd
    | some d =>
      rw [hdd] at hd
      simp only [Bool.and_eq_true, decide_eq_true_eq] at hd
      refine ⟨_, d, hio, by simpa using hg, hdd, by rw [dstOf, hio]; exact hdd, by rw [hsz]; exact hd.1, fun j hj hji e => ?_⟩
      have := List.all_eq_true.1 hd.2 j (List.mem_range.2 hj)
      simp only [Bool.or_eq_true, beq_iff_eq, bne_iff_ne] at this
      rcases this with h | h
      · exact hji h
      · exact h e
  have hfr0 : FrameIs l.toArray n a (madeV S) (Array.replicate l.toArray.size false) a := ⟨rfl, rfl, fun j d _ h _ => (by rw [Go.getD_replicate_false] at h; cases h), fun _ _ => rfl⟩
  obtain ⟨lF, hlF, hF⟩ := headPut_is (ops := l.toArray) (n := n) (a0 := a) (vs := madeV S) (fun i hi => by obtain ⟨o, d, _, _, _, h1, h2, h3⟩ := hopi i hi; exact ⟨d, h1, h2, h3⟩)
    (l.take n) 0 (Array.replicate l.toArray.size false) a (by omega) (fun j hj => by rw [htl] at hj; simp [List.getElem?_take, hj]) (by simp; omega) (fun i hi => by rw [Go.getD_replicate_false]; simp) hfr0
  refine wp_region_inv n m _ _ hm hB (fun listed a' w' => listed.size = l.toArray.size ∧ ∃ vs : Nat → Value, FrameIs l.toArray n a vs listed a' ∧ Below w.heap.size w w' ∧
      (∀ (i : Nat) (s : MadeSpec), i < n → listed.getD i false = true → S[i]? = some s → madeAt w w' s (vs i)) ∧
      (∀ (i j : Nat) (s t : MadeSpec), i < n → j < n → listed.getD i false = true → listed.getD j false = true → S[i]? = some s → S[j]? = some t → i ≠ j → s.al.isSome = true → t.al.isSome = true → blkOf (vs i) ≠ blkOf (vs j))) ?_ ?_ ?_
  · refine ⟨by simp, madeV S, hfr0, ⟨rfl, rfl, rfl, Nat.le_refl _, fun _ _ => rfl⟩, fun i s _ h => (by rw [Go.getD_replicate_false] at h; cases h), fun i j s t _ _ h => (by rw [Go.getD_replicate_false] at h; cases h)⟩
  · intro i hi listed a' w' hr inv hJ
    obtain ⟨hls, vs, hf, hb, hsp, hdi⟩ := hJ
    obtain ⟨o, d, ho, hg, hod, hd, hdm, hne⟩ := hopi i hi
    have hu : listed.getD i false = false := Go.getD_both (mem_ready.1 hr).1
    have hil : i < listed.size := by rw [hls]; omega
    obtain ⟨s, hs⟩ : ∃ s, S[i]? = some s := ⟨S[i]'(by omega), List.getElem?_eq_getElem (by omega)⟩
    have hobl := hget i o s (by simpa [List.getElem?_take, hi] using ho) hs
    have hwaits : ∀ j, j < n → Region.waitsFor .any l.toArray i j = true → listed.getD j false = true := fun j hj hw1 => by
      obtain ⟨oj, hoj, e, he, hbi, heq⟩ := Region.waitsFor_spec hw1
      rw [ho] at hoj; cases hoj
      obtain ⟨_, o2, ho2, hall⟩ := mem_ready.1 hr
      rw [ho] at ho2; cases ho2
      rw [← heq]; exact hall e he hbi
    have hreads : ∀ p ∈ s.rd, a'.tmps.getD p.1 undef = p.2 := fun p hp => by
      have hR := List.all_eq_true.1 hrds i (List.mem_range.2 hi)
      unfold headRdB at hR
      have hpi : p.1 ∈ (S.map fun s => s.rd.map (·.1)).getD i [] := by
        simp only [List.getD_eq_getElem?_getD, List.getElem?_map, hs, Option.map_some, Option.getD_some]
        exact List.mem_map.2 ⟨p, hp, rfl⟩
      have hR2 := List.all_eq_true.1 hR p.1 hpi
      rw [← madeReads_get hrd i s hs p hp]
      by_cases hx : ∃ j, j < n ∧ dstOf l.toArray j = some p.1
      · obtain ⟨j, hj, hdj⟩ := hx
        have hR3 := List.all_eq_true.1 hR2 j (List.mem_range.2 hj)
        simp only [hdj, bne_self_eq_false, Bool.false_or, Bool.and_eq_true] at hR3
        obtain ⟨hw1, hw2⟩ := hR3
        have hlj := hwaits j hj hw1
        obtain ⟨t, ht⟩ : ∃ t, S[j]? = some t := ⟨S[j]'(by omega), List.getElem?_eq_getElem (by omega)⟩
        have hta : t.al = none := by
          simp only [List.getD_eq_getElem?_getD, List.getElem?_map, ht, Option.map_some, Option.getD_some, Bool.not_eq_true'] at hw2
          simpa using hw2
        rw [hf.put j p.1 hj hlj hdj, hF.put j p.1 hj (hlF j hj) hdj]
        have := hsp j t hj hlj ht
        unfold madeAt at this
        simp only [hta] at this
        rw [this, madeV, ht]; rfl
      · rw [hf.old p.1 fun j hj _ e => hx ⟨j, hj, e⟩, hF.old p.1 fun j hj _ e => hx ⟨j, hj, e⟩]
    have hmades : ∀ p ∈ s.rm, ∃ g : Nat, a'.tmps.getD p.2.1 undef = p.2.2.2 g ∧ w'.heap[g]? = some p.2.2.1 := fun p hp => by
      have hR := List.all_eq_true.1 hM i (List.mem_range.2 hi)
      have hpi : (p.1, p.2.1) ∈ (S.map fun s => s.rm.map fun p => (p.1, p.2.1)).getD i [] := by
        simp only [List.getD_eq_getElem?_getD, List.getElem?_map, hs, Option.map_some, Option.getD_some]
        exact List.mem_map.2 ⟨p, hp, rfl⟩
      have hR2 := List.all_eq_true.1 hR (p.1, p.2.1) hpi
      simp only [Bool.and_eq_true, decide_eq_true_eq, beq_iff_eq] at hR2
      obtain ⟨⟨hj, hdj⟩, hw1⟩ := hR2
      have hlj := hwaits p.1 hj hw1
      obtain ⟨t, ht⟩ : ∃ t, S[p.1]? = some t := ⟨S[p.1]'(by omega), List.getElem?_eq_getElem (by omega)⟩
      have hta := madeMk_get hmk i s hs p hp
      rw [ht] at hta
      simp only [Option.bind_some] at hta
      have := hsp p.1 t hj hlj ht
      unfold madeAt at this
      simp only [hta] at this
      obtain ⟨g, h1, _, _, h4⟩ := this
      exact ⟨g, by rw [hf.put p.1 p.2.1 hj hlj hdj, h1], h4⟩
    unfold wpOp
    simp only [ho]
    have hw : Region.wanted o (yielded l.toArray a'.tmps) = true := by simp [Region.wanted, hg]
    rw [if_pos hw]
    refine .inl ?_
    unfold madeSpecObl at hobl
    cases hal : s.al with
    | none =>
      simp only [hal] at hobl
      refine wp_of_sQuiet (hobl a' w' hb hreads hmades) fun w'' hb2 => ?_
      rw [hod]
      refine ⟨by simpa using hls, _, hf.step hi hil hu hd hdm hne s.v, hb.trans (hb2.mono hb.size), fun j t hj hlj ht => ?_, fun j k t u hj hk hlj hlk ht hu' hjk hta hua => ?_⟩
      · by_cases hji : j = i
        · subst hji; rw [hs] at ht; cases ht; unfold madeAt; simp [hal]
        · simp only [if_neg hji]
          rw [getD_set_not _ _ _ (Ne.symm hji)] at hlj
          exact (hsp j t hj hlj ht).keep hb2
      · have hji : j ≠ i := fun e => by subst e; rw [hs] at ht; cases ht; simp [hal] at hta
        have hki : k ≠ i := fun e => by subst e; rw [hs] at hu'; cases hu'; simp [hal] at hua
        simp only [if_neg hji, if_neg hki]
        rw [getD_set_not _ _ _ (Ne.symm hji)] at hlj
        rw [getD_set_not _ _ _ (Ne.symm hki)] at hlk
        exact hdi j k t u hj hk hlj hlk ht hu' hjk hta hua
    | some om =>
      obtain ⟨ob, mk⟩ := om
      simp only [hal] at hobl
      obtain ⟨hbk, hrun⟩ := hobl
      unfold Oper.wp
      rw [hrun a' w' hb hreads]
      simp only [Oper.upon]
      rw [hod]
      have hb2 := below_new w' ob
      have hkey : ∀ j t, j < n → listed.getD j false = true → S[j]? = some t → t.al.isSome = true → blkOf (vs j) ≠ some w'.heap.size := fun j t hj hlj ht hta e => by
        have := hsp j t hj hlj ht
        unfold madeAt at this
        cases hta' : t.al with
        | none => simp [hta'] at hta
        | some om' =>
          obtain ⟨ob', mk'⟩ := om'
          simp only [hta'] at this
          obtain ⟨g, h1, h2, _, h3⟩ := this
          rw [e] at h2
          have : w'.heap.size = g := by simpa using h2
          have := blk_lt h3
          omega
      refine ⟨by simpa using hls, _, hf.step hi hil hu hd hdm hne (mk w'.heap.size), hb.trans (hb2.mono hb.size), fun j t hj hlj ht => ?_, fun j k t u hj hk hlj hlk ht hu' hjk hta hua => ?_⟩
      · by_cases hji : j = i
        · subst hji; rw [hs] at ht; cases ht; unfold madeAt; simp only [hal]; exact ⟨w'.heap.size, by simp, by simp [hbk], hb.size, blk_new w' ob⟩
        · simp only [if_neg hji]
          rw [getD_set_not _ _ _ (Ne.symm hji)] at hlj
          exact (hsp j t hj hlj ht).keep hb2
      · by_cases hji : j = i
        · subst hji
          have hkj : k ≠ j := Ne.symm hjk
          simp only [if_pos, if_neg hkj, hbk]
          rw [getD_set_not _ _ _ (Ne.symm hkj)] at hlk
          exact fun e => hkey k u hk hlk hu' hua e.symm
        · rw [getD_set_not _ _ _ (Ne.symm hji)] at hlj
          by_cases hki : k = i
          · subst hki
            simp only [if_pos, if_neg hji, hbk]
            exact hkey j t hj hlj ht hta
          · simp only [if_neg hji, if_neg hki]
            rw [getD_set_not _ _ _ (Ne.symm hki)] at hlk
            exact hdi j k t u hj hk hlj hlk ht hu' hjk hta hua
  · intro listed a' w' hall hJ
    obtain ⟨hls, vs, hf, hb, hsp, hdi⟩ := hJ
    have hfr1 : FrameIs l.toArray n a vs (Array.replicate l.toArray.size false) a := ⟨rfl, rfl, fun j d _ h _ => (by rw [Go.getD_replicate_false] at h; cases h), fun _ _ => rfl⟩
    obtain ⟨lV, hlV, hV⟩ := headPut_is (ops := l.toArray) (n := n) (a0 := a) (vs := vs) (fun i hi => by obtain ⟨o, d, _, _, _, h1, h2, h3⟩ := hopi i hi; exact ⟨d, h1, h2, h3⟩)
      (l.take n) 0 (Array.replicate l.toArray.size false) a (by omega) (fun j hj => by rw [htl] at hj; simp [List.getElem?_take, hj]) (by simp; omega) (fun i hi => by rw [Go.getD_replicate_false]; simp) hfr1
    rw [hf.eq hV hall hlV]
    have hin : ∀ (i : Nat) (s : MadeSpec), S[i]? = some s → i < n := fun i s h => by have := (List.getElem?_eq_some_iff.1 h).1; omega
    refine madeEnd_use hb (l.take n) S a [] 0 (by omega) (fun i s hs => ?_) (fun _ _ _ _ p hp => by simp at hp) (fun i j s t hs ht hij hsa hta => ?_) (fun p hp => by simp at hp) hend
    · rw [Nat.zero_add]; exact hsp i s (hin i s hs) (hall i (hin i s hs)) hs
    · rw [Nat.zero_add, Nat.zero_add]; exact hdi i j s t (hin i s hs) (hin j t ht) (hall i (hin i s hs)) (hall j (hin j t ht)) hs ht hij hsa hta
end
end

section
open Go.ChangeShapes Go.WideShapes Go.ChangeAt Go.WideMaps Go.WideElems Go.RowKit
set_option maxRecDepth 100000
set_option linter.unusedSimpArgs false
set_option linter.unusedVariables false

theorem mapM_some {α β : Type} (f : α → Option β) (g : α → β) : ∀ (l : List α), (∀ x ∈ l, f x = some (g x)) → l.mapM f = some (l.map g)
  | [], _ => rfl
  | x :: l, h => by
    rw [List.mapM_cons, h x (by simp), mapM_some f g l fun y hy => h y (by simp [hy])]
    rfl
def numOfV (v : Value) : Int := match v with | .int _ a => a | _ => 0
section
variable {H : Type} {enc : TypeId × Value → H} {P : Program} {w : World} {base b0 : Nat} {spare : Nat → Bool} {held : Bool}
theorem open_intsN {r : Reach} {t e : TypeId} {n : Nat} {k : IntKind} {v : Value} {d : DataW H} {p : List MemPlace} (ht : P.underlying t = some (.array n e)) (he : P.underlying e = some (.int k)) (hct : P.cellsOf t = n) (hce : P.cellsOf e = 1)
    (hv : Value.okWide P w r b0 t v) (h : DataW.Trod enc P w base spare held t v d p) :
    ∃ l : List Int, l.length = n ∧ v = .agg (l.map (Value.int k)).toArray ∧ d = .agg (l.map fun x => .lit (.int k x)) ∧ p = [] ∧ ∀ x ∈ l, (Lit.int k x).wf = true := by
  obtain ⟨cs, rfl, hsz, _⟩ : ∃ cs, v = .agg cs ∧ cs.size = P.cellsOf t ∧ Row.okWide P w r b0 t cs := by
    simpa [Value.okWide, ht] using hv
  rw [hct] at hsz
  obtain ⟨fuel, hf⟩ := h
  obtain ⟨xs, m, hfm, hx, hcl, hxl, hg⟩ := DataW.trod_array ht hf
  have key : ∀ i (hi : i < n) (hi' : i < cs.toList.length) (hx' : i < xs.length), ∃ a, cs.toList[i] = .int k a ∧ xs[i] = (.lit (.int k a), []) ∧ (Lit.int k a).wf = true := fun i hi hi' hx' => by
    have h0 := hg i hi
    rw [hce, Nat.mul_one, List.getElem?_eq_getElem hx'] at h0
    obtain ⟨a, e1, e2, e3⟩ := DataW.trod_int he h0
    have e4 : (cs.toList.drop i).take 1 = [cs.toList[i]] := by
      rw [List.drop_eq_getElem_cons hi']; rfl
    simp only [Value.cells] at e1
    rw [e4] at e1
    exact ⟨a, by simpa using e1, e2, e3⟩
  have hsl : cs.toList.length = n := by simpa using hsz
  refine ⟨cs.toList.map numOfV, by simpa using hsz, ?_, ?_, ?_, ?_⟩
  · have e : (cs.toList.map numOfV).map (Value.int k) = cs.toList := by
      apply List.ext_getElem (by simp)
      intro i h1 h2
      obtain ⟨a, e1, _, _⟩ := key i (by omega) h2 (by omega)
      simp only [List.getElem_map, e1, numOfV]
    rw [e]
  · simp only [Prod.mk.injEq] at hx
    rw [hx.1]
    congr 1
    apply List.ext_getElem (by simp [hxl]; omega)
    intro i h1 h2
    have hxi : i < xs.length := by simpa using h1
    obtain ⟨a, e1, e2, _⟩ := key i (by omega) (by omega) hxi
    simp only [List.getElem_map, e1, e2, numOfV]
  · simp only [Prod.mk.injEq] at hx
    rw [hx.2, List.flatMap_eq_nil_iff]
    intro y hy
    obtain ⟨i, hi, rfl⟩ := List.mem_iff_getElem.1 hy
    obtain ⟨a, _, e2, _⟩ := key i (by omega) (by omega) hi
    rw [e2]
  · intro x hx2
    obtain ⟨i, hi, rfl⟩ := List.mem_iff_getElem.1 hx2
    have hi' : i < cs.toList.length := by simpa using hi
    obtain ⟨a, e1, _, e3⟩ := key i (by omega) hi' (by omega)
    simp only [List.getElem_map, e1, numOfV]
    exact e3
theorem shut_intsN {t e : TypeId} {n : Nat} {k : IntKind} {l : List Int} (ht : P.underlying t = some (.array n e)) (he : P.underlying e = some (.int k)) (hct : P.cellsOf t = n) (hce : P.cellsOf e = 1) (hl : l.length = n) (hw : ∀ x ∈ l, (Lit.int k x).wf = true) :
    DataW.Trod enc P w base spare held t (.agg (l.map (Value.int k)).toArray) (.agg (l.map fun x => .lit (.int k x))) [] := by
  refine ⟨2, ?_⟩
  unfold DataW.trod
  have hm := mapM_some (fun i => DataW.trod enc P w base spare held 1 e ((((l.map (Value.int k)).toArray).toList.drop (i * P.cellsOf e)).take (P.cellsOf e))) (fun i => ((DataW.lit (Lit.int k (l.getD i 0)) : DataW H), ([] : List MemPlace))) (List.range n) (fun i hi => by
    have hin : i < l.length := by rw [hl]; exact List.mem_range.1 hi
    have e4 : (((l.map (Value.int k)).toArray).toList.drop (i * P.cellsOf e)).take (P.cellsOf e) = [.int k l[i]] := by
      rw [hce, Nat.mul_one, List.toList_toArray, List.drop_eq_getElem_cons (by simpa using hin)]
      simp
    rw [e4, List.getD_eq_getElem?_getD, List.getElem?_eq_getElem hin]
    simp [DataW.trod, he, hw l[i] (List.getElem_mem hin)])
  have hcs : (Value.agg (l.map (Value.int k)).toArray).cells.toList.length = P.cellsOf t := by rw [hct]; simpa [Value.cells] using hl
  simp only [ht]
  rw [if_pos (by simpa [Value.cells] using hcs)]
  simp only [Value.cells] at hm ⊢
  rw [hm]
  simp only [Option.map_some, List.map_map, List.flatMap_map]
  congr 2
  · congr 1
    apply List.ext_getElem (by simp [hl])
    intro i h1 h2
    have hin : i < l.length := by simpa using h2
    simp [hin]
  · simp
end
end

section
open Go.RowKit Go.Sort
set_option maxRecDepth 100000
set_option linter.unusedSimpArgs false
set_option linter.unusedVariables false

theorem run_extract_all {P : Program} {ρ : Operand → Value} {o : Oper} {t : Operand} {ix : Nat} (h : o.op = .extract t ix) {w0 : World} {v : Value} {C : World → Prop}
    (hq : Oper.quietUpon P C w0 v ((execOp ρ o).run P w0)) : ∀ w, (execOp ρ o).run P w = .ok (.value v) w := by
  have e : ∀ w, (execOp ρ o).run P w = (do pure (Next.value (← Instr.extract (ρ t) ix)) : Sem Next).run P w := fun w => by unfold execOp; rw [h]
  rw [e] at hq
  intro w
  rw [e]
  generalize ρ t = tv at hq ⊢
  cases tv
  case tuple vs =>
    cases hx : vs[ix]? with
    | some x =>
      have e2 : ∀ w, (do pure (Next.value (← Instr.extract (.tuple vs) ix)) : Sem Next).run P w = .ok (.value x) w := fun w => by unfold Instr.extract; simp only [hx]; rfl
      rw [e2] at hq
      rw [e2]
      simp only [Oper.quietUpon] at hq
      rw [hq.2]
    | none =>
      unfold Instr.extract at hq
      simp only [hx] at hq
      exact (hq : False).elim
  all_goals exact (hq : False).elim

section
variable {P : Program} {ops : Array Oper} {md : Region.Mode} {C : World → Prop}

/-- Each operation of the tail waits for one before it that is in the tail or is the head's last. -/
def hangB (md : Region.Mode) (ops : Array Oper) (n : Nat) : Bool :=
  (List.range ops.size).all fun t => decide (t < n) || (List.range t).any fun j => decide (n ≤ j + 1) && Region.waitsFor md ops t j
theorem last_unlisted {m n : Nat} {listed : Array Bool} (hs : sinkFrom m md ops (n - 1) = true) (inv : HeadInv md ops n listed) (hn : n ≤ ops.size) :
    ∀ (d i : Nat), n - i = d → m ≤ i → i < n → listed.getD i true = false → listed.getD (n - 1) true = false := by
  intro d
  induction d using Nat.strongRecOn with
  | _ d ih =>
    intro i hd hm hi hun
    by_cases hin : i = n - 1
    · rw [← hin]; exact hun
    · have h1 := List.all_eq_true.1 hs i (List.mem_range.2 (by omega))
      simp only [Bool.or_eq_true, decide_eq_true_eq] at h1
      rcases h1 with h1 | h1
      · omega
      · obtain ⟨j, hj, hj2⟩ := List.any_eq_true.1 h1
        simp only [Bool.and_eq_true, decide_eq_true_eq] at hj2
        obtain ⟨oj, hoj, e, he, hb, hon⟩ := Region.waitsFor_spec hj2.2
        have hjle : j ≤ n - 1 := by have := List.mem_range.1 hj; omega
        cases hl : listed.getD j false with
        | true =>
          have h2 := inv.closed j oj hoj hl e he hb
          rw [hon, getD_both hun] at h2
          cases h2
        | false =>
          have hjs : j < listed.size := by rw [inv.size]; omega
          exact ih (n - j) (by omega) j rfl (by omega) (by omega) (getD_in hjs hl)
theorem tail_stays_late {m n : Nat} {listed : Array Bool} (hn0 : 0 < n) (hs : sinkFrom m md ops (n - 1) = true) (hc : hangB md ops n = true) (inv : HeadInv md ops n listed) :
    ∀ (i : Nat), m ≤ i → i < n → listed.getD i true = false → ∀ t, n ≤ t → t ∉ Region.ready md ops listed := by
  intro i hm hi hun t ht hr
  obtain ⟨_, ot, hot, hall⟩ := mem_ready.1 hr
  have htlt : t < ops.size := (Array.getElem?_eq_some_iff.1 hot).1
  have hl := last_unlisted hs inv (by omega) _ i rfl hm hi hun
  have h1 := List.all_eq_true.1 hc t (List.mem_range.2 htlt)
  simp only [Bool.or_eq_true, decide_eq_true_eq] at h1
  rcases h1 with h1 | h1
  · omega
  · obtain ⟨j, hj, hj2⟩ := List.any_eq_true.1 h1
    simp only [Bool.and_eq_true, decide_eq_true_eq] at hj2
    have hjt := List.mem_range.1 hj
    obtain ⟨o', ho', e, he, hb, hon⟩ := Region.waitsFor_spec hj2.2
    have : o' = ot := Option.some.inj (ho'.symm.trans hot)
    rw [this] at he
    have h2 := hall e he hb
    by_cases hjn : j = n - 1
    · rw [hon, hjn, getD_both hl] at h2
      cases h2
    · rw [hon, getD_both (inv.tail j (by omega) (by omega))] at h2
      cases h2

theorem mheadAny_firstL {m n i : Nat} {oi : Oper} {v : Value} {L : Array Bool → Act → Prop} (hi : ops[i]? = some oi) (hsel : ∀ (j : Nat) (o : Oper) cs b, ops[j]? = some o → o.op ≠ .select cs b)
    (hn0 : 0 < n) (hs : sinkFrom m md ops (n - 1) = true) (hc : hangB md ops n = true) (him : m ≤ i) (hin : i < n)
    (hdone : ∀ listed a, L listed a → ∀ j ∈ Region.ready md ops listed, n ≤ j) :
    ∀ (f : Nat) (listed : Array Bool) (a : Act), HeadInv md ops n listed →
      (∀ j oj, ops[j]? = some oj → j ≠ i → listed.getD j true = false → (∀ e ∈ oj.after, Region.binds md e = true → e.on ≠ i) → oi.apart ops oj = true) →
      i ∈ Region.ready md ops listed → YieldsIn P ops C oi v a →
      mheadAny P md ops C n L f (listed.setIfInBounds i true) (a.put oi.dst v) → mheadAny P md ops C n L (f + 1) listed a := by
  intro f
  induction f with
  | zero =>
    intro listed a inv _ hr hy H
    have hun := (mem_ready.1 hr).1
    refine ⟨fun h => (by rw [h] at hr; cases hr), fun j hj => ?_⟩
    have hjn : j < n := Nat.lt_of_not_le fun h => absurd hj (tail_stays_late hn0 hs hc inv i him hin hun j h)
    refine ⟨hjn, ?_⟩
    by_cases hji : j = i
    · subst hji; exact hy.qOp hi H
    · have := hdone _ _ H j (ready_mono hj hji)
      omega
  | succ f ih =>
    intro listed a inv hfree hr hy H
    have hun := (mem_ready.1 hr).1
    refine ⟨fun h => (by rw [h] at hr; cases hr), fun j hj => ?_⟩
    have hjn : j < n := Nat.lt_of_not_le fun h => absurd hj (tail_stays_late hn0 hs hc inv i him hin hun j h)
    refine ⟨hjn, ?_⟩
    by_cases hji : j = i
    · subst hji; exact hy.qOp hi H
    · have h1 := (H.2 j (ready_mono hj hji)).2
      obtain ⟨hjun, oj, hoj, hall⟩ := mem_ready.1 hj
      have hnot : ∀ e ∈ oj.after, Region.binds md e = true → e.on ≠ i := fun e he hb heq => by
        have h1 := hall e he hb
        rw [heq, getD_both hun] at h1
        cases h1
      have h2 := qOp_put hoj (hfree j oj hoj hji hjun hnot) (fun cs b => hsel i oi cs b hi) (fun cs b => hsel j oj cs b hoj) hy h1
      refine qOp_mono (fun a' h3 => ih (listed.setIfInBounds j true) a' (inv.set hj hjn) (fun k ok hk hki hu hno => hfree k ok hk hki ?_ hno) (ready_mono hr (Ne.symm hji)) h3.1 ?_) h2
      · by_cases hjk : j = k
        · subst hjk; exact hjun
        · rwa [getD_set_ne true hjk] at hu
      · rw [Array.setIfInBounds_comm _ _ hji]
        exact h3.2

/-- The head in the text's order, then a test of what has come up. -/
def lexThen (md : Region.Mode) (ops : Array Oper) (E : Array Bool → Bool) : Nat → Nat → Array Bool → Bool
  | 0, _, listed => E listed
  | f + 1, k, listed => (Region.ready md ops listed).contains k && Region.free md ops listed k && lexThen md ops E f (k + 1) (listed.setIfInBounds k true)

theorem mheadAny_lexL {m n : Nat} {E : Array Bool → Bool} {Lq : Act → Prop} (hsel : Region.noSelect ops = true) (hn0 : 0 < n) (hs : sinkFrom m md ops (n - 1) = true) (hc : hangB md ops n = true)
    (hE : ∀ listed, E listed = true → ∀ j ∈ Region.ready md ops listed, n ≤ j) :
    ∀ (l : List Oper) (k : Nat) (listed : Array Bool) (a : Act), m ≤ k → (∀ j, j < l.length → l[j]? = ops[k + j]?) → k + l.length = n → HeadInv md ops n listed →
    lexThen md ops E l.length k listed = true → wpQuiet P ops C Lq l a →
    mheadAny P md ops C n (fun listed' a' => E listed' = true ∧ Lq a') l.length listed a
  | [], k, listed, a, _, _, hk, _, hB, h => by
    obtain rfl : k = n := by simpa using hk
    exact ⟨by simpa [lexThen] using hB, h⟩
  | o :: l, k, listed, a, hmk, hl, hk, inv, hB, h => by
    have h0 : ops[k]? = some o := by simpa using (hl 0 (by simp)).symm
    simp only [List.length_cons, lexThen, Bool.and_eq_true] at hB
    obtain ⟨⟨hr, hf⟩, hB'⟩ := hB
    have hkn : k < n := by simp only [List.length_cons] at hk; omega
    have hr' : k ∈ Region.ready md ops listed := by simpa using hr
    have hst : qOp P ops C k (wpQuiet P ops C Lq l) a := by unfold qOp; simp only [h0]; exact h
    obtain ⟨v, hy, hK⟩ := yieldsIn_of_qOp h0 hst
    exact mheadAny_firstL h0 (Region.noSelect_spec hsel) hn0 hs hc hmk hkn (fun listed' a' hL => hE _ hL.1) l.length listed a inv (Region.free_spec h0 hf) hr' hy
      (mheadAny_lexL hsel hn0 hs hc hE l (k + 1) _ _ (by omega) (fun j hj => by have := hl (j + 1) (by simp; omega); simpa [Nat.add_assoc, Nat.add_comm 1 j] using this) (by simp only [List.length_cons] at hk; omega) (inv.set hr' hkn) hB' hK)

theorem wpQuiet_append {Q : Act → Prop} : ∀ (l1 l2 : List Oper) (a : Act), wpQuiet P ops C Q (l1 ++ l2) a → wpQuiet P ops C (wpQuiet P ops C Q l2) l1 a
  | [], _, _, h => h
  | o :: l1, l2, a, h => by
    simp only [List.cons_append, wpQuiet] at h ⊢
    split at h
    · rename_i hw
      rw [if_pos hw]
      exact Oper.quiet_mono (fun a' h' => wpQuiet_append l1 l2 a' h') h
    · rename_i hw
      rw [if_neg hw]
      exact wpQuiet_append l1 l2 _ h

theorem yields_extract {o : Oper} {t : Operand} {ix : Nat} (ho : o.op = .extract t ix) (hg : o.guard = none) {a : Act} {K : Act → Prop} {l : List Oper} {w0 : World} (hw0 : C w0) (h : wpQuiet P ops C K (o :: l) a) :
    ∃ v, Yields P ops o v a ∧ wpQuiet P ops C K l (a.put o.dst v) := by
  have hw : Region.wanted o (yielded ops a.tmps) = true := by simp [Region.wanted, hg]
  simp only [wpQuiet, hw, if_true] at h
  obtain ⟨v, h1, h2⟩ := h
  exact ⟨v, .inl ⟨hw, run_extract_all ho (h1 w0 hw0)⟩, h2⟩

/-- What is asked once the head has come up: nothing of it is left, the two components may be taken first, the rest has one order. -/
def lateB (md : Region.Mode) (ops : Array Oper) (g n : Nat) (listed : Array Bool) : Bool :=
  (Region.ready md ops listed).all (fun j => decide (n ≤ j)) && (Region.ready md ops listed).contains n && Region.free md ops listed n &&
    (Region.ready md ops (listed.setIfInBounds n true)).contains (n + 1) && Region.free md ops (listed.setIfInBounds n true) (n + 1) && Region.seqB md ops g (n + 2) ((listed.setIfInBounds n true).setIfInBounds (n + 1) true)
def lexLateB (ops : Array Oper) (n : Nat) : Bool :=
  Region.noSelect ops && decide (n + 2 ≤ ops.size) && decide (0 < n) && sinkFrom 1 .any ops (n - 1) && hangB .any ops n && Region.free .any ops (Array.replicate ops.size false) 0 && (Region.ready .any ops (Array.replicate ops.size false)).contains 0 &&
    lexThen .any ops (lateB .any ops (ops.size - (n + 2)) n) (n - 1) 1 ((Array.replicate ops.size false).setIfInBounds 0 true)

/-- A move first, then the head (operations 1 to n - 1), the two components (n, n + 1), the tail. -/
theorem wp_region_late_tail {id : Nat} {Q : Exit → Act → World → Prop} {a : Act} {w : World} {o : Oper} {l : List Oper} (n : Nat) (x : Operand) (ho : o.op = .move x) (hg : o.guard = none) (ha : o.after = #[])
    {o1 o2 : Oper} {t1 t2 : Operand} {i1 i2 : Nat} (e1 : l[n - 1]? = some o1) (e2 : l[n]? = some o2) (p1 : o1.op = .extract t1 i1) (p2 : o2.op = .extract t2 i2) (g1 : o1.guard = none) (g2 : o2.guard = none)
    (hm : P.follows .mixedOrders = true) (hB : lexLateB (o :: l).toArray n = true) (hC : C { w with drawn := w.drawn + 1 })
    (hQ : ∀ c (a : Act) v w, Q (.panic c) (a.put o.dst v) w → Q (.panic c) a w) (hQ1 : ∀ c (a : Act) v w, Q (.panic c) (a.put o1.dst v) w → Q (.panic c) a w) (hQ2 : ∀ c (a : Act) v w, Q (.panic c) (a.put o2.dst v) w → Q (.panic c) a w)
    (h : wpQuiet P (o :: l).toArray C (fun a' => ∀ w', C w' → wpList P (o :: l).toArray Q (l.drop (n + 1)) a' w') (l.take (n + 1)) (a.put o.dst (a.eval x))) : (Code.region id (o :: l).toArray true).wp P Q a w := by
  simp only [lexLateB, Bool.and_eq_true, decide_eq_true_eq] at hB
  obtain ⟨⟨⟨⟨⟨⟨⟨hsel, hn⟩, hn0⟩, hs⟩, hc⟩, hf⟩, hr⟩, hlex⟩ := hB
  have hn' : n + 2 ≤ l.length + 1 := by simpa using hn
  have htl : (l.take (n - 1)).length = n - 1 := by simp; omega
  have hdl : (l.drop (n + 1)).length = (o :: l).toArray.size - (n + 2) := by simp
  have h0 : (o :: l).toArray[0]? = some o := by simp
  have h1 : (o :: l).toArray[n]? = some o1 := by
    obtain ⟨k, rfl⟩ : ∃ k, n = k + 1 := ⟨n - 1, by omega⟩
    simpa using e1
  have h2 : (o :: l).toArray[n + 1]? = some o2 := by simpa using e2
  have hsplit : l.take (n + 1) = l.take (n - 1) ++ [o1, o2] := by
    have hd : l.drop (n - 1) = o1 :: o2 :: l.drop (n + 1) := by
      obtain ⟨k, rfl⟩ : ∃ k, n = k + 1 := ⟨n - 1, by omega⟩
      simp only [Nat.add_sub_cancel] at e1 ⊢
      rw [List.drop_eq_getElem_cons (by omega), List.drop_eq_getElem_cons (by omega)]
      have q1 := (List.getElem?_eq_some_iff.1 e1).2
      have q2 := (List.getElem?_eq_some_iff.1 e2).2
      rw [q1, q2]
    have := List.take_append_drop (n - 1) l
    calc l.take (n + 1) = (l.take (n - 1) ++ l.drop (n - 1)).take (n + 1) := by rw [this]
      _ = l.take (n - 1) ++ [o1, o2] := by
        rw [List.take_append, htl, hd, show n + 1 - (n - 1) = 2 by omega, List.take_of_length_le (by rw [htl]; omega)]; try rfl
  rw [hsplit] at h
  have h := wpQuiet_append _ _ _ h
  have inv0 : HeadInv .any (o :: l).toArray n ((Array.replicate (o :: l).toArray.size false).setIfInBounds 0 true) := by
    refine ⟨by simp, fun j oj hj hl e he hb => ?_, fun t ht ht' => ?_⟩
    · by_cases hj0 : 0 = j
      · subst hj0
        have : oj = o := Option.some.inj (hj.symm.trans h0)
        subst this
        rw [ha] at he
        simp at he
      · rw [getD_set_ne false hj0, getD_replicate_false] at hl; cases hl
    · rw [getD_set_ne true (by omega)]
      exact getD_in (by simpa using ht') (getD_replicate_false _ _)
  have H := mheadAny_lexL (m := 1) (md := .any) (n := n) hsel hn0 hs hc (fun listed hE j hj => by
      have hE := (show lateB .any (o :: l).toArray ((o :: l).toArray.size - (n + 2)) n listed = true from hE)
      simp only [lateB, Bool.and_eq_true] at hE
      have := List.all_eq_true.1 hE.1.1.1.1.1 j hj
      simpa using this) (l.take (n - 1)) 1 _ (a.put o.dst (a.eval x)) (Nat.le_refl _) (fun j hj => by
    have hj' : j < n - 1 := by rw [htl] at hj; exact hj
    rw [List.getElem?_take, if_pos hj']
    simp [Nat.add_comm 1 j]) (by rw [htl]; omega) inv0 (by rw [htl]; exact hlex) h
  refine wp_region_any hm ?_
  have hsz : (o :: l).toArray.size = (n - 1 + ((o :: l).toArray.size - (n + 2) + 1 + 1)) + 1 := by omega
  rw [hsz]
  refine wpAny_take h0 hsel ?_ ?_ (fun c a w hh => hQ c a _ w hh) (v := a.eval x) (.inl ⟨by simp [Region.wanted, hg], fun w => BigFrame.run_move x ho w⟩) ?_
  · rw [← hsz]; exact hf
  · rw [← hsz]; exact hr
  · rw [← hsz]
    have := any_of_mhead (Q' := Q) (g := (o :: l).toArray.size - (n + 2) + 1 + 1) (fun listed a' w' hw' hL => by
      obtain ⟨hE, hL⟩ := hL
      simp only [lateB, Bool.and_eq_true] at hE
      obtain ⟨⟨⟨⟨⟨_, r1⟩, f1⟩, r2⟩, f2⟩, hseq⟩ := hE
      obtain ⟨v1, y1, hL⟩ := yields_extract p1 g1 hw' hL
      obtain ⟨v2, y2, hL⟩ := yields_extract p2 g2 hw' hL
      refine wpAny_take h1 hsel f1 r1 (fun c a w hh => hQ1 c a _ w hh) y1 ?_
      refine wpAny_take h2 hsel f2 r2 (fun c a w hh => hQ2 c a _ w hh) y2 ?_
      have := wpAny_of_seq (md := .any) (Q' := Q) (l.drop (n + 1)) (n + 2) ((listed.setIfInBounds n true).setIfInBounds (n + 1) true) _ w' (fun j => by
        rw [List.getElem?_drop]
        have : n + 2 + j = (n + 1 + j) + 1 := by omega
        rw [this]; simp) (by rw [hdl]; exact hseq) (hL w' hw')
      rwa [hdl] at this) _ _ _ _ hC H
    rw [htl] at this
    exact this
end

/-- The same at the class 'nothing that was there has changed'. -/
theorem wp_region_late {P : Program} {id : Nat} {Q : Exit → Act → World → Prop} {a : Act} {w : World} {o : Oper} {l : List Oper} (n : Nat) (x : Operand) (ho : o.op = .move x) (hg : o.guard = none) (ha : o.after = #[])
    {o1 o2 : Oper} {t1 t2 : Operand} {i1 i2 : Nat} (e1 : l[n - 1]? = some o1) (e2 : l[n]? = some o2) (p1 : o1.op = .extract t1 i1) (p2 : o2.op = .extract t2 i2) (g1 : o1.guard = none) (g2 : o2.guard = none)
    (hm : P.follows .mixedOrders = true) (hB : lexLateB (o :: l).toArray n = true)
    (hQ : ∀ c (a : Act) v w, Q (.panic c) (a.put o.dst v) w → Q (.panic c) a w) (hQ1 : ∀ c (a : Act) v w, Q (.panic c) (a.put o1.dst v) w → Q (.panic c) a w) (hQ2 : ∀ c (a : Act) v w, Q (.panic c) (a.put o2.dst v) w → Q (.panic c) a w)
    (h : wpQuiet P (o :: l).toArray (fun w' => ∃ p : Regrown, w' = grow (redrawn w p.d) p.os) (fun a' => ∀ w', Below w.heap.size w w' → wpList P (o :: l).toArray Q (l.drop (n + 1)) a' w') (l.take (n + 1)) (a.put o.dst (a.eval x))) : (Code.region id (o :: l).toArray true).wp P Q a w := by
  refine wp_region_late_tail (C := fun w' => ∃ p : Regrown, w' = grow (redrawn w p.d) p.os) n x ho hg ha e1 e2 p1 p2 g1 g2 hm hB ⟨⟨w.drawn + 1, #[]⟩, by rw [grow_empty]; rfl⟩ hQ hQ1 hQ2 ?_
  have e : (fun a' => ∀ w', Below w.heap.size w w' → wpList P (o :: l).toArray Q (l.drop (n + 1)) a' w') = (fun a' => ∀ w', (∃ p : Regrown, w' = grow (redrawn w p.d) p.os) → wpList P (o :: l).toArray Q (l.drop (n + 1)) a' w') := by
    funext a'
    refine propext ⟨fun h w' ⟨p, hp⟩ => h w' (hp ▸ below_regrown w p.d p.os), fun h w' hb => h w' (regrown_of_below hb)⟩
  rw [← e]
  exact h
end

section
open Go.RowKit Go.Sort
set_option maxRecDepth 100000
set_option linter.unusedSimpArgs false
set_option linter.unusedVariables false

/-- A guarded load of a whole row. -/
theorem wpList_load_want {P : Program} {ops : Array Oper} {rest : List Oper} {o : Oper} {a : Act} {w : World} {Q : Exit → Act → World → Prop} (hw : Region.wanted o (yielded ops a.tmps) = true) (ty : TypeId) (x : Operand) (ho : o.op = .load ty x)
    (g : Nat) (hx : a.eval x = .pointer (some ⟨g, 0, none⟩)) (t : TypeId) (cs : Array Value) (fr : Nat × Nat) (d : TypeDesc) (hg : w.heap[g]? = some (.cells cs t fr))
    (hu : P.underlying ty = some d) (hd : (match d with | .struct _ | .array _ _ => true | _ => false) = true) (hi : (P.info? ty).map (·.size) = some cs.size)
    (h : wpList P ops Q rest (a.put o.dst (.agg cs)) w) : wpList P ops Q (o :: rest) a w :=
  BigFrame.wpList_want hw fun _ hK => wp_load_row ty x ho g hx t cs fr d hg hu hd hi (hK _ _ h)
theorem rows_op {P : Program} {ops : Array Oper} {Q : Exit → Act → World → Prop} {i : Nat} {o : Oper} {K : Act → World → Prop} {a : Act} {w : World} (ho : ops[i]? = some o) (hg : o.guard = none) (h : o.wp P a w K Q) : wpOp P ops Q i K a w := by
  unfold wpOp
  simp only [ho]
  rw [if_pos (by simp [Region.wanted, hg])]
  exact .inl h
theorem results_rows2 {P : Program} {fn : Func} {p q : Tmp} {ty ty' : TypeId} (h : fn.results = #[.cell p ty, .cell q ty']) (tmps : Array Value) (w : World) (g g' : Nat) (t t' : TypeId) (cs cs' : Array Value) (d d' : TypeDesc)
    (hp : tmps.getD p undef = .pointer (some ⟨g, 0, none⟩)) (hg : w.heap[g]? = some (.cells cs t)) (hu : P.underlying ty = some d) (hd : (match d with | .struct _ | .array _ _ => true | _ => false) = true) (hi : (P.info? ty).map (·.size) = some cs.size)
    (hp' : tmps.getD q undef = .pointer (some ⟨g', 0, none⟩)) (hg' : w.heap[g']? = some (.cells cs' t')) (hu' : P.underlying ty' = some d') (hd' : (match d' with | .struct _ | .array _ _ => true | _ => false) = true) (hi' : (P.info? ty').map (·.size) = some cs'.size) :
    (results fn tmps).run P w = .ok (.tuple #[.agg cs, .agg cs']) w := by
  have e1 := run_loadVar_row w g t ty cs (0, 0) d hg hu hd hi
  have e2 := run_loadVar_row w g' t' ty' cs' (0, 0) d' hg' hu' hd' hi'
  simp only [results, h]
  simp at hp hp'
  simp [Sem.run_bind, Result.andThen, hp, hp', asAddr, e1, e2]
/-- Which may come up when. -/
def rows2B (ops : Array Oper) : Bool :=
  decide (Region.ready .any ops #[false, false, false, false] = [0, 1]) && decide (Region.ready .any ops #[true, false, false, false] = [1, 2]) && decide (Region.ready .any ops #[false, true, false, false] = [0]) &&
    decide (Region.ready .any ops #[true, true, false, false] = [2]) && decide (Region.ready .any ops #[true, false, true, false] = [1]) && decide (Region.ready .any ops #[true, true, true, false] = [3]) && decide (Region.ready .any ops #[true, true, true, true] = [])
theorem wp_region_rows2 {P : Program} {id : Nat} {Q : Exit → Act → World → Prop} {a : Act} {w : World} {o0 o1 o2 o3 : Oper} (hm : P.follows .mixedOrders = true) (hB : rows2B #[o0, o1, o2, o3] = true)
    (g0 : o0.guard = none) (g1 : o1.guard = none) (g2 : o2.guard = none) (g3 : o3.guard = none) {ty : TypeId} {x0 x1 x2 x3 y2 y3 : Operand} {d0 d1 : Tmp}
    (p0 : o0.op = .load ty x0) (p1 : o1.op = .load ty x1) (p2 : o2.op = .store ty x2 y2) (p3 : o3.op = .store ty x3 y3)
    (q0 : o0.dst = some d0) (q1 : o1.dst = some d1) (q2 : o2.dst = none) (q3 : o3.dst = none) (hne : d0 ≠ d1)
    (B0 B1 C0 C1 : Nat) (cs0 cs1 old0 old1 : Array Value) (t0 t1 u0 u1 : TypeId) (d : TypeDesc)
    (w0 : w.heap[B0]? = some (.cells cs0 t0)) (w1 : w.heap[B1]? = some (.cells cs1 t1)) (z0 : w.heap[C0]? = some (.cells old0 u0)) (z1 : w.heap[C1]? = some (.cells old1 u1)) (n1 : C0 ≠ B1) (n2 : C0 ≠ C1)
    (hu : P.underlying ty = some d) (hd : (match d with | .struct _ | .array _ _ => true | _ => false) = true)
    (i0 : (P.info? ty).map (·.size) = some cs0.size) (i1 : (P.info? ty).map (·.size) = some cs1.size) (s0 : old0.size = cs0.size) (s1 : old1.size = cs1.size) (c0 : cs0.all (·.oneCell') = true) (c1 : cs1.all (·.oneCell') = true)
    (e0 : a.eval x0 = .pointer (some ⟨B0, 0, none⟩)) (e0' : (a.put (some d1) (.agg cs1)).eval x0 = .pointer (some ⟨B0, 0, none⟩)) (e1 : a.eval x1 = .pointer (some ⟨B1, 0, none⟩)) (e1' : (a.put (some d0) (.agg cs0)).eval x1 = .pointer (some ⟨B1, 0, none⟩))
    (e2 : (a.put (some d0) (.agg cs0)).eval x2 = .pointer (some ⟨C0, 0, none⟩)) (e2' : ((a.put (some d0) (.agg cs0)).put (some d1) (.agg cs1)).eval x2 = .pointer (some ⟨C0, 0, none⟩)) (f2 : (a.put (some d0) (.agg cs0)).eval y2 = .agg cs0) (f2' : ((a.put (some d0) (.agg cs0)).put (some d1) (.agg cs1)).eval y2 = .agg cs0)
    (e3 : ((a.put (some d0) (.agg cs0)).put (some d1) (.agg cs1)).eval x3 = .pointer (some ⟨C1, 0, none⟩)) (f3 : ((a.put (some d0) (.agg cs0)).put (some d1) (.agg cs1)).eval y3 = .agg cs1)
    (h : ∀ w', Below w.heap.size w w' → w'.heap = w.heap → Q .normal ((a.put (some d0) (.agg cs0)).put (some d1) (.agg cs1)) ((w'.setRow C0 cs0).setRow C1 cs1)) : (Code.region id #[o0, o1, o2, o3] true).wp P Q a w := by
  simp only [rows2B, Bool.and_eq_true, decide_eq_true_eq] at hB
  obtain ⟨⟨⟨⟨⟨⟨r0, r1⟩, r2⟩, r3⟩, r4⟩, r5⟩, r6⟩ := hB
  refine wp_region_any hm ?_
  have hv := h { w with drawn := w.drawn + 1 } ⟨rfl, rfl, rfl, Nat.le_refl _, fun _ _ => rfl⟩ rfl
  have w0 : ({ w with drawn := w.drawn + 1 } : World).heap[B0]? = some (.cells cs0 t0) := w0
  have w1 : ({ w with drawn := w.drawn + 1 } : World).heap[B1]? = some (.cells cs1 t1) := w1
  have z0 : ({ w with drawn := w.drawn + 1 } : World).heap[C0]? = some (.cells old0 u0) := z0
  have z1 : ({ w with drawn := w.drawn + 1 } : World).heap[C1]? = some (.cells old1 u1) := z1
  generalize ({ w with drawn := w.drawn + 1 } : World) = v at *
  clear h
  have w1' : (v.setRow C0 cs0).heap[B1]? = some (.cells cs1 t1) := by rw [setRow_other _ _ _ _ (Ne.symm n1)]; exact w1
  have z1' : (v.setRow C0 cs0).heap[C1]? = some (.cells old1 u1) := by rw [setRow_other _ _ _ _ (Ne.symm n2)]; exact z1
  have hcomm : (a.put (some d1) (.agg cs1)).put (some d0) (.agg cs0) = (a.put (some d0) (.agg cs0)).put (some d1) (.agg cs1) := Act.put_comm a _ _ (fun d hd he => hne ((Option.some.inj he).trans (Option.some.inj hd).symm))
  -- the last store
  have L3 : wpAny P .any #[o0, o1, o2, o3] Q 1 #[true, true, true, false] ((a.put (some d0) (.agg cs0)).put (some d1) (.agg cs1)) (v.setRow C0 cs0) := by
    refine wpAny_all r5 (by simp) fun i hi => ?_
    obtain rfl : i = 3 := by simpa using hi
    refine rows_op (o := o3) rfl g3 (wp_store_row ty _ _ p3 C1 cs1 e3 f3 u1 old1 z1' i1 s1 c1 ?_)
    rw [q3]
    exact wpAny_done r6 hv 0
  have L23 : wpAny P .any #[o0, o1, o2, o3] Q 2 #[true, true, false, false] ((a.put (some d0) (.agg cs0)).put (some d1) (.agg cs1)) v := by
    refine wpAny_all r3 (by simp) fun i hi => ?_
    obtain rfl : i = 2 := by simpa using hi
    refine rows_op (o := o2) rfl g2 (wp_store_row ty _ _ p2 C0 cs0 e2' f2' u0 old0 z0 i0 s0 c0 ?_)
    rw [q2]
    exact L3
  refine wpAny_all (fuel := 3) (listed := #[false, false, false, false]) r0 (by simp) fun i hi => ?_
  rcases (show i = 0 ∨ i = 1 by simpa using hi) with rfl | rfl
  · refine rows_op (o := o0) rfl g0 (wp_load_row ty _ p0 B0 e0 t0 cs0 (0, 0) d w0 hu hd i0 ?_)
    rw [q0]
    refine wpAny_all (fuel := 2) (listed := #[true, false, false, false]) r1 (by simp) fun i hi => ?_
    rcases (show i = 1 ∨ i = 2 by simpa using hi) with rfl | rfl
    · refine rows_op (o := o1) rfl g1 (wp_load_row ty _ p1 B1 e1' t1 cs1 (0, 0) d w1 hu hd i1 ?_)
      rw [q1]
      exact L23
    · refine rows_op (o := o2) rfl g2 (wp_store_row ty _ _ p2 C0 cs0 e2 f2 u0 old0 z0 i0 s0 c0 ?_)
      rw [q2]
      refine wpAny_all (fuel := 1) (listed := #[true, false, true, false]) r4 (by simp) fun i hi => ?_
      obtain rfl : i = 1 := by simpa using hi
      refine rows_op (o := o1) rfl g1 (wp_load_row ty _ p1 B1 e1' t1 cs1 (0, 0) d w1' hu hd i1 ?_)
      rw [q1]
      exact L3
  · refine rows_op (o := o1) rfl g1 (wp_load_row ty _ p1 B1 e1 t1 cs1 (0, 0) d w1 hu hd i1 ?_)
    rw [q1]
    refine wpAny_all (fuel := 2) (listed := #[false, true, false, false]) r2 (by simp) fun i hi => ?_
    obtain rfl : i = 0 := by simpa using hi
    refine rows_op (o := o0) rfl g0 (wp_load_row ty _ p0 B0 e0' t0 cs0 (0, 0) d w0 hu hd i0 ?_)
    rw [q0, hcomm]
    exact L23
end

section
open Go.RowKit Go.Sort
set_option maxRecDepth 100000

section
variable {a : Act} {k : Nat} {v : Value} {x y z t u s : Nat × Value} {l : List (Nat × Value)}
theorem sd0 (h : ∀ p ∈ (k, v) :: l, a.tmps.getD p.1 undef = p.2) : a.tmps.getD k undef = v := h _ (.head _)
theorem rd0 (h : ∀ p ∈ (k, v) :: l, a.tmps.getD p.1 undef = p.2) : a.tmps[k]?.getD undef = v := by
  have := sd0 h
  rwa [Array.getD_eq_getD_getElem?] at this
theorem up0 (h : ∀ p ∈ x :: l, a.tmps.getD p.1 undef = p.2) : ∀ p ∈ l, a.tmps.getD p.1 undef = p.2 := fun p hp => h p (.tail _ hp)
theorem sd1 (h : ∀ p ∈ x :: (k, v) :: l, a.tmps.getD p.1 undef = p.2) : a.tmps.getD k undef = v := sd0 (up0 h)
theorem rd1 (h : ∀ p ∈ x :: (k, v) :: l, a.tmps.getD p.1 undef = p.2) : a.tmps[k]?.getD undef = v := rd0 (up0 h)
theorem sd2 (h : ∀ p ∈ x :: y :: (k, v) :: l, a.tmps.getD p.1 undef = p.2) : a.tmps.getD k undef = v := sd1 (up0 h)
theorem rd2 (h : ∀ p ∈ x :: y :: (k, v) :: l, a.tmps.getD p.1 undef = p.2) : a.tmps[k]?.getD undef = v := rd1 (up0 h)
theorem sd3 (h : ∀ p ∈ x :: y :: z :: (k, v) :: l, a.tmps.getD p.1 undef = p.2) : a.tmps.getD k undef = v := sd2 (up0 h)
theorem rd3 (h : ∀ p ∈ x :: y :: z :: (k, v) :: l, a.tmps.getD p.1 undef = p.2) : a.tmps[k]?.getD undef = v := rd2 (up0 h)
theorem sd4 (h : ∀ p ∈ x :: y :: z :: t :: (k, v) :: l, a.tmps.getD p.1 undef = p.2) : a.tmps.getD k undef = v := sd3 (up0 h)
theorem rd4 (h : ∀ p ∈ x :: y :: z :: t :: (k, v) :: l, a.tmps.getD p.1 undef = p.2) : a.tmps[k]?.getD undef = v := rd3 (up0 h)
theorem sd5 (h : ∀ p ∈ x :: y :: z :: t :: u :: (k, v) :: l, a.tmps.getD p.1 undef = p.2) : a.tmps.getD k undef = v := sd4 (up0 h)
theorem rd5 (h : ∀ p ∈ x :: y :: z :: t :: u :: (k, v) :: l, a.tmps.getD p.1 undef = p.2) : a.tmps[k]?.getD undef = v := rd4 (up0 h)
end
section
variable {w W W' : World} {g B : Nat} {o : Obj}
theorem bwt (hb : Below g w W) (H : Hid (W.heap[g]? = some o)) (bk : Below W.heap.size W W') : Below g w W' := hb.trans (bk.mono (Nat.le_of_lt (blk_lt H.out)))
theorem bws (hb : Below w.heap.size w W) (bk : Below W.heap.size W W') : Below w.heap.size w W' := hb.trans (bk.mono hb.size)
theorem hkp (H : Hid (W.heap[g]? = some o)) (bk : Below W.heap.size W W') : Hid (W'.heap[g]? = some o) := Lib.hid (blk_below bk (blk_lt H.out) H.out)
theorem hkq (H : Hid (W.heap[g]? = some o)) (bk : Below W.heap.size W W') : W'.heap[g]? = some o := blk_below bk (blk_lt H.out) H.out
end
/-- A call that returns one value, and leaves what was. -/
abbrev Rt (f : Nat) (a : Array Value) (w : World) (v : Value) : Prop := Calls Tryd.prog f a w fun e w' => e = .returned v ∧ Below w.heap.size w w'
end
end Go.Proofs.YtjjgakkijhjaiaaDoor
