/- Small laws on worlds that the walks of this seat share. -/
import Derived.Test.YteomfleofeeofaaGreatDoorRows
import Derived.WalkKit
import Derived.WalkSpells
import Derived.WalkLawsBesides
import Derived.Deep.QuietTactic
import Derived.BigQuiet
import Derived.Lib.QuietBelow
import Derived.Lib.Hide
import Derived.Deep.RegionHeld3
import Derived.Deep.WholeRow
import Derived.Laws.Rows
import Derived.Lib.Strings
import Derived.Laws.CopyOwn
import Derived.StillTail
import Derived.BigFrame
import Derived.Lib.BufferWrite
import Derived.Lib.UnsafeStr
import Derived.Laws.MakeOwn
import Derived.Lib.AppendStr
import Derived.Laws.BytesString
import Derived.ArgAppend
import Derived.Lib.ConvBytes
import Derived.Laws.Tables
import Derived.Laws.ResultCell
import Derived.ProofKit
import Derived.OpenShut
import Derived.Lib.SmallJoins
namespace Go.Proofs.YteomfleofeeofaaGreatDoor
open _root_.Array (getD_eq_getD_getElem?)
open Go.Proofs.Tryz
set_option maxRecDepth 100000
theorem jcr:type_of% @cell_regrown:=@cell_regrown
theorem jsr:type_of% @wpList_store_row:=@wpList_store_row
theorem jbr:type_of% @below_setRow:=@below_setRow
theorem jsh:type_of% @setRow_heap:=@setRow_heap
theorem jbc:type_of% @block_lt_of_cell:=@block_lt_of_cell
theorem jlr:type_of% @Nat.le_refl:=@Nat.le_refl
theorem jlt:type_of% @Nat.le_trans:=@Nat.le_trans
theorem jzi:type_of% @zero_of_info:=@zero_of_info
theorem jpr:type_of% @bodyPost_ret:=@bodyPost_ret
theorem jso:type_of% @heap_setCell_other:=@heap_setCell_other
theorem jlw:type_of% @wpList_load_row:=@wpList_load_row
theorem jro:type_of% @setRow_other:=@setRow_other
theorem jco:type_of% @cell_of_row:=@cell_of_row
theorem jqn:type_of% @wpQuiet_nil:=@wpQuiet_nil
theorem jfr:type_of% @frozen_of_row:=@frozen_of_row
theorem jll:type_of% @Nat.le_of_lt:=@Nat.le_of_lt
theorem jrc:type_of% @results_cell_row:=@results_cell_row
theorem jl3:type_of% @Nat.lt_of_lt_of_le:=@Nat.lt_of_lt_of_le
theorem jtl:type_of% @List.take_of_length_le:=@List.take_of_length_le
set_option linter.unusedSimpArgs false
set_option linter.unusedVariables false
section
open Go.RowKit Go.Sort
theorem qad(w:World)(o:Obj):(w.alloc o).heap[w.heap.size]?=some o:=by
 show (w.heap.push o)[w.heap.size]?=some o;simp
theorem qah{w:World}{o x:Obj}{i:Nat}(h:w.heap[i]?=some x):(w.alloc o).heap[i]?=some x:=by
 have hi:i<w.heap.size:=by
  rcases Nat.lt_or_ge i w.heap.size with h'|h'
  ·exact h'
  ·rw[Array.getElem?_eq_none h']at h;cases h
 show (w.heap.push o)[i]?=some x;rw[Array.getElem?_push,if_neg (Nat.ne_of_lt hi)];exact h
theorem qac{W:World}{b:Nat}{o:Obj}(h:W.heap[b]?=some o):b<W.heap.size:=by
 rcases Nat.lt_or_ge b W.heap.size with h'|h'
 ·exact h'
 ·rw[Array.getElem?_eq_none h']at h;cases h
theorem qap{W W':World}{b B:Nat}{o:Obj}(hb:Below B W W')(z0:b<B)(h:W.heap[b]?=some o):W'.heap[b]?=some o:=(hb.block b z0).trans h
theorem qaz(w:World)(P R:Obj):((w.alloc P).alloc R).heap[w.heap.size+1]?=some R:=by
 have:=qad (w.alloc P) R;simpa using this
theorem qby(w:World)(P R A:Obj):(((w.alloc P).alloc R).alloc A).heap[w.heap.size+1+1]?=some A:=by
 have:=qad ((w.alloc P).alloc R) A;simpa using this
theorem qaf(w:World)(P:Obj):Below w.heap.size w (w.alloc P):=(Below.refl _ _).alloc (jlr _) _
theorem qaL(w:World)(P R:Obj):Below w.heap.size w ((w.alloc P).alloc R):=(qaf w P).alloc (by simp) _
theorem qbd(w:World)(P R A:Obj):Below w.heap.size w (((w.alloc P).alloc R).alloc A):=(qaL w P R).alloc (by simp;omega) _
theorem qav{P:Program}{id:Nat}{Q:Exit→Act→World→Prop}{a:Act}{w:World}{l:List Oper}(hm:P.follows .mixedOrders=true)(hB:Region.lexB .any l.toArray=true)
  (h:wpQuiet P l.toArray (fun w'=>∃ p:Regrown,w'=grow (redrawn w p.d) p.os) (fun a'=>∀ w',Below w.heap.size w w'→Q .normal a' w') l a):(Code.region id l.toArray true).wp P Q a w:=by
 refine wp_region_quiet (C:=fun w'=>∃ p:Regrown,w'=grow (redrawn w p.d) p.os) hm hB ⟨⟨w.drawn+1,#[]⟩,by rw[grow_empty];rfl⟩ ?_;have e:(fun a'=>∀ w',Below w.heap.size w w'→Q .normal a' w')=(fun a'=>∀ w',(∃ p:Regrown,w'=grow (redrawn w p.d) p.os)→Q .normal a' w'):=by
  funext a';refine propext ⟨fun h w' ⟨p,hp⟩=>h w' (hp▸below_regrown w p.d p.os),fun h w' hb=>h w' (regrown_of_below hb)⟩
 rw[← e];simpa using h
section
variable {P : Program} {ops : Array Oper} {md : Region.Mode} {C : World → Prop}
def headAny(P:Program)(md:Region.Mode)(ops:Array Oper)(C:World→Prop)(n:Nat)(L:Array Bool→Act→Prop):Nat→Array Bool→Act→Prop
 | 0,listed,a=>L listed a
 | f+1,listed,a=>Region.ready md ops listed≠[]∧∀ i ∈ Region.ready md ops listed,i<n∧qOp P ops C i (headAny P md ops C n L f (listed.setIfInBounds i true)) a
theorem any_of_head{n g:Nat}{L:Array Bool→Act→Prop}{Q':Exit→Act→World→Prop}(hL:∀ listed a w,C w→L listed a→wpAny P md ops Q' g listed a w):∀ (f:Nat) (listed:Array Bool) (a:Act) (w:World),C w→headAny P md ops C n L f listed a→wpAny P md ops Q' (f+g) listed a w
 | 0,listed,a,w,hw,h=>by rw[Nat.zero_add];exact hL _ _ _ hw h
 | f+1,listed,a,w,hw,h=>by
  rw[show f+1+g=(f+g)+1 by omega];exact⟨fun h0=>absurd h0 h.1,fun i hi=>wpOp_of_qOp hw (fun a' w' z0 h'=>any_of_head hL f _ a' w' z0 h') (h.2 i hi).2⟩
theorem headAny_first{n i:Nat}{oi:Oper}{v:Value}{L:Array Bool→Act→Prop}(hi:ops[i]?=some oi)(z4:∀ (j:Nat) (o:Oper) cs b,ops[j]?=some o→o.op≠.select cs b)
  (hs:Region.sinkB md ops n=true) (hc:Region.chainB md ops n=true) (hn:n<ops.size) (zb:i<n)
  (z2:∀ listed a,L listed a→∀ j ∈ Region.ready md ops listed,n≤j) :
  ∀ (f:Nat) (listed:Array Bool) (a:Act),HeadInv md ops n listed→
   (∀ j oj,ops[j]?=some oj→j≠i→listed.getD j true=false→(∀ e ∈ oj.after,Region.binds md e=true→e.on≠i)→oi.apart ops oj=true)→
   i ∈ Region.ready md ops listed→YieldsIn P ops C oi v a→
   headAny P md ops C n L f (listed.setIfInBounds i true) (a.put oi.dst v)→headAny P md ops C n L (f+1) listed a:=by
 intro f
 induction f with
 | zero=>
  intro listed a z7 _ hr hy H;have z6:=(mem_ready.1 hr).1;refine⟨fun h=>(by rw[h]at hr;cases hr),fun j hj=>?_⟩;have z5:j<n:=Nat.lt_of_not_le fun h=>absurd hj (tail_waits hs hc hn z7 _ i rfl zb z6 j h);refine⟨z5,?_⟩;by_cases z1:j=i
  ·subst z1;exact hy.qOp hi H
  ·have:=z2 _ _ H j (ready_mono hj z1);omega
 | succ f ih=>
  intro listed a z7 z0 hr hy H;have z6:=(mem_ready.1 hr).1;refine⟨fun h=>(by rw[h]at hr;cases hr),fun j hj=>?_⟩;have z5:j<n:=Nat.lt_of_not_le fun h=>absurd hj (tail_waits hs hc hn z7 _ i rfl zb z6 j h);refine⟨z5,?_⟩;by_cases z1:j=i
  ·subst z1;exact hy.qOp hi H
  ·have h1:=(H.2 j (ready_mono hj z1)).2;obtain⟨z3,oj,za,z8⟩:=mem_ready.1 hj;have z9:∀ e ∈ oj.after,Region.binds md e=true→e.on≠i:=fun e he hb zd=>by
    have h1:=z8 e he hb;rw[zd,getD_both z6]at h1
    cases h1
   have h2:=qOp_put za (z0 j oj za z1 z3 z9) (fun cs b=>z4 i oi cs b hi) (fun cs b=>z4 j oj cs b za) hy h1;refine qOp_mono (fun a' h3=>ih (listed.setIfInBounds j true) a' (z7.set hj z5) (fun k ok hk ze hu zf=>z0 k ok hk ze ?_ zf) (ready_mono hr (Ne.symm z1)) h3.1 ?_) h2
   ·by_cases zc:j=k
    ·subst zc;exact z3
    ·rwa[getD_set_ne true zc]at hu
   ·rw[Array.setIfInBounds_comm _ _ z1];exact h3.2
theorem headAny_lex{n g:Nat}{Lq:Act→Prop}(z1:Region.noSelect ops=true)(hs:Region.sinkB md ops n=true)(hc:Region.chainB md ops n=true)(hn:n<ops.size):∀ (l:List Oper) (k:Nat) (listed:Array Bool) (a:Act),(∀ j,j<l.length→l[j]?=ops[k+j]?)→k+l.length=n→HeadInv md ops n listed→
  Region.lexHead md ops g l.length k listed=true→wpQuiet P ops C Lq l a→
  headAny P md ops C n (fun z0 a'=>Region.seqB md ops g n z0=true∧Lq a') l.length listed a
 | [],k,listed,a,_,hk,_,hB,h=>by
  obtain rfl:k=n:=by simpa using hk
  exact⟨by simpa[Region.lexHead]using hB,h⟩
 | o :: l,k,listed,a,hl,hk,inv,hB,h=>by
  have h0:ops[k]?=some o:=by simpa using (hl 0 (by simp)).symm
  simp only[List.length_cons,Region.lexHead,Bool.and_eq_true]at hB;obtain⟨⟨hr,hf⟩,z4⟩:=hB;have z2:k<n:=by simp only[List.length_cons]at hk;omega
  have z3:k ∈ Region.ready md ops listed:=by simpa using hr
  have z5:qOp P ops C k (wpQuiet P ops C Lq l) a:=by unfold qOp;simp only[h0];exact h
  obtain⟨v,hy,hK⟩:=yieldsIn_of_qOp h0 z5;exact headAny_first h0 (Region.noSelect_spec z1) hs hc hn z2 (fun z0 a' hL=>seqB_ready hL.1) l.length listed a inv (Region.free_spec h0 hf) z3 hy
   (headAny_lex z1 hs hc hn l (k+1) _ _ (fun j hj=>by have:=hl (j+1) (by simp;omega);simpa[Nat.add_assoc,Nat.add_comm 1 j]using this) (by simp only[List.length_cons]at hk;omega) (inv.set z3 z2) z4 hK)
theorem wp_region_head_tail{id:Nat}{Q:Exit→Act→World→Prop}{a:Act}{w:World}{l:List Oper}(n:Nat)(hm:P.follows .mixedOrders=true)(hB:Region.lexTailB .any l.toArray n=true)(hC:C { w with drawn:=w.drawn+1 })
  (h:wpQuiet P l.toArray C (fun a'=>∀ w',C w'→wpList P l.toArray Q (l.drop n) a' w') (l.take n) a):(Code.region id l.toArray true).wp P Q a w:=by
 simp only[Region.lexTailB,Bool.and_eq_true,decide_eq_true_eq]at hB;obtain⟨⟨⟨⟨z2,hn⟩,hs⟩,hc⟩,z1⟩:=hB;have hn':n<l.length:=by simpa using hn
 have z0:(l.take n).length=n:=by simp;omega
 have z4:(l.drop n).length=l.toArray.size-n:=by simp
 have z3:HeadInv .any l.toArray n (Array.replicate l.toArray.size false):=
  ⟨by simp,fun j oj _ hl=>(by rw[getD_replicate_false]at hl;cases hl),fun t _ ht=>getD_in (by simpa using ht) (getD_replicate_false _ _)⟩
 have H:=headAny_lex (md:=.any) (g:=l.toArray.size-n) z2 hs hc hn (l.take n) 0 _ a (fun j hj=>by
  have z5:j<n:=by rw[z0]at hj;exact hj
  simp[z5]) (by simpa using z0) z3 (by rw[z0];exact z1) h
 refine wp_region_any hm ?_;have:=any_of_head (Q':=Q) (g:=l.toArray.size-n) (fun listed a' w' z6 hL=>by
  have:=wpAny_of_seq (md:=.any) (Q':=Q) (l.drop n) n listed a' w' (fun j=>by simp[List.getElem?_drop]) (by rw[z4];exact hL.1) (hL.2 w' z6);rwa[z4]at this) _ _ _ _ hC H
 rw[z0,show n+(l.toArray.size-n)=l.toArray.size by omega]at this;exact this
end
theorem qak{P:Program}{id:Nat}{Q:Exit→Act→World→Prop}{a:Act}{w:World}{l:List Oper}(n:Nat)(hm:P.follows .mixedOrders=true)(hB:Region.lexTailB .any l.toArray n=true)
  (h:wpQuiet P l.toArray (fun w'=>∃ p:Regrown,w'=grow (redrawn w p.d) p.os) (fun a'=>∀ w',Below w.heap.size w w'→wpList P l.toArray Q (l.drop n) a' w') (l.take n) a):(Code.region id l.toArray true).wp P Q a w:=by
 refine wp_region_head_tail (C:=fun w'=>∃ p:Regrown,w'=grow (redrawn w p.d) p.os) n hm hB ⟨⟨w.drawn+1,#[]⟩,by rw[grow_empty];rfl⟩ ?_;have e:(fun a'=>∀ w',Below w.heap.size w w'→wpList P l.toArray Q (l.drop n) a' w')=(fun a'=>∀ w',(∃ p:Regrown,w'=grow (redrawn w p.d) p.os)→wpList P l.toArray Q (l.drop n) a' w'):=by
  funext a';refine propext ⟨fun h w' ⟨p,hp⟩=>h w' (hp▸below_regrown w p.d p.os),fun h w' hb=>h w' (regrown_of_below hb)⟩
 rw[← e];exact h
end
section
open Go.RowKit Go.Sort
section
variable {P : Program} {ops : Array Oper} {md : Region.Mode} {C : World → Prop}
def qds(m:Nat)(md:Region.Mode)(ops:Array Oper)(n:Nat):Bool:=
 (List.range n).all fun i=>decide (i<m) || (List.range (n+1)).any fun j=>decide (i<j)&&Region.waitsFor md ops j i
theorem tail_stays{m n:Nat}{listed:Array Bool}(hs:qds m md ops n=true)(hc:Region.chainB md ops n=true)(hn:n<ops.size)(z4:HeadInv md ops n listed):∀ (d i:Nat),n-i=d→m≤i→i<n→listed.getD i true=false→∀ t,n≤t→t ∉ Region.ready md ops listed:=by
 intro d
 induction d using Nat.strongRecOn with
 | _ d ih=>
  intro i hd hm hi z7 t ht hr;obtain⟨_,ot,z2,z0⟩:=mem_ready.1 hr;have z3:t<ops.size:=(Array.getElem?_eq_some_iff.1 z2).1;by_cases zb:t=n
  ·have h1:=List.all_eq_true.1 hs i (List.mem_range.2 hi);simp only[Bool.or_eq_true,decide_eq_true_eq]at h1;rcases h1 with h1|h1
   ·omega
   ·obtain⟨j,hj,z5⟩:=List.any_eq_true.1 h1;simp only[Bool.and_eq_true,decide_eq_true_eq]at z5;obtain⟨oj,z6,e,he,hb,z1⟩:=Region.waitsFor_spec z5.2;have hjle:j≤n:=by have:=List.mem_range.1 hj;omega
    by_cases z8:j=n
    ·have:oj=ot:=Option.some.inj (z6.symm.trans (by rw[z8,← zb];exact z2));rw[this]at he;have h2:=z0 e he hb;rw[z1,getD_both z7]at h2
     cases h2
    ·cases hl:listed.getD j false with
     | true=>
      have h2:=z4.closed j oj z6 hl e he hb;rw[z1,getD_both z7]at h2
      cases h2
     | false=>
      have z9:j<listed.size:=by rw[z4.size];omega
      exact ih (n-j) (by omega) j rfl (by omega) (by omega) (getD_in z9 hl) t ht hr
  ·have h1:=List.all_eq_true.1 hc t (List.mem_range.2 z3);simp only[Bool.or_eq_true,decide_eq_true_eq]at h1;rcases h1 with h1|h1
   ·omega
   ·obtain⟨o',za,e,he,hb,z1⟩:=Region.waitsFor_spec h1;have:o'=ot:=Option.some.inj (za.symm.trans z2);rw[this]at he;have h2:=z0 e he hb;rw[z1,getD_both (z4.tail (t-1) (by omega) (by omega))]at h2
    cases h2
def qdO(P:Program)(md:Region.Mode)(ops:Array Oper)(C:World→Prop)(n:Nat)(L:Array Bool→Act→Prop):Nat→Array Bool→Act→Prop
 | 0,listed,a=>L listed a
 | f+1,listed,a=>Region.ready md ops listed≠[]∧∀ i ∈ Region.ready md ops listed,i<n∧qOp P ops C i (qdO P md ops C n L f (listed.setIfInBounds i true)) a
theorem qfN{n g:Nat}{L:Array Bool→Act→Prop}{Q':Exit→Act→World→Prop}(hL:∀ listed a w,C w→L listed a→wpAny P md ops Q' g listed a w):∀ (f:Nat) (listed:Array Bool) (a:Act) (w:World),C w→qdO P md ops C n L f listed a→wpAny P md ops Q' (f+g) listed a w
 | 0,listed,a,w,hw,h=>by rw[Nat.zero_add];exact hL _ _ _ hw h
 | f+1,listed,a,w,hw,h=>by
  rw[show f+1+g=(f+g)+1 by omega];exact⟨fun h0=>absurd h0 h.1,fun i hi=>wpOp_of_qOp hw (fun a' w' z0 h'=>qfN hL f _ a' w' z0 h') (h.2 i hi).2⟩
theorem mheadAny_first{m n i:Nat}{oi:Oper}{v:Value}{L:Array Bool→Act→Prop}(hi:ops[i]?=some oi)(z4:∀ (j:Nat) (o:Oper) cs b,ops[j]?=some o→o.op≠.select cs b)
  (hs:qds m md ops n=true) (hc:Region.chainB md ops n=true) (hn:n<ops.size) (zb:m≤i) (zc:i<n)
  (z2:∀ listed a,L listed a→∀ j ∈ Region.ready md ops listed,n≤j) :
  ∀ (f:Nat) (listed:Array Bool) (a:Act),HeadInv md ops n listed→
   (∀ j oj,ops[j]?=some oj→j≠i→listed.getD j true=false→(∀ e ∈ oj.after,Region.binds md e=true→e.on≠i)→oi.apart ops oj=true)→
   i ∈ Region.ready md ops listed→YieldsIn P ops C oi v a→
   qdO P md ops C n L f (listed.setIfInBounds i true) (a.put oi.dst v)→qdO P md ops C n L (f+1) listed a:=by
 intro f
 induction f with
 | zero=>
  intro listed a z7 _ hr hy H;have z6:=(mem_ready.1 hr).1;refine⟨fun h=>(by rw[h]at hr;cases hr),fun j hj=>?_⟩;have z5:j<n:=Nat.lt_of_not_le fun h=>absurd hj (tail_stays hs hc hn z7 _ i rfl zb zc z6 j h);refine⟨z5,?_⟩;by_cases z1:j=i
  ·subst z1;exact hy.qOp hi H
  ·have:=z2 _ _ H j (ready_mono hj z1);omega
 | succ f ih=>
  intro listed a z7 z0 hr hy H;have z6:=(mem_ready.1 hr).1;refine⟨fun h=>(by rw[h]at hr;cases hr),fun j hj=>?_⟩;have z5:j<n:=Nat.lt_of_not_le fun h=>absurd hj (tail_stays hs hc hn z7 _ i rfl zb zc z6 j h);refine⟨z5,?_⟩;by_cases z1:j=i
  ·subst z1;exact hy.qOp hi H
  ·have h1:=(H.2 j (ready_mono hj z1)).2;obtain⟨z3,oj,za,z8⟩:=mem_ready.1 hj;have z9:∀ e ∈ oj.after,Region.binds md e=true→e.on≠i:=fun e he hb ze=>by
    have h1:=z8 e he hb;rw[ze,getD_both z6]at h1
    cases h1
   have h2:=qOp_put za (z0 j oj za z1 z3 z9) (fun cs b=>z4 i oi cs b hi) (fun cs b=>z4 j oj cs b za) hy h1;refine qOp_mono (fun a' h3=>ih (listed.setIfInBounds j true) a' (z7.set hj z5) (fun k ok hk zf hu zg=>z0 k ok hk zf ?_ zg) (ready_mono hr (Ne.symm z1)) h3.1 ?_) h2
   ·by_cases zd:j=k
    ·subst zd;exact z3
    ·rwa[getD_set_ne true zd]at hu
   ·rw[Array.setIfInBounds_comm _ _ z1];exact h3.2
theorem mheadAny_lex{m n g:Nat}{Lq:Act→Prop}(z1:Region.noSelect ops=true)(hs:qds m md ops n=true)(hc:Region.chainB md ops n=true)(hn:n<ops.size):∀ (l:List Oper) (k:Nat) (listed:Array Bool) (a:Act),m≤k→(∀ j,j<l.length→l[j]?=ops[k+j]?)→k+l.length=n→HeadInv md ops n listed→
  Region.lexHead md ops g l.length k listed=true→wpQuiet P ops C Lq l a→
  qdO P md ops C n (fun z0 a'=>Region.seqB md ops g n z0=true∧Lq a') l.length listed a
 | [],k,listed,a,_,_,hk,_,hB,h=>by
  obtain rfl:k=n:=by simpa using hk
  exact⟨by simpa[Region.lexHead]using hB,h⟩
 | o :: l,k,listed,a,hmk,hl,hk,inv,hB,h=>by
  have h0:ops[k]?=some o:=by simpa using (hl 0 (by simp)).symm
  simp only[List.length_cons,Region.lexHead,Bool.and_eq_true]at hB;obtain⟨⟨hr,hf⟩,z4⟩:=hB;have z2:k<n:=by simp only[List.length_cons]at hk;omega
  have z3:k ∈ Region.ready md ops listed:=by simpa using hr
  have z5:qOp P ops C k (wpQuiet P ops C Lq l) a:=by unfold qOp;simp only[h0];exact h
  obtain⟨v,hy,hK⟩:=yieldsIn_of_qOp h0 z5;exact mheadAny_first h0 (Region.noSelect_spec z1) hs hc hn hmk z2 (fun z0 a' hL=>seqB_ready hL.1) l.length listed a inv (Region.free_spec h0 hf) z3 hy
   (mheadAny_lex z1 hs hc hn l (k+1) _ _ (by omega) (fun j hj=>by have:=hl (j+1) (by simp;omega);simpa[Nat.add_assoc,Nat.add_comm 1 j]using this) (by simp only[List.length_cons]at hk;omega) (inv.set z3 z2) z4 hK)
def lexMoveB(ops:Array Oper)(n:Nat):Bool:=
 Region.noSelect ops&&decide (n<ops.size)&&decide (0<n)&&qds 1 .any ops n&&Region.chainB .any ops n&&Region.free .any ops (Array.replicate ops.size false) 0&&(Region.ready .any ops (Array.replicate ops.size false)).contains 0 &&
  Region.lexHead .any ops (ops.size-n) (n-1) 1 ((Array.replicate ops.size false).setIfInBounds 0 true)
theorem wp_region_move_tail{id:Nat}{Q:Exit→Act→World→Prop}{a:Act}{w:World}{o:Oper}{l:List Oper}(n:Nat)(x:Operand)(ho:o.op=.move x)(hg:o.guard=none)(ha:o.after=#[])(hm:P.follows .mixedOrders=true)(hB:lexMoveB (o :: l).toArray n=true)(hC:C { w with drawn:=w.drawn+1 })
  (hQ:∀ c a w,Q (.panic c) (a.put o.dst (Act.eval a x)) w→Q (.panic c) a w) (z7:∀ c (a:Act) v w,Q (.panic c) (a.put o.dst v) w→Q (.panic c) a w)
  (h:wpQuiet P (o :: l).toArray C (fun a'=>∀ w',C w'→wpList P (o :: l).toArray Q (l.drop (n-1)) a' w') (l.take (n-1)) (a.put o.dst (a.eval x))):(Code.region id (o :: l).toArray true).wp P Q a w:=by
 simp only[lexMoveB,Bool.and_eq_true,decide_eq_true_eq]at hB;obtain⟨⟨⟨⟨⟨⟨⟨z0,hn⟩,hn0⟩,hs⟩,hc⟩,hf⟩,hr⟩,z3⟩:=hB;have hn':n<l.length+1:=by simpa using hn
 have z2:(l.take (n-1)).length=n-1:=by simp;omega
 have z5:(l.drop (n-1)).length=(o :: l).toArray.size-n:=by simp;omega
 have h0:(o :: l).toArray[0]?=some o:=by simp
 have z4:HeadInv .any (o :: l).toArray n ((Array.replicate (o :: l).toArray.size false).setIfInBounds 0 true):=by
  refine⟨by simp,fun j oj hj hl e he hb=>?_,fun t ht z9=>?_⟩
  ·by_cases z6:0=j
   ·subst z6;have:oj=o:=Option.some.inj (hj.symm.trans h0);subst this;rw[ha]at he;simp at he
   ·rw[getD_set_ne false z6,getD_replicate_false]at hl;cases hl
  ·rw[getD_set_ne true (by omega)];exact getD_in (by simpa using z9) (getD_replicate_false _ _)
 have H:=mheadAny_lex (m:=1) (md:=.any) (g:=(o :: l).toArray.size-n) z0 hs hc hn (l.take (n-1)) 1 _ (a.put o.dst (a.eval x)) (jlr _) (fun j hj=>by
  have z8:j<n-1:=by rw[z2]at hj;exact hj
  rw[List.getElem?_take,if_pos z8];simp[Nat.add_comm 1 j]) (by rw[z2];omega) z4 (by rw[z2];exact z3) h
 refine wp_region_any hm ?_;have z1:(o :: l).toArray.size=(n-1+((o :: l).toArray.size-n))+1:=by omega
 rw[z1];refine wpAny_take h0 z0 ?_ ?_ (fun c a w hh=>z7 c a _ w hh) (v:=a.eval x) (.inl ⟨by simp[Region.wanted,hg],fun w=>BigFrame.run_move x ho w⟩) ?_
 ·rw[← z1];exact hf
 ·rw[← z1];exact hr
 ·have:=qfN (Q':=Q) (g:=(o :: l).toArray.size-n) (fun listed a' w' za hL=>by
   have:=wpAny_of_seq (md:=.any) (Q':=Q) (l.drop (n-1)) n listed a' w' (fun j=>by
    rw[List.getElem?_drop];have:n+j=(n-1+j)+1:=by omega
    rw[this];simp) (by rw[z5];exact hL.1) (hL.2 w' za)
   rwa[z5]at this) _ _ _ _ hC H
  rw[z2]at this;rw[← z1];exact this
end
theorem qbx{P:Program}{id:Nat}{Q:Exit→Act→World→Prop}{a:Act}{w:World}{o:Oper}{l:List Oper}(n:Nat)(x:Operand)(ho:o.op=.move x)(hg:o.guard=none)(ha:o.after=#[])(hm:P.follows .mixedOrders=true)(hB:lexMoveB (o :: l).toArray n=true)
  (hQ:∀ c (a:Act) v w,Q (.panic c) (a.put o.dst v) w→Q (.panic c) a w)
  (h:wpQuiet P (o :: l).toArray (fun w'=>∃ p:Regrown,w'=grow (redrawn w p.d) p.os) (fun a'=>∀ w',Below w.heap.size w w'→wpList P (o :: l).toArray Q (l.drop (n-1)) a' w') (l.take (n-1)) (a.put o.dst (a.eval x))):(Code.region id (o :: l).toArray true).wp P Q a w:=by
 refine wp_region_move_tail (C:=fun w'=>∃ p:Regrown,w'=grow (redrawn w p.d) p.os) n x ho hg ha hm hB ⟨⟨w.drawn+1,#[]⟩,by rw[grow_empty];rfl⟩ (fun c a w=>hQ c a _ w) hQ ?_;have e:(fun a'=>∀ w',Below w.heap.size w w'→wpList P (o :: l).toArray Q (l.drop (n-1)) a' w')=(fun a'=>∀ w',(∃ p:Regrown,w'=grow (redrawn w p.d) p.os)→wpList P (o :: l).toArray Q (l.drop (n-1)) a' w'):=by
  funext a';refine propext ⟨fun h w' ⟨p,hp⟩=>h w' (hp▸below_regrown w p.d p.os),fun h w' hb=>h w' (regrown_of_below hb)⟩
 rw[← e];exact h
end
section
open Go.RowKit Go.Sort
theorem qca:(Tryz.prog.info? 5).map (fun i=>(i.zero,i.size,i.bytes))=some (some (.int .u8 0),1,1):=by kernel_rfl
def qa0(l:List UInt8):Array Value:=(Lib.byteCells l).toArray
theorem bcells_size(l:List UInt8):(qa0 l).size=l.length:=by simp[qa0,Lib.byteCells]
theorem qfB(l:List UInt8)(j:Nat)(x:UInt8)(h:l[j]?=some x):(qa0 l)[j]?=some (.int .u8 x.toNat):=by simp[qa0,Lib.byteCells,h]
theorem qew(l:List UInt8)(j:Nat)(x:UInt8):(qa0 l).setIfInBounds j (.int .u8 x.toNat)=qa0 (l.set j x):=by simp[qa0,Lib.byteCells,List.map_set]
theorem qgb(n:Nat):madeCells (Value.int .u8 0).cells n=qa0 (List.replicate n 0):=by
 apply Array.ext_getElem?;intro i;by_cases h:i<n
 ·simp[madeCells,qa0,Lib.byteCells,Value.cells,h,Nat.mod_one]
 ·simp[madeCells,qa0,Lib.byteCells,Value.cells,h]
theorem pushes(ns:List UInt8):∀ s:ByteArray,(ns.map (fun b=>(b.toNat:Int))).foldl (fun r n=>r.push (UInt8.ofNat n.toNat)) s=⟨s.data++ns.toArray⟩:=by
 induction ns with
 | nil=>intro s;simp
 | cons a r ih=>
  intro s;rw[List.map_cons,List.foldl_cons,ih];have:UInt8.ofNat ((a.toNat:Int)).toNat=a:=by simp
  rw[this];apply ByteArray.ext;simp[ByteArray.push]
theorem loads_bytes(w:World)(g:Nat)(l:List UInt8)(h:∀ j x,l[j]?=some x→w.cell? ⟨g,j,none⟩=some (.int .u8 x.toNat)):(loadCells ⟨g,0,none⟩ l.length).run Tryz.prog w=.ok (qa0 l) w:=by
 have:=run_loadCells_list (P:=Tryz.prog) w ⟨g,0,none⟩ (Lib.byteCells l) (fun j v hv=>by
  have z0:(⟨g,0,none⟩:Addr).add j=⟨g,j,none⟩:=by unfold Addr.add;split<;>simp_all
  rw[z0];simp only[Lib.byteCells,List.getElem?_map,Option.map_eq_some_iff]at hv;obtain⟨x,hx,rfl⟩:=hv;exact h j x hx)
 rwa[Lib.byteCells_length]at this
theorem qbf(w:World)(g z0:Nat)(l:List UInt8)(h:∀ j x,l[j]?=some x→w.cell? ⟨g,j,none⟩=some (.int .u8 x.toNat)):(convert 41 9 (.slice (some ⟨g,0,none⟩) l.length z0)).run Tryz.prog w=.ok (.string ⟨l.toArray⟩) w:=by
 rw[run_convert_bytes_string w 41 9 5 _ _ _ underlying41 underlying5 underlying9,
  run_bytesToString w ⟨g,0,none⟩ l.length z0 (l.map fun b=>(b.toNat:Int)) (by rw[loads_bytes w g l h];simp[qa0,Lib.byteCells]),pushes]
 simp
theorem qb0{w:World}{g:Nat}{t:TypeId}{fr:Nat×Nat}{l:List UInt8}(h:w.heap[g]?=some (.cells (qa0 l) t fr)):∀ j x,l[j]?=some x→w.cell? ⟨g,j,none⟩=some (.int .u8 x.toNat):=fun j x hx=>by
 rw[jco w g j _ t fr h];exact qfB l j x hx
def be:Nat→Nat→List UInt8
 | 0,_=>[]
 | j+1,x=>UInt8.ofNat (x/256^j)::be j x
theorem qbL(j x:Nat):(be j x).length=j:=by induction j with|zero=>rfl|succ j ih=>simp[be,ih]
theorem be_lead(x j:Nat)(h:x/256^j=0)(d:Nat):be (j+d) x=List.replicate d 0++be j x:=by
 induction d with
 | zero=>simp
 | succ d ih=>
  have e:x/256^(j+d)=0:=by
   rw[Nat.pow_add,← Nat.div_div_eq_div_mul,h,Nat.zero_div]
  rw[← Nat.add_assoc,be,ih,e,List.replicate_succ]
  rfl
structure But (b:Nat) (w w':World):Prop where
 os:w'.os=w.os
 tape:w'.tape=w.tape
 output:w'.output=w.output
 size:w.heap.size≤w'.heap.size
 block:∀ k,k<w.heap.size→k≠b→w'.heap[k]?=w.heap[k]?
theorem But.refl(b:Nat)(w:World):But b w w:=⟨rfl,rfl,rfl,jlr _,fun _ _ _=>rfl⟩
theorem But.trans{b:Nat}{u v w:World}(h:But b u v)(k:But b v w):But b u w:=
 ⟨k.os.trans h.os,k.tape.trans h.tape,k.output.trans h.output,jlt h.size k.size,fun i hi hb=>(k.block i (jl3 hi h.size) hb).trans (h.block i hi hb)⟩
theorem But.of_below{b:Nat}{w w':World}(h:Below w.heap.size w w'):But b w w':=⟨h.os,h.tape,h.output,h.size,fun k hk _=>h.block k hk⟩
theorem But.setCell(b:Nat)(w:World)(a:Addr)(v:Value)(h:a.block=b):But b w (w.setCell a v):=
 ⟨rfl,rfl,rfl,by simp[World.setCell],fun k _ hb=>jso _ _ _ _ (fun e=>hb (e.trans h))⟩
theorem But.setCells(b:Nat):∀ (vs:List Value) (o:Nat) (w:World),But b w (w.setCells b o vs)
 | [],_,w=>But.refl b w
 | v :: r,o,w=>(But.setCell b w ⟨b,o,none⟩ v rfl).trans (But.setCells b r (o+1) _)
theorem But.below{b B:Nat}{w w':World}(h:But b w w')(hb:B≤b)(hB:B≤w.heap.size):Below B w w':=
 ⟨h.os,h.tape,h.output,h.size,fun k hk=>h.block k (by omega) (by omega)⟩
def qc9(v:Int)(s:Nat):UInt8:=UInt8.ofNat (v/2^s%256).toNat
theorem qde(v:Int)(s:Nat):((qc9 v s).toNat:Int)=v/2^s%256:=by
 have h0:0≤v/2^s%256:=Int.emod_nonneg _ (by decide);have h1:v/2^s%256<256:=Int.emod_lt_of_pos _ (by decide);simp[qc9];omega
end
section
open Go.RowKit
structure OwnS (W:World) (base:Nat) (g z0:Nat) (xs:List Value):Prop where
 base:base≤g
 le:xs.length≤z0
 cells:∀ j u,xs[j]?=some u→W.cell? ⟨g,j,none⟩=some u
 room:∀ j,j<z0→(W.cell? ⟨g,j,none⟩).isSome=true∧W.frozen? ⟨g,j,none⟩=false
def Own(W:World)(base:Nat)(v:Value)(xs:List Value):Prop:=
 (v=.slice none 0 0∧xs=[])∨∃ g z0,v=.slice (some ⟨g,0,none⟩) xs.length z0∧OwnS W base g z0 xs
theorem Own.nil(W:World)(base:Nat):Own W base (.slice none 0 0) []:=.inl ⟨rfl,rfl⟩
theorem OwnS.keep{W W':World}{base g z0:Nat}{xs:List Value}(h:OwnS W base g z0 xs)(e:W'.heap[g]?=W.heap[g]?):OwnS W' base g z0 xs:=
 ⟨h.base,h.le,fun j u hj=>(World.cell?_of_block (a:=⟨g,j,none⟩) e).trans (h.cells j u hj),fun j hj=>by
  rw[World.cell?_of_block (a:=⟨g,j,none⟩) e,World.frozen?_of_block (a:=⟨g,j,none⟩) e];exact h.room j hj⟩
theorem OwnS.lt{W:World}{base g z0:Nat}{xs:List Value}(h:OwnS W base g z0 xs)(hp:0<z0):g<W.heap.size:=by
 obtain⟨u,hu⟩:=Option.isSome_iff_exists.1 (h.room 0 hp).1;exact jbc hu
theorem Own.keep{W W':World}{base:Nat}{v:Value}{xs:List Value}(h:Own W base v xs)(e:∀ k,v.ownBlock=some k→W'.heap[k]?=W.heap[k]?):Own W' base v xs:=by
 rcases h with h|⟨g,z0,rfl,h⟩
 ·exact .inl h
 ·exact .inr ⟨g,z0,rfl,h.keep (e g rfl)⟩
theorem Own.below{W W':World}{base:Nat}{v:Value}{xs:List Value}(h:Own W base v xs)(hb:Below W.heap.size W W'):Own W' base v xs:=by
 rcases h with h|⟨g,z1,rfl,h⟩
 ·exact .inl h
 ·refine .inr ⟨g,z1,rfl,h.base,h.le,fun j u hj=>?_,fun j hj=>?_⟩
  ·have:=h.cells j u hj;exact (hb.cell (jbc this)).trans this
  ·obtain⟨u,hu⟩:=Option.isSome_iff_exists.1 (h.room j hj).1;have z0:=jbc hu;rw[hb.cell (p:=⟨g,j,none⟩) z0,hb.frozen (p:=⟨g,j,none⟩) z0];exact h.room j hj
theorem Own.alloc{W:World}{base:Nat}{v:Value}{xs:List Value}(h:Own W base v xs)(o:Obj):Own (W.alloc o) base v xs:=h.below (qaf W o)
theorem Own.some{W:World}{base:Nat}{v:Value}{xs:List Value}(h:Own W base v xs)(hp:0<xs.length):∃ g z0,v=.slice (.some ⟨g,0,none⟩) xs.length z0∧OwnS W base g z0 xs∧g<W.heap.size:=by
 rcases h with⟨_,rfl⟩|⟨g,z0,rfl,h⟩
 ·simp at hp
 ·exact⟨g,z0,rfl,h,h.lt (jl3 hp h.le)⟩
theorem grown_any{w w':World}(h:w.grownBy w' none)(row:Option Nat):w.grownBy w' row:=⟨h.os,h.tape,h.output,h.size,fun k hk _=>h.block k hk (by simp)⟩
theorem qdq{W:World}{base:Nat}{e:TypeId}{v:Value}{n:Nat}{xs:List Value}(h:W.ownsRow base e 1 v n xs):Own W base v xs∧xs.length=n:=by
 obtain⟨hl,⟨rfl,rfl⟩|⟨g,z1,z0,rfl,hb,hg,h1,h2,h3,h4⟩⟩:=h
 ·exact⟨.inl ⟨rfl,List.eq_nil_of_length_eq_zero (by simpa using hl)⟩,by simpa using hl⟩
 ·have hx:xs.length=n:=by simpa using hl
  refine⟨.inr ⟨g,z1,by rw[hx],hb,by omega,fun j u hj=>?_,fun j hj=>?_⟩,hx⟩
  ·rw[jco W g j z0 e _ hg];rw[← h4]at hj;rw[List.getElem?_take]at hj;split at hj
   ·simpa using hj
   ·cases hj
  ·rw[jco W g j z0 e _ hg];refine⟨?_,jfr W g j z0 e hg⟩;have:j<z0.size:=by omega
   simp[this]
theorem Own.shape{W:World}{base:Nat}{v:Value}{xs:List Value}(h:Own W base v xs):∃ ao z0,v=.slice ao xs.length z0:=by
 rcases h with⟨rfl,rfl⟩|⟨g,z0,rfl,_⟩
 ·exact⟨none,0,rfl⟩
 ·exact⟨_,z0,rfl⟩
theorem grown_trans{u v w:World}{row:Option Nat}(h:u.grownBy v row)(k:v.grownBy w row):u.grownBy w row:=
 ⟨k.os.trans h.os,k.tape.trans h.tape,k.output.trans h.output,jlt h.size k.size,fun i hi z0=>(k.block i (jl3 hi h.size) z0).trans (h.block i hi z0)⟩
theorem qgw(g:Nat):∀ (vs:List Value) (o:Nat) (w:World),w.grownBy (w.setCells g o vs) (Option.some g)
 | [],_,w=>World.grownBy.refl w _
 | v :: r,o,w=>by
  have h:w.grownBy (w.setCell ⟨g,o,none⟩ v) (Option.some g):=⟨rfl,rfl,rfl,by simp[World.setCell],fun k _ z0=>jso w ⟨g,o,none⟩ k v (fun e=>z0 (congrArg Option.some e))⟩;exact grown_trans h (qgw g r (o+1) (w.setCell ⟨g,o,none⟩ v))
theorem wpList_append_Own{w:World}{ops:Array Oper}{rest:List Oper}{o:Oper}{a:Act}{Q:Exit→Act→World→Prop}(hg:o.guard=none)(s x:Operand)(t:TypeId)
  (z9:o.op=Op.call { callee:=Callee.builtin Builtin.append,args:=#[s,x],argTypes:=#[t,t] })
  (base:Nat) (e:TypeId) (i:TypeInfo) (z:Value) (bytes:Nat) (h1:Tryz.prog.underlying t=Option.some (.slice e)) (h2:Tryz.prog.info? e=Option.some i) (h3:i.zero=Option.some z) (h4:i.size=1) (h5:i.bytes=bytes) (h6:z.cells.size=1)
  (v:Value) (xs:List Value) (hs:a.eval s=v) (z1:Own w base v xs)
  (ad:Addr) (m c:Nat) (z0:List Value) (hx:a.eval x=.slice (Option.some ad) m c) (hn:z0.length=m) (hc:∀ j u,z0[j]?=Option.some u→w.cell? (ad.add j)=Option.some u) (z7:∀ u ∈ z0,u.oneCell'=true)
  (b1:xs.length+m≤maxLen) (b2:(xs.length+m)*bytes≤140737488355328) (z4:base≤w.heap.size)
  (hK:∀ v' w',Own w' base v' (xs++z0)→w.grownBy w' v.ownBlock→wpList Tryz.prog ops Q rest (a.put o.dst v') w') :
  wpList Tryz.prog ops Q (o :: rest) a w:=by
 rcases z1 with⟨rfl,rfl⟩|⟨g,z6,rfl,z1⟩
 ·refine wpList_append_own w hg s x t z9 base e i z 1 bytes h1 h2 h3 h4 h5 h6 (by omega) (.slice none 0 0) 0 [] hs (World.ownsRow_nil _ _ _ _) ad m c z0 hx (by omega) hc z7 (by simpa using b1) (by simpa using b2) z4 ?_;intro v' w' z3 z2 _;exact hK v' w' (qdq z3).1 z2
 ·refine wpList_append_arg w hg s x t z9 e i z 1 bytes h1 h2 h3 h4 h5 h6 (by omega) g 0 xs.length z6 xs hs (by omega) (fun j u hj=>by simpa using z1.cells j u hj) ad m c z0 hx (by omega) hc z7 ?_ b1 b2 ?_ ?_
  ·intro hr j hj;have:=z1.room (xs.length+j) (by omega);simpa using this
  ·intro hr;refine hK _ _ (.inr ⟨g,z6,by rw[List.length_append,hn],z1.base,by rw[List.length_append];omega,fun j u hj=>?_,fun j hj=>?_⟩) ?_
   ·simp only[Nat.zero_add,Nat.mul_one];by_cases z8:j<xs.length
    ·rw[World.cell?_setCells_out _ _ _ _ _ (fun _ _=>Or.inl z8)];rw[List.getElem?_append_left z8]at hj;exact z1.cells j u hj
    ·rw[List.getElem?_append_right (by omega)]at hj;have za:j-xs.length<z0.length:=(List.getElem?_eq_some_iff.1 hj).1;have:=World.cell?_setCells_in g z0 xs.length w (fun q hq=>(z1.room (xs.length+q) (by omega)).1) (j-xs.length) za;rw[show xs.length+(j-xs.length)=j by omega]at this;rw[this];have:=(List.getElem?_eq_some_iff.1 hj).2;rw[this]
   ·simp only[Nat.zero_add,Nat.mul_one];refine⟨?_,by rw[World.frozen?_setCells];exact (z1.room j hj).2⟩;by_cases hin:xs.length≤j∧j<xs.length+z0.length
    ·have:=World.cell?_setCells_in g z0 xs.length w (fun q hq=>(z1.room (xs.length+q) (by omega)).1) (j-xs.length) (by omega);rw[show xs.length+(j-xs.length)=j by omega]at this;rw[this];rfl
    ·rw[World.cell?_setCells_out _ _ _ _ _ (fun _ _=>by simp;omega)];exact (z1.room j hj).1
   ·exact qgw g z0 _ w
  ·intro hr v' w' z3 z2;refine hK v' w' ?_ (grown_any z2 _);have:=qdq z3;rcases this.1 with h|⟨g',z5,hv,hh⟩
   ·exact .inl h
   ·exact .inr ⟨g',z5,hv,jlt z4 hh.base,hh.le,hh.cells,hh.room⟩
theorem qaB{w:World}{ops:Array Oper}{rest:List Oper}{o:Oper}{a:Act}{Q:Exit→Act→World→Prop}(hg:o.guard=none)(s x:Operand)(t:TypeId)
  (za:o.op=Op.call { callee:=Callee.builtin Builtin.append,args:=#[s,x],argTypes:=#[t,t] })
  (base:Nat) (e:TypeId) (i:TypeInfo) (z:Value) (bytes:Nat) (h1:Tryz.prog.underlying t=Option.some (.slice e)) (h2:Tryz.prog.info? e=Option.some i) (h3:i.zero=Option.some z) (h4:i.size=1) (h5:i.bytes=bytes) (h6:z.cells.size=1)
  (ao:Option Addr) (n z6:Nat) (xs:List Value) (hs:a.eval s=.slice ao n z6) (z8:Own w base (.slice ao n z6) xs) (z7:xs.length=n)
  (ad:Addr) (m c:Nat) (z0:List Value) (hx:a.eval x=.slice (Option.some ad) m c) (hn:z0.length=m) (hc:∀ j u,z0[j]?=Option.some u→w.cell? (ad.add j)=Option.some u) (z9:∀ u ∈ z0,u.oneCell'=true)
  (b2:(n+m)*bytes≤140737488355328) (b1:n+m≤140737488355328) (z3:base≤w.heap.size)
  (hK:∀ z5 z1 w',Own w' base (.slice z5 (n+m) z1) (xs++z0)→w.grownBy w' (Value.ownBlock (.slice ao n z6))→wpList Tryz.prog ops Q rest (a.put o.dst (.slice z5 (n+m) z1)) w') :
  wpList Tryz.prog ops Q (o :: rest) a w:=by
 subst z7;refine wpList_append_Own hg s x t za base e i z bytes h1 h2 h3 h4 h5 h6 _ xs hs z8 ad m c z0 hx hn hc z9 (by unfold maxLen;omega) b2 z3 ?_;intro v' w' z2 z4;obtain⟨z5,z1,hv⟩:=z2.shape;rw[List.length_append,hn]at hv;subst hv;exact hK z5 z1 w' z2 z4
theorem qaV{B:Nat}{u w w':World}{ao:Option Addr}{n z1:Nat}{xs:List Value}(hb:Below B u w)(hB:B≤w.heap.size)(z0:Own w B (.slice ao n z1) xs)(hg:w.grownBy w' (Value.ownBlock (.slice ao n z1))):Below B u w':=
 hb.grown hg hB fun k hk=>by
  rcases z0 with⟨h,_⟩|⟨g,c,h,hh⟩
  ·cases h;simp[Value.ownBlock]at hk
  ·cases h;simp[Value.ownBlock]at hk;have:=hh.base;omega
theorem qdk(s:ByteArray)(w:World):∃ ao z2,(convert 9 41 (.string s)).run Tryz.prog w=.ok (.slice ao s.size z2) (Lib.bytesWorld w 5 s)∧Own (Lib.bytesWorld w 5 s) w.heap.size (.slice ao s.size z2) (Lib.byteCells s.data.toList)∧Below w.heap.size w (Lib.bytesWorld w 5 s):=by
 have hl:(Lib.byteCells s.data.toList).length=s.size:=by rw[Lib.byteCells_length,← Lib.size_eq]
 have hge:=grownCap_ge w s.size 0 5;have hsz:(Lib.bytesCells w 5 s).size=grownCap w s.size 0 5:=by
  simp only[Lib.bytesCells,Array.size_append,Array.size_map,Array.size_replicate];have:s.data.size=s.size:=rfl;omega
 have z1:=Lib.bytesWorld_at_new w 5 s;refine⟨_,_,Lib.run_convert_string_bytes w 9 41 5 s underlying9 underlying41 underlying5,.inr ⟨w.heap.size,grownCap w s.size 0 5,by rw[hl],jlr _,by omega,?_,?_⟩,?_⟩
 ·intro j u hj;have z3:j<s.size:=by rw[← hl];exact (List.getElem?_eq_some_iff.1 hj).1
  rw[Lib.bytesWorld_cell w 5 s j z3];have z0:j<s.data.toList.length:=by rw[← Lib.size_eq];exact z3
  simp only[Lib.byteCells,List.getElem?_map,List.getElem?_eq_getElem z0,Option.map_some]at hj;rw[List.getD_eq_getElem?_getD,List.getElem?_eq_getElem z0];exact hj
 ·intro j hj;constructor
  ·rw[jco _ _ _ _ _ _ z1];have:j<(Lib.bytesCells w 5 s).size:=by omega
   simp[this]
  ·have:j<(Lib.bytesCells w 5 s).size:=by omega
   simp[World.frozen?,z1];omega
 ·exact⟨rfl,rfl,rfl,by rw[Lib.bytesWorld_size];omega,fun k hk=>Lib.bytesWorld_at_old w 5 s k hk⟩
theorem OwnS.put{W:World}{base g z1:Nat}{xs:List Value}(h:OwnS W base g z1 xs)(j:Nat)(hj:j<xs.length)(v:Value):OwnS (W.setCell ⟨g,j,none⟩ v) base g z1 (xs.set j v):=by
 refine⟨h.base,by rw[List.length_set];exact h.le,fun i u hu=>?_,fun i hi=>?_⟩
 ·by_cases z0:i=j
  ·subst z0;rw[List.getElem?_set_self hj]at hu
   cases hu
   exact World.cell?_setCell_same _ _ _ (h.cells i _ (List.getElem?_eq_getElem hj))
  ·rw[List.getElem?_set_ne (fun e=>z0 e.symm)]at hu;rw[World.cell?_setCell_other _ _ _ _ (by simp[z0])];exact h.cells i u hu
 ·obtain⟨h1,h2⟩:=h.room i hi;refine⟨?_,by rw[World.frozen?_setCell];exact h2⟩;by_cases z0:i=j
  ·subst z0;obtain⟨u,hu⟩:=Option.isSome_iff_exists.1 h1;rw[World.cell?_setCell_same _ _ _ hu];rfl
  ·rw[World.cell?_setCell_other _ _ _ _ (by simp[z0])];exact h1
end
section
open Go.RowKit Go.Sort
theorem qgD{e:TypeId}(hs:(Tryz.prog.info? e).map (·.size)=some 1)(w:World):(sizeOf e).run Tryz.prog w=.ok 1 w:=by
 cases hq:Tryz.prog.info? e with
 | none=>simp[hq]at hs
 | some i=>simp[hq]at hs;simp[sizeOf,typeInfo,hq,hs]
theorem arr_index{P:Program}(t e:TypeId)(n k:Nat)(cs:Array Value)(x:Value)(hu:P.underlying t=some (.array n e))(hs:(P.info? e).map (·.size)=some 1)(ha:∀ w,(isAgg e).run P w=.ok false w)(hk:k<n)(hx:cs[k]?=some x)(w:World):(Instr.index t (.agg cs) (.int .i64 (k:Int))).run P w=.ok x w:=by
 have hn:(0:Int)≤(k:Int)∧(k:Int)<(n:Int):=by omega
 have z0:∀ w,(sizeOf e).run P w=.ok 1 w:=fun w=>by
  cases hq:P.info? e with
  | none=>simp[hq]at hs
  | some i=>simp[hq]at hs;simp[sizeOf,typeInfo,hq,hs]
 simp[Instr.index,run_underlying hu,asIntOf,hn,go_sem,part,z0,ha,hx];intro h;omega
theorem qdg(t:TypeId)(n a:Nat)(ht:Tryz.prog.underlying t=some (.array (Tryz.prog.arrayLen t) (Tryz.prog.elem t)))(hn:Tryz.prog.arrayLen t=n)(hs:(Tryz.prog.info? (Tryz.prog.elem t)).map (·.size)=some 1)(hp:0<n)(w:World):(Instr.sliceAt t (.pointer (some ⟨a,0,none⟩)) none none none).run Tryz.prog w=.ok (.slice (some ⟨a,0,none⟩) n n) w:=by
 rw[run_sliceAt_array_all w t ⟨a,0,none⟩ ht,qgD hs,hn];simp only[Result.andThen_ok,slicedAt,Nat.sub_zero];rw[if_neg (by omega),Addr.add_lit]
theorem qbE{P:Program}{w:World}(ty:TypeId)(g:Nat)(t:TypeId)(cs:Array Value)(fr:Nat×Nat)(d:TypeDesc)(hg:w.heap[g]?=some (.cells cs t fr))
  (hu:P.underlying ty=some d) (hd:(match d with|.struct _|.array _ _=>true|_=>false)=true) (hi:(P.info? ty).map (·.size)=some cs.size) (n:Nat) (os:Array Obj) :
  (Instr.loadAt ty (.pointer (some ⟨g,0,none⟩))).run P (grow (redrawn w n) os)=.ok (.agg cs) (grow (redrawn w n) os):=by
 have z0:(grow (redrawn w n) os).heap[g]?=some (.cells cs t fr):=((below_regrown w n os).block g (qac hg)).trans hg;simp only[Instr.loadAt,Instr.sureAddr,Sem.run_bind,Sem.run_pure,Result.andThen_ok,run_loadVar_row _ g t ty cs fr d z0 hu hd hi]
theorem qbK{P:Program}{ops:Array Oper}{w:World}{Q:Act→Prop}{a:Act}{o:Oper}{rest:List Oper}(hw:Region.wanted o (yielded ops a.tmps)=true)(ty:TypeId)(x:Operand)(ho:o.op=.load ty x)
  (p:Addr) (hx:a.eval x=.pointer (some p)) (cs:Array Value) (hl:∀ n os,(Instr.loadAt ty (.pointer (some p))).run P (grow (redrawn w n) os)=.ok (.agg cs) (grow (redrawn w n) os))
  (h:wpQuiet P ops (fun w'=>∃ p:Regrown,w'=grow (redrawn w p.d) p.os) Q rest (a.put o.dst (.agg cs))):wpQuiet P ops (fun w'=>∃ p:Regrown,w'=grow (redrawn w p.d) p.os) Q (o :: rest) a:=by
 refine BigFrame.wpQuiet_want hw fun K hK=>⟨.agg cs,fun w' z0=>?_,hK _ h⟩;obtain⟨p,rfl⟩:=z0;unfold Oper.quietAt execOp;simp only[ho,hx,Sem.run_bind,Result.andThen_ok,hl p.d p.os];exact⟨rfl,rfl⟩
theorem bcell_at{W:World}{b:Nat}{l:List UInt8}{T:TypeId}{fr:Nat×Nat}(h:W.heap[b]?=some (.cells (qa0 l) T fr))(j:Nat)(hj:j<l.length):W.cell? ⟨b,j,none⟩=some (.int .u8 ((l.getD j 0).toNat:Int)):=by
 rw[jco W _ _ _ _ _ h];exact qfB l j _ (by rw[List.getD_eq_getElem?_getD,List.getElem?_eq_getElem hj];rfl)
theorem bheap_set{W:World}{b:Nat}{l:List UInt8}{T:TypeId}(h:W.heap[b]?=some (.cells (qa0 l) T))(j:Nat)(x:UInt8):(W.setCell ⟨b,j,none⟩ (.int .u8 (x.toNat:Int))).heap[b]?=some (.cells (qa0 (l.set j x)) T):=by rw[← qew];exact Go.heap_setCell_same _ _ _ _ _ _ h
structure HeadSpec where
 al:Option Obj
 v:Value
 rd:List (Nat×Value)
def HeadSpec.val(v:Value)(rd:List (Nat×Value)):HeadSpec:=⟨none,v,rd⟩
def HeadSpec.fresh(ob:Obj):HeadSpec:=⟨some ob,undef,[]⟩
def qaa(P:Program)(w:World)(v:Value):Result Next→Prop
 | .ok (.value u) w'=>w'=w∧u=v
 | .ok (.enter f args) w'=>w'=w∧Calls P f args w (fun e z0=>e=.returned v∧Below w.heap.size w z0)
 | _=>False
theorem wp_of_sQuiet{P:Program}{o:Oper}{a:Act}{w:World}{v:Value}{K:Act→World→Prop}{Q:Exit→Act→World→Prop}
  (h:qaa P w v ((execOp a.eval o).run P w)) (hK:∀ w',Below w.heap.size w w'→K (a.put o.dst v) w'):o.wp P a w K Q:=by
 unfold Oper.wp;generalize (execOp a.eval o).run P w=r at *
 cases r with
 | ok n w'=>
  cases n<;>simp only[qaa]at h<;>simp only[Oper.upon]
  case value u=>obtain⟨rfl,rfl⟩:=h;exact hK _ (Below.refl _ _)
  case enter f args=>
   obtain⟨rfl,hc⟩:=h;exact hc.mono fun e w'' ⟨he,z0⟩=>by subst he;exact hK _ z0
 | halt x w'=>simp only[qaa]at h
section
variable {P : Program} {ops : Array Oper}
def qbi(ops:Array Oper)(i:Nat):Option Tmp:=(ops[i]?).bind (·.dst)
def qe0(ops:Array Oper)(n m i:Nat):Bool:=
 match ops[i]? with
 | some o=>o.guard.isNone&&o.after.all (fun e=>!Region.binds .any e || decide (e.on<i))&&(match o.dst with
  | some d=>decide (d<m)&&(List.range n).all fun j=>j==i || qbi ops j != some d
  | none=>false)
 | none=>false
def qdi(ops:Array Oper)(n i:Nat)(z0:List Bool)(rd:List Nat):Bool:=rd.all fun k=>(List.range n).all fun j=>qbi ops j != some k || (Region.waitsFor .any ops i j&&!z0.getD j true)
def freshB(ops:Array Oper)(n m:Nat)(z1:List Bool)(z0:List (List Nat)):Bool:=
 decide (n<ops.size)&&Region.sinkB .any ops n&&Region.chainB .any ops n&&(List.range n).all (qe0 ops n m)&&(List.range n).all (fun i=>qdi ops n i z1 (z0.getD i []))&&decide (z0.length=n) &&
 Region.seqB .any ops (ops.size-n) n (Array.replicate n true++Array.replicate (ops.size-n) false)
def qcs(listed:Array Bool)(n:Nat):Nat:=((List.range n).filter fun i=>!listed.getD i false).length
theorem qcX(listed:Array Bool)(i:Nat)(h:i<listed.size):(listed.setIfInBounds i true).getD i false=true:=by simp[getD_eq_getD_getElem?,h]
theorem qaX(listed:Array Bool)(i j:Nat)(h:i≠j)(b:Bool):(listed.setIfInBounds i true).getD j b=listed.getD j b:=by simp[getD_eq_getD_getElem?,Array.getElem?_setIfInBounds,h]
theorem toCome_set(listed:Array Bool)(n i:Nat)(hi:i<n)(hs:i<listed.size)(hu:listed.getD i false=false):qcs listed n=qcs (listed.setIfInBounds i true) n+1:=by
 induction n with
 | zero=>omega
 | succ n ih=>
  unfold qcs at *;rw[List.range_succ,List.filter_append,List.filter_append,List.length_append,List.length_append];by_cases h:i=n
  ·subst h;have e:(List.range i).filter (fun j=>!(listed.setIfInBounds i true).getD j false)=(List.range i).filter (fun j=>!listed.getD j false):=by
    apply List.filter_congr;intro j hj;have:=List.mem_range.1 hj;rw[qaX _ _ _ (by omega)]
   rw[e];simp only[List.filter_cons,hu,qcX _ _ hs];simp
  ·rw[ih (by omega)];simp only[List.filter_cons,qaX _ _ _ h];split<;>simp<;>omega
theorem qgt(listed:Array Bool)(n:Nat)(h:qcs listed n=0):∀ i,i<n→listed.getD i false=true:=by
 intro i hi;unfold qcs at h;have:=List.length_eq_zero_iff.1 h;rw[List.filter_eq_nil_iff]at this;simpa using this i (List.mem_range.2 hi)
theorem toCome_pos(listed:Array Bool)(n f:Nat)(h:qcs listed n=f+1):∃ i,i<n∧listed.getD i false=false∧∀ j,j<i→listed.getD j false=true:=by
 induction n with
 | zero=>simp[qcs]at h
 | succ n ih=>
  by_cases h0:qcs listed n=0
  ·refine⟨n,by omega,?_,fun j hj=>qgt _ _ h0 j hj⟩;unfold qcs at h h0;rw[List.range_succ,List.filter_append,List.length_append,h0]at h
   cases hb:listed.getD n false
   ·rfl
   ·simp only[List.filter_cons,hb,Bool.not_true,Bool.false_eq_true,if_false,List.filter_nil,List.length_nil]at h;omega
  ·obtain⟨f',z1⟩:∃ f',qcs listed n=f'+1:=⟨qcs listed n-1,by omega⟩;have:∃ i,i<n∧listed.getD i false=false∧∀ j,j<i→listed.getD j false=true:=by
    clear ih
    -- the least one below n
    have z2:∃ i,i<n∧listed.getD i false=false:=by
     unfold qcs at z1;have z5:(List.range n).filter (fun i=>!listed.getD i false)≠[]:=by intro e;rw[e]at z1;simp at z1
     obtain⟨i,hi⟩:=List.exists_mem_of_ne_nil _ z5;simp only[List.mem_filter,List.mem_range]at hi;exact⟨i,hi.1,by simpa using hi.2⟩
    obtain⟨i,hi,hf⟩:=z2
    induction i using Nat.strongRecOn with
    | _ i ih=>
     by_cases z0:∀ j,j<i→listed.getD j false=true
     ·exact⟨i,hi,hf,z0⟩
     ·obtain⟨j,hj⟩:∃ j,¬ (j<i→listed.getD j false=true):=Classical.not_forall.1 z0;have z4:j<i:=Classical.byContradiction fun h=>hj fun h'=>absurd h' h;have z3:listed.getD j false=false:=by cases hb:listed.getD j false;rfl;exact absurd (fun _=>hb) hj
      exact ih j z4 (by omega) z3
   obtain⟨i,hi,h1,h2⟩:=this;exact⟨i,by omega,h1,h2⟩
theorem wp_region_inv{id:Nat}{Q:Exit→Act→World→Prop}{a:Act}{w:World}{l:List Oper}(n m:Nat)(zf:List Bool)(zm:List (List Nat))(hm:P.follows .mixedOrders=true)(hB:freshB l.toArray n m zf zm=true)
  (J:Array Bool→Act→World→Prop) (h0:J (Array.replicate l.toArray.size false) a { w with drawn:=w.drawn+1 })
  (z3:∀ i,i<n→∀ listed a' w',i ∈ Region.ready .any l.toArray listed→HeadInv .any l.toArray n listed→J listed a' w'→wpOp P l.toArray Q i (J (listed.setIfInBounds i true)) a' w')
  (z6:∀ listed a' w',(∀ i,i<n→listed.getD i false=true)→J listed a' w'→wpList P l.toArray Q (l.drop n) a' w'):(Code.region id l.toArray true).wp P Q a w:=by
 unfold freshB at hB;simp only[Bool.and_eq_true,decide_eq_true_eq]at hB;obtain⟨⟨⟨⟨⟨⟨hn,hs⟩,hc⟩,z8⟩,_⟩,_⟩,z9⟩:=hB;have zk:n<l.length:=by simpa using hn
 refine wp_region_any hm ?_;have zb:∀ (f:Nat) (listed:Array Bool) (a':Act) (w':World),qcs listed n=f→HeadInv .any l.toArray n listed→J listed a' w'→wpAny P .any l.toArray Q (f+(l.toArray.size-n)) listed a' w':=by
  intro f
  induction f with
  | zero=>
   intro listed a' w' hf z2 hJ;have z1:=qgt _ _ hf;have hl:listed=Array.replicate n true++Array.replicate (l.toArray.size-n) false:=by
    apply Array.ext
    ·simp[z2.size];omega
    ·intro i h1 h2;by_cases hi:i<n
     ·have:=z1 i hi;simp[getD_eq_getD_getElem?,h1]at this;rw[this,Array.getElem_append_left (by simpa using hi)];simp
     ·have:=z2.tail i (by omega) (by rw[← z2.size];exact h1);simp[getD_eq_getD_getElem?,h1]at this;rw[this,Array.getElem_append_right (by simp;omega)];simp
   have zc:(l.drop n).length=l.toArray.size-n:=by simp
   have:=wpAny_of_seq (md:=.any) (Q':=Q) (l.drop n) n listed a' w' (fun j=>by simp[List.getElem?_drop]) (by rw[zc,hl];exact z9) (z6 listed a' w' z1 hJ);rw[zc]at this;rwa[Nat.zero_add]
  | succ f ih=>
   intro listed a' w' hf z2 hJ;obtain⟨i,hi,zl,z1⟩:=toCome_pos _ _ _ hf;have zh:i<listed.size:=by rw[z2.size];omega
   have z4:listed.getD i true=false:=Go.getD_in zh zl;have z0:i ∈ Region.ready .any l.toArray listed:=by
    rw[mem_ready];have z5:=List.all_eq_true.1 z8 i (List.mem_range.2 hi);unfold qe0 at z5;have zd:l.toArray[i]?=some l.toArray[i]:=Array.getElem?_eq_getElem (by simpa using Nat.lt_trans hi zk);rw[zd]at z5;simp only[Bool.and_eq_true]at z5;refine⟨z4,_,zd,fun e he hb=>?_⟩;have:=Array.all_eq_true'.1 z5.1.2 e he;simp only[hb,Bool.not_true,Bool.false_or,decide_eq_true_eq]at this;exact z1 _ this
   rw[show f+1+(l.toArray.size-n)=(f+(l.toArray.size-n))+1 by omega];refine⟨fun h=>(by rw[h]at z0;cases z0),fun j hj=>?_⟩;have z7:j<n:=Nat.lt_of_not_le fun h=>absurd hj (tail_waits hs hc hn z2 _ i rfl hi z4 j h);have zi:j<listed.size:=by rw[z2.size];omega
   have zj:listed.getD j false=false:=Go.getD_both (mem_ready.1 hj).1;refine wpOp_mono (fun ze zn h=>ih _ ze zn ?_ (z2.set hj z7) h) (z3 j z7 listed a' w' hj z2 hJ);have:=toCome_set listed n j z7 zi zj;omega
 have zg:qcs (Array.replicate l.toArray.size false) n=n:=by
  unfold qcs;have:(List.range n).filter (fun i=>!(Array.replicate l.toArray.size false).getD i false)=List.range n:=by
   rw[List.filter_eq_self];intro i _;rw[Go.getD_replicate_false];rfl
  rw[this,List.length_range]
 have za:HeadInv .any l.toArray n (Array.replicate l.toArray.size false):=
  ⟨by simp,fun j oj _ hl=>(by rw[Go.getD_replicate_false]at hl;cases hl),fun t _ ht=>Go.getD_in (by simpa using ht) (Go.getD_replicate_false _ _)⟩
 have:=zb n _ a _ zg za h0;rwa[show n+(l.toArray.size-n)=l.toArray.size by omega]at this
def qax:Act→List Oper→(Nat→Value)→Nat→Act
 | a,[],_,_=>a
 | a,o :: l,vs,k=>qax (a.put o.dst (vs k)) l vs (k+1)
def qaK(S:List HeadSpec)(i:Nat):Value:=((S[i]?).map (·.v)).getD undef
def qaP(P:Program)(w0:World)(o:Oper)(s:HeadSpec):Prop:=
 match s.al with
 | some ob=>∀ (a:Act) (w:World),Below w0.heap.size w0 w→(execOp a.eval o).run P w=.ok (.value (.pointer (some ⟨w.heap.size,0,none⟩))) (w.alloc ob)
 | none=>∀ (a:Act) (w:World),Below w0.heap.size w0 w→(∀ p ∈ s.rd,a.tmps.getD p.1 undef=p.2)→qaa P w s.v ((execOp a.eval o).run P w)
def qaO(P:Program)(w0:World):List Oper→List HeadSpec→Prop
 | o :: l,s :: S=>qaP P w0 o s∧qaO P w0 l S
 | [],[]=>True
 | _,_=>False
def qay(aF:Act):List HeadSpec→Prop
 | []=>True
 | s :: S=>(∀ p ∈ s.rd,aF.tmps.getD p.1 undef=p.2)∧qay aF S
def qaN(P:Program)(ops:Array Oper)(Q:Exit→Act→World→Prop)(rest:List Oper)(w0:World):List Oper→List HeadSpec→Act→List (Nat×Obj)→Prop
 | o :: l,s :: S,a,gs=>match s.al with
  | none=>qaN P ops Q rest w0 l S (a.put o.dst s.v) gs
  | some ob=>∀ g:Nat,w0.heap.size≤g→(∀ p ∈ gs,p.1≠g)→qaN P ops Q rest w0 l S (a.put o.dst (.pointer (some ⟨g,0,none⟩))) (gs++[(g,ob)])
 | _,_,a,gs=>∀ w':World,Below w0.heap.size w0 w'→(∀ p ∈ gs,w'.heap[p.1]?=some p.2)→wpList P ops Q rest a w'
theorem headObl_get{w0:World} : ∀ {l:List Oper} {S:List HeadSpec},qaO P w0 l S→l.length=S.length∧∀ (i:Nat) (o:Oper) (s:HeadSpec),l[i]?=some o→S[i]?=some s→qaP P w0 o s
 | [],[],_=>⟨rfl,fun i o s h _=>by simp at h⟩
 | o :: l,s :: S,h=>by
  obtain⟨h1,h2⟩:=h;obtain⟨hl,hg⟩:=headObl_get h2;refine⟨by simp[hl],fun i o' s' ho hs=>?_⟩
  cases i with
  | zero=>simp at ho hs;subst ho hs;exact h1
  | succ i=>simp at ho hs;exact hg i o' s' ho hs
 | [],_ :: _,h=>h.elim
 | _ :: _,[],h=>h.elim
theorem qfy{aF:Act} : ∀ {S:List HeadSpec},qay aF S→∀ (i:Nat) (s:HeadSpec),S[i]?=some s→∀ p ∈ s.rd,aF.tmps.getD p.1 undef=p.2
 | [],_,i,s,h=>by simp at h
 | s :: S,hr,i,s',h=>by
  cases i with
  | zero=>simp at h;subst h;exact hr.1
  | succ i=>simp at h;exact qfy hr.2 i s' h
structure FrameIs (ops:Array Oper) (n:Nat) (a0:Act) (vs:Nat→Value) (listed:Array Bool) (a:Act):Prop where
 defers:a.defers=a0.defers
 size:a.tmps.size=a0.tmps.size
 put:∀ j d,j<n→listed.getD j false=true→qbi ops j=some d→a.tmps.getD d undef=vs j
 old:∀ d,(∀ j,j<n→listed.getD j false=true→qbi ops j≠some d)→a.tmps.getD d undef=a0.tmps.getD d undef
theorem tmps_put(a:Act)(d k:Nat)(v:Value)(hd:d<a.tmps.size):(a.put (some d) v).tmps.getD k undef=if k=d then v else a.tmps.getD k undef:=by
 simp only[Act.put,getD_eq_getD_getElem?,Array.getElem?_setIfInBounds];by_cases h:d=k
 ·subst h;simp[hd]
 ·simp[h,Ne.symm h]
theorem FrameIs.step{n i d:Nat}{a0 a:Act}{vs:Nat→Value}{listed:Array Bool}(h:FrameIs ops n a0 vs listed a)(hi:i<n)(z6:i<listed.size)(hu:listed.getD i false=false)(hd:qbi ops i=some d)(z5:d<a0.tmps.size)
  (z7:∀ j,j<n→j≠i→qbi ops j≠some d) (v:Value):FrameIs ops n a0 (fun j=>if j=i then v else vs j) (listed.setIfInBounds i true) (a.put (some d) v):=by
 have z3:d<a.tmps.size:=by rw[h.size];exact z5
 refine⟨h.defers,by simp[Act.put,h.size],fun j d' hj z1 z2=>?_,fun d' z4=>?_⟩
 ·rw[tmps_put _ _ _ _ z3];by_cases z0:j=i
  ·subst z0;rw[hd]at z2;cases z2;simp
  ·have:d'≠d:=fun e=>z7 j hj z0 (by rw[z2,e]);rw[if_neg this,if_neg z0];rw[qaX _ _ _ (Ne.symm z0)]at z1;exact h.put j d' hj z1 z2
 ·rw[tmps_put _ _ _ _ z3];have:d'≠d:=fun e=>z4 i hi (qcX _ _ z6) (by rw[hd,e]);rw[if_neg this];exact h.old d' fun j hj z1=>by
   by_cases z0:j=i
   ·subst z0;rw[hu]at z1;cases z1
   ·exact z4 j hj (by rw[qaX _ _ _ (Ne.symm z0)];exact z1)
theorem FrameIs.eq{n:Nat}{a0 a b:Act}{vs:Nat→Value}{listed z0:Array Bool}(h:FrameIs ops n a0 vs listed a)(k:FrameIs ops n a0 vs z0 b)(hl:∀ i,i<n→listed.getD i false=true)(z1:∀ i,i<n→z0.getD i false=true):a=b:=by
 have ht:a.tmps=b.tmps:=by
  apply Array.ext
  ·rw[h.size,k.size]
  ·intro d h1 h2;have e:a.tmps.getD d undef=b.tmps.getD d undef:=by
    by_cases hx:∃ j,j<n∧qbi ops j=some d
    ·obtain⟨j,hj,hd⟩:=hx;rw[h.put j d hj (hl j hj) hd,k.put j d hj (z1 j hj) hd]
    ·rw[h.old d fun j hj _ e=>hx ⟨j,hj,e⟩,k.old d fun j hj _ e=>hx ⟨j,hj,e⟩]
   simpa[getD_eq_getD_getElem?,h1,h2]using e
 cases a;cases b
 have h1:=h.defers;have h2:=k.defers;simp only at ht h1 h2;rw[ht,h1,h2]
theorem qc2{n:Nat}{a0:Act}{vs:Nat→Value}(z1:∀ i,i<n→∃ d,qbi ops i=some d∧d<a0.tmps.size∧∀ j,j<n→j≠i→qbi ops j≠some d):∀ (l':List Oper) (k:Nat) (listed:Array Bool) (b:Act),k+l'.length=n→(∀ j,j<l'.length→l'[j]?=ops[k+j]?)→n≤listed.size→(∀ i,i<n→listed.getD i false=decide (i<k))→FrameIs ops n a0 vs listed b→
  ∃ z0,(∀ i,i<n→z0.getD i false=true)∧FrameIs ops n a0 vs z0 (qax b l' vs k)
 | [],k,listed,b,hk,_,_,hl,h=>⟨listed,fun i hi=>by rw[hl i hi];simp at hk;simp;omega,h⟩
 | o :: l',k,listed,b,hk,hops',hs,hl,h=>by
  have z2:k<n:=by simp at hk;omega
  obtain⟨d,hd,z5,z6⟩:=z1 k z2;have h0:ops[k]?=some o:=by simpa using (hops' 0 (by simp)).symm
  have z7:o.dst=some d:=by simpa[qbi,h0]using hd
  have z4:=h.step z2 (by omega) (by rw[hl k z2];simp) hd z5 z6 (vs k);rw[show (fun j=>if j=k then vs k else vs j)=vs by funext j;split<;>simp_all]at z4;rw[qax,z7];refine qc2 z1 l' (k+1) (listed.setIfInBounds k true) _ (by simp at hk;omega) (fun j hj=>?_) (by simpa using hs) (fun i hi=>?_) z4
  ·have:=hops' (j+1) (by simp;omega);simpa[Nat.add_assoc,Nat.add_comm 1 j]using this
  ·by_cases z3:i=k
   ·subst z3;rw[qcX _ _ (by omega)];simp
   ·rw[qaX _ _ _ (Ne.symm z3),hl i hi];rw[show decide (i<k)=decide (i<k+1) from by rw[decide_eq_decide];omega]
def specAt(w0 w:World)(s:HeadSpec)(v:Value):Prop:=
 match s.al with
 | none=>v=s.v
 | some ob=>∃ g:Nat,v=.pointer (some ⟨g,0,none⟩)∧w0.heap.size≤g∧w.heap[g]?=some ob
theorem specAt.keep{w0 w w':World}{s:HeadSpec}{v:Value}(h:specAt w0 w s v)(hb:Below w.heap.size w w'):specAt w0 w' s v:=by
 unfold specAt at *;split
 ·rename_i ha;simp only[ha]at h;exact h
 ·rename_i ob ha;simp only[ha]at h;obtain⟨g,h1,h2,h3⟩:=h;exact⟨g,h1,h2,qap hb (qac h3) h3⟩
theorem qgo{Q:Exit→Act→World→Prop}{rest:List Oper}{w0 w':World}{vs:Nat→Value}(hb:Below w0.heap.size w0 w'):∀ (l':List Oper) (S':List HeadSpec) (b:Act) (gs:List (Nat×Obj)) (k:Nat),l'.length=S'.length→
  (∀ (i:Nat) (s:HeadSpec),S'[i]?=some s→specAt w0 w' s (vs (k+i)))→
  (∀ (i:Nat) (s:HeadSpec),S'[i]?=some s→s.al.isSome=true→∀ p ∈ gs,vs (k+i)≠.pointer (some ⟨p.1,0,none⟩))→
  (∀ (i j:Nat) (s t:HeadSpec),S'[i]?=some s→S'[j]?=some t→i≠j→s.al.isSome=true→t.al.isSome=true→vs (k+i)≠vs (k+j))→
  (∀ p ∈ gs,w'.heap[p.1]?=some p.2)→qaN P ops Q rest w0 l' S' b gs→wpList P ops Q rest (qax b l' vs k) w'
 | [],[],b,gs,k,_,_,_,_,hg,h=>by rw[qax];exact h w' hb hg
 | o :: l',s :: S',b,gs,k,hl,h1,h2,h3,hg,h=>by
  have hs:=h1 0 s (by simp);rw[Nat.add_zero]at hs;have n1:∀ (i:Nat) (t:HeadSpec),S'[i]?=some t→specAt w0 w' t (vs (k+1+i)):=fun i t ht=>by
   have:=h1 (i+1) t (by simpa using ht);rwa[show k+(i+1)=k+1+i by omega]at this
  have n3:∀ (i j:Nat) (t u:HeadSpec),S'[i]?=some t→S'[j]?=some u→i≠j→t.al.isSome=true→u.al.isSome=true→vs (k+1+i)≠vs (k+1+j):=fun i j t u ht hu hij=>by
   have:=h3 (i+1) (j+1) t u (by simpa using ht) (by simpa using hu) (by omega);rwa[show k+(i+1)=k+1+i by omega,show k+(j+1)=k+1+j by omega]at this
  have n2:∀ (i:Nat) (t:HeadSpec),S'[i]?=some t→t.al.isSome=true→∀ p ∈ gs,vs (k+1+i)≠.pointer (some ⟨p.1,0,none⟩):=fun i t ht ha p hp=>by
   have:=h2 (i+1) t (by simpa using ht) ha p hp;rwa[show k+(i+1)=k+1+i by omega]at this
  rw[qax];unfold qaN at h
  cases z0:s.al with
  | none=>
   simp only[z0]at h;have hv:vs k=s.v:=by unfold specAt at hs;simpa only[z0]using hs
   rw[hv];exact qgo hb l' S' _ gs (k+1) (by simpa using hl) n1 n2 n3 hg h
  | some ob=>
   simp only[z0]at h;have hv:∃ g:Nat,vs k=.pointer (some ⟨g,0,none⟩)∧w0.heap.size≤g∧w'.heap[g]?=some ob:=by unfold specAt at hs;simpa only[z0]using hs
   obtain⟨g,z2,z3,z4⟩:=hv;rw[z2];have z1:=h g z3 (fun p hp e=>h2 0 s (by simp) (by simp[z0]) p hp (by rw[Nat.add_zero,z2,e]));refine qgo hb l' S' _ (gs++[(g,ob)]) (k+1) (by simpa using hl) n1 (fun i t ht ha p hp=>?_) n3 (fun p hp=>?_) z1
   ·rcases List.mem_append.1 hp with hp|hp
    ·exact n2 i t ht ha p hp
    ·have:p=(g,ob):=by simpa using hp
     subst this;have:=h3 (i+1) 0 t s (by simpa using ht) (by simp) (by omega) ha (by simp[z0]);rw[show k+(i+1)=k+1+i by omega,show k+0=k from rfl,z2]at this;exact this
   ·rcases List.mem_append.1 hp with hp|hp
    ·exact hg p hp
    ·have:p=(g,ob):=by simpa using hp
     subst this;exact z4
 | [],_ :: _,_,_,_,hl,_,_,_,_,_=>by simp at hl
 | _ :: _,[],_,_,_,hl,_,_,_,_,_=>by simp at hl
theorem qao{id:Nat}{Q:Exit→Act→World→Prop}{a:Act}{w:World}{l:List Oper}(n m:Nat)(S:List HeadSpec)(hm:P.follows .mixedOrders=true)
  (hB:freshB l.toArray n m (S.map fun s=>s.al.isSome) (S.map fun s=>s.rd.map (·.1))=true) (zQ:a.tmps.size=m)
  (zM:qaO P w (l.take n) S) (zO:qay (qax a (l.take n) (qaK S) 0) S)
  (zo:qaN P l.toArray Q (l.drop n) w (l.take n) S a []):(Code.region id l.toArray true).wp P Q a w:=by
 have zm:=hB;unfold freshB at zm;simp only[Bool.and_eq_true,decide_eq_true_eq]at zm;obtain⟨⟨⟨⟨⟨⟨hn,_⟩,_⟩,zs⟩,zt⟩,hlen⟩,_⟩:=zm;have zL:n<l.length:=by simpa using hn
 have zu:(l.take n).length=n:=by simp;omega
 obtain⟨zF,zq⟩:=headObl_get zM;rw[zu]at zF;have z6:∀ i,i<n→∃ o d,l.toArray[i]?=some o∧o.guard=none∧o.dst=some d∧qbi l.toArray i=some d∧d<a.tmps.size∧∀ j,j<n→j≠i→qbi l.toArray j≠some d:=fun i hi=>by
  have zl:=List.all_eq_true.1 zs i (List.mem_range.2 hi);unfold qe0 at zl;have zr:l.toArray[i]?=some l.toArray[i]:=Array.getElem?_eq_getElem (by simpa using Nat.lt_trans hi zL);rw[zr]at zl;simp only[Bool.and_eq_true]at zl;obtain⟨⟨hg,_⟩,hd⟩:=zl
  cases zh:l.toArray[i].dst with
  | none=>rw[zh]at hd;cases hd
  | some d=>
   rw[zh]at hd;simp only[Bool.and_eq_true,decide_eq_true_eq]at hd;refine⟨_,d,zr,by simpa using hg,zh,by rw[qbi,zr];exact zh,by rw[zQ];exact hd.1,fun j hj z0 e=>?_⟩;have:=List.all_eq_true.1 hd.2 j (List.mem_range.2 hj);simp only[Bool.or_eq_true,beq_iff_eq,bne_iff_ne]at this;rcases this with h|h
   ·exact z0 h
   ·exact h e
 have zd:FrameIs l.toArray n a (qaK S) (Array.replicate l.toArray.size false) a:=⟨rfl,rfl,fun j d _ h _=>(by rw[Go.getD_replicate_false]at h;cases h),fun _ _=>rfl⟩;obtain⟨lF,zJ,hF⟩:=qc2 (ops:=l.toArray) (n:=n) (a0:=a) (vs:=qaK S) (fun i hi=>by obtain⟨o,d,_,_,_,h1,h2,h3⟩:=z6 i hi;exact⟨d,h1,h2,h3⟩)
  (l.take n) 0 (Array.replicate l.toArray.size false) a (by omega) (fun j hj=>by rw[zu]at hj;simp[List.getElem?_take,hj]) (by simp;omega) (fun i hi=>by rw[Go.getD_replicate_false];simp) zd
 refine wp_region_inv n m _ _ hm hB (fun listed a' w'=>listed.size=l.toArray.size∧∃ vs:Nat→Value,FrameIs l.toArray n a vs listed a'∧Below w.heap.size w w'∧
   (∀ (i:Nat) (s:HeadSpec),i<n→listed.getD i false=true→S[i]?=some s→specAt w w' s (vs i))∧
   (∀ (i j:Nat) (s t:HeadSpec),i<n→j<n→listed.getD i false=true→listed.getD j false=true→S[i]?=some s→S[j]?=some t→i≠j→s.al.isSome=true→t.al.isSome=true→vs i≠vs j)) ?_ ?_ ?_
 ·refine⟨by simp,qaK S,zd,⟨rfl,rfl,rfl,jlr _,fun _ _=>rfl⟩,fun i s _ h=>(by rw[Go.getD_replicate_false]at h;cases h),fun i j s t _ _ h=>(by rw[Go.getD_replicate_false]at h;cases h)⟩
 ·intro i hi listed a' w' hr inv hJ;obtain⟨zk,vs,hf,hb,za,zi⟩:=hJ;obtain⟨o,d,ho,hg,zB,hd,zw,zz⟩:=z6 i hi;have hu:listed.getD i false=false:=Go.getD_both (mem_ready.1 hr).1;have zx:i<listed.size:=by rw[zk];omega
  obtain⟨s,hs⟩:∃ s,S[i]?=some s:=⟨S[i]'(by omega),List.getElem?_eq_getElem (by omega)⟩;have z3:=zq i o s (by simpa[List.getElem?_take,hi]using ho) hs;unfold wpOp;simp only[ho];have hw:Region.wanted o (yielded l.toArray a'.tmps)=true:=by simp[Region.wanted,hg]
  rw[if_pos hw];refine .inl ?_;unfold qaP at z3
  cases z7:s.al with
  | none=>
   simp only[z7]at z3;refine wp_of_sQuiet (z3 a' w' hb (fun p hp=>?_)) fun w'' zc=>?_
   ·have hR:=List.all_eq_true.1 zt i (List.mem_range.2 hi);unfold qdi at hR;have zN:p.1 ∈ (S.map fun s=>s.rd.map (·.1)).getD i []:=by
     simp only[List.getD_eq_getElem?_getD,List.getElem?_map,hs,Option.map_some,Option.getD_some];exact List.mem_map.2 ⟨p,hp,rfl⟩
    have zE:=List.all_eq_true.1 hR p.1 zN;rw[← qfy zO i s hs p hp];by_cases hx:∃ j,j<n∧qbi l.toArray j=some p.1
    ·obtain⟨j,hj,zn⟩:=hx;have zv:=List.all_eq_true.1 zE j (List.mem_range.2 hj);simp only[zn,bne_self_eq_false,Bool.false_or,Bool.and_eq_true]at zv;obtain⟨zR,zD⟩:=zv;obtain⟨oj,zC,e,he,zG,zH⟩:=Region.waitsFor_spec zR;rw[ho]at zC;cases zC
     have z1:listed.getD j false=true:=by
      obtain⟨_,o2,zA,z2⟩:=mem_ready.1 hr;rw[ho]at zA;cases zA;rw[← zH];exact z2 e he zG
     obtain⟨t,ht⟩:∃ t,S[j]?=some t:=⟨S[j]'(by omega),List.getElem?_eq_getElem (by omega)⟩;have z4:t.al=none:=by
      simp only[List.getD_eq_getElem?_getD,List.getElem?_map,ht,Option.map_some,Option.getD_some,Bool.not_eq_true']at zD;simpa using zD
     rw[hf.put j p.1 hj z1 zn,hF.put j p.1 hj (zJ j hj) zn];have:=za j t hj z1 ht;unfold specAt at this;simp only[z4]at this;rw[this,qaK,ht];rfl
    ·rw[hf.old p.1 fun j hj _ e=>hx ⟨j,hj,e⟩,hF.old p.1 fun j hj _ e=>hx ⟨j,hj,e⟩]
   ·rw[zB];refine⟨by simpa using zk,_,hf.step hi zx hu hd zw zz s.v,hb.trans (zc.mono hb.size),fun j t hj z1 ht=>?_,fun j k t u hj hk z1 z5 ht zb zj z4 zg=>?_⟩
    ·by_cases z0:j=i
     ·subst z0;rw[hs]at ht;cases ht;unfold specAt;simp[z7]
     ·simp only[if_neg z0];rw[qaX _ _ _ (Ne.symm z0)]at z1;exact (za j t hj z1 ht).keep zc
    ·have z0:j≠i:=fun e=>by subst e;rw[hs]at ht;cases ht;simp[z7]at z4
     have z9:k≠i:=fun e=>by subst e;rw[hs]at zb;cases zb;simp[z7]at zg
     simp only[if_neg z0,if_neg z9];rw[qaX _ _ _ (Ne.symm z0)]at z1;rw[qaX _ _ _ (Ne.symm z9)]at z5;exact zi j k t u hj hk z1 z5 ht zb zj z4 zg
  | some ob=>
   simp only[z7]at z3;unfold Oper.wp;rw[z3 a' w' hb];simp only[Oper.upon];rw[zB];have zc:=qaf w' ob;have ze:∀ j t,j<n→listed.getD j false=true→S[j]?=some t→t.al.isSome=true→vs j≠.pointer (some ⟨w'.heap.size,0,none⟩):=fun j t hj z1 ht z4 e=>by
    have:=za j t hj z1 ht;unfold specAt at this
    cases zf:t.al with
    | none=>simp[zf]at z4
    | some ob'=>
     simp only[zf]at this;obtain⟨g,h1,_,h3⟩:=this;rw[e]at h1;have:w'.heap.size=g:=by simpa using h1
     have:=qac h3;omega
   refine⟨by simpa using zk,_,hf.step hi zx hu hd zw zz (.pointer (some ⟨w'.heap.size,0,none⟩)),hb.trans (zc.mono hb.size),fun j t hj z1 ht=>?_,fun j k t u hj hk z1 z5 ht zb zj z4 zg=>?_⟩
   ·by_cases z0:j=i
    ·subst z0;rw[hs]at ht;cases ht;unfold specAt;simp only[z7];exact⟨w'.heap.size,by simp,hb.size,qad w' ob⟩
    ·simp only[if_neg z0];rw[qaX _ _ _ (Ne.symm z0)]at z1;exact (za j t hj z1 ht).keep zc
   ·by_cases z0:j=i
    ·subst z0;have zy:k≠j:=Ne.symm zj;simp only[if_pos,if_neg zy];rw[qaX _ _ _ (Ne.symm zy)]at z5;exact fun e=>ze k u hk z5 zb zg e.symm
    ·rw[qaX _ _ _ (Ne.symm z0)]at z1;by_cases z9:k=i
     ·subst z9;simp only[if_pos,if_neg z0];exact ze j t hj z1 ht z4
     ·simp only[if_neg z0,if_neg z9];rw[qaX _ _ _ (Ne.symm z9)]at z5;exact zi j k t u hj hk z1 z5 ht zb zj z4 zg
 ·intro listed a' w' z2 hJ;obtain⟨zk,vs,hf,hb,za,zi⟩:=hJ;have zp:FrameIs l.toArray n a vs (Array.replicate l.toArray.size false) a:=⟨rfl,rfl,fun j d _ h _=>(by rw[Go.getD_replicate_false]at h;cases h),fun _ _=>rfl⟩;obtain⟨lV,zK,hV⟩:=qc2 (ops:=l.toArray) (n:=n) (a0:=a) (vs:=vs) (fun i hi=>by obtain⟨o,d,_,_,_,h1,h2,h3⟩:=z6 i hi;exact⟨d,h1,h2,h3⟩)
   (l.take n) 0 (Array.replicate l.toArray.size false) a (by omega) (fun j hj=>by rw[zu]at hj;simp[List.getElem?_take,hj]) (by simp;omega) (fun i hi=>by rw[Go.getD_replicate_false];simp) zp
  rw[hf.eq hV z2 zK];have z8:∀ (i:Nat) (s:HeadSpec),S[i]?=some s→i<n:=fun i s h=>by have:=(List.getElem?_eq_some_iff.1 h).1;omega
  refine qgo hb (l.take n) S a [] 0 (by omega) (fun i s hs=>?_) (fun _ _ _ _ p hp=>by simp at hp) (fun i j s t hs ht zI zP z4=>?_) (fun p hp=>by simp at hp) zo
  ·rw[Nat.zero_add];exact za i s (z8 i s hs) (z2 i (z8 i s hs)) hs
  ·rw[Nat.zero_add,Nat.zero_add];exact zi i j s t (z8 i s hs) (z8 j t ht) (z2 i (z8 i s hs)) (z2 j (z8 j t ht)) hs ht zI zP z4
end
theorem qab{P:Program}{o:Oper}{a:Act}{w:World}(ty:TypeId)(x:Operand)(ho:o.op=.load ty x)
  (g:Nat) (hx:a.eval x=.pointer (some ⟨g,0,none⟩)) (t:TypeId) (cs:Array Value) (fr:Nat×Nat) (d:TypeDesc) (hg:w.heap[g]?=some (.cells cs t fr))
  (hu:P.underlying ty=some d) (hd:(match d with|.struct _|.array _ _=>true|_=>false)=true) (hi:(P.info? ty).map (·.size)=some cs.size):qaa P w (.agg cs) ((execOp a.eval o).run P w):=by
 unfold execOp;simp only[ho,hx,Instr.loadAt,Instr.sureAddr,Sem.run_bind,Sem.run_pure,Result.andThen_ok,run_loadVar_row w g t ty cs fr d hg hu hd hi];exact⟨rfl,rfl⟩
end
section
open Go.RowKit Go.Sort
structure MadeSpec where
 al:Option (Obj×(Nat→Value))
 v:Value
 rd:List (Nat×Value)
 rm:List (Nat×Nat×Obj×(Nat→Value))
def MadeSpec.val(v:Value)(rd:List (Nat×Value)):MadeSpec:=⟨none,v,rd,[]⟩
def MadeSpec.from(v:Value)(rd:List (Nat×Value))(rm:List (Nat×Nat×Obj×(Nat→Value))):MadeSpec:=⟨none,v,rd,rm⟩
def MadeSpec.new(ob:Obj)(mk:Nat→Value)(rd:List (Nat×Value)):MadeSpec:=⟨some (ob,mk),undef,rd,[]⟩
def mkS(n c:Nat)(g:Nat):Value:=.slice (some ⟨g,0,none⟩) n c
def blkOf:Value→Option Nat
 | .pointer (some a)=>some a.block
 | .slice (some a) _ _=>some a.block
 | _=>none
section
variable {P : Program} {ops : Array Oper}
def madeAt(w0 w:World)(s:MadeSpec)(v:Value):Prop:=
 match s.al with
 | none=>v=s.v
 | some (ob,mk)=>∃ g:Nat,v=mk g∧blkOf v=some g∧w0.heap.size≤g∧w.heap[g]?=some ob
theorem madeAt.keep{w0 w w':World}{s:MadeSpec}{v:Value}(h:madeAt w0 w s v)(hb:Below w.heap.size w w'):madeAt w0 w' s v:=by
 unfold madeAt at *;split
 ·rename_i ha;simp only[ha]at h;exact h
 ·rename_i ob mk ha;simp only[ha]at h;obtain⟨g,h1,h2,h3,h4⟩:=h;exact⟨g,h1,h2,h3,qap hb (qac h4) h4⟩
end
end
section
open Go.ChangeShapes Go.WideShapes Go.ChangeAt Go.WideMaps Go.WideElems Go.RowKit
section
variable {H : Type} {enc : TypeId × Value → H} {P : Program} {w : World} {base b0 : Nat} {spare : Nat → Bool} {held : Bool}
end
end
section
open Go.RowKit Go.Sort
theorem run_extract_all{P:Program}{ρ:Operand→Value}{o:Oper}{t:Operand}{ix:Nat}(h:o.op=.extract t ix){w0:World}{v:Value}{C:World→Prop}
  (hq:Oper.quietUpon P C w0 v ((execOp ρ o).run P w0)):∀ w,(execOp ρ o).run P w=.ok (.value v) w:=by
 have e:∀ w,(execOp ρ o).run P w=(do pure (Next.value (← Instr.extract (ρ t) ix)):Sem Next).run P w:=fun w=>by unfold execOp;rw[h]
 rw[e]at hq;intro w;rw[e];generalize ρ t=tv at hq ⊢
 cases tv
 case tuple vs=>
  cases hx:vs[ix]? with
  | some x=>
   have e2:∀ w,(do pure (Next.value (← Instr.extract (.tuple vs) ix)):Sem Next).run P w=.ok (.value x) w:=fun w=>by unfold Instr.extract;simp only[hx];rfl
   rw[e2]at hq;rw[e2];simp only[Oper.quietUpon]at hq;rw[hq.2]
  | none=>
   unfold Instr.extract at hq;simp only[hx]at hq;exact (hq:False).elim
 all_goals exact (hq:False).elim
section
variable {P : Program} {ops : Array Oper} {md : Region.Mode} {C : World → Prop}
def hangB(md:Region.Mode)(ops:Array Oper)(n:Nat):Bool:=
 (List.range ops.size).all fun t=>decide (t<n) || (List.range t).any fun j=>decide (n≤j+1)&&Region.waitsFor md ops t j
theorem last_unlisted{m n:Nat}{listed:Array Bool}(hs:qds m md ops (n-1)=true)(z2:HeadInv md ops n listed)(hn:n≤ops.size):∀ (d i:Nat),n-i=d→m≤i→i<n→listed.getD i true=false→listed.getD (n-1) true=false:=by
 intro d
 induction d using Nat.strongRecOn with
 | _ d ih=>
  intro i hd hm hi z1;by_cases z3:i=n-1
  ·rw[← z3];exact z1
  ·have h1:=List.all_eq_true.1 hs i (List.mem_range.2 (by omega));simp only[Bool.or_eq_true,decide_eq_true_eq]at h1;rcases h1 with h1|h1
   ·omega
   ·obtain⟨j,hj,z0⟩:=List.any_eq_true.1 h1;simp only[Bool.and_eq_true,decide_eq_true_eq]at z0;obtain⟨oj,z5,e,he,hb,z6⟩:=Region.waitsFor_spec z0.2;have hjle:j≤n-1:=by have:=List.mem_range.1 hj;omega
    cases hl:listed.getD j false with
    | true=>
     have h2:=z2.closed j oj z5 hl e he hb;rw[z6,getD_both z1]at h2
     cases h2
    | false=>
     have z4:j<listed.size:=by rw[z2.size];omega
     exact ih (n-j) (by omega) j rfl (by omega) (by omega) (getD_in z4 hl)
theorem qgg{m n:Nat}{listed:Array Bool}(hn0:0<n)(hs:qds m md ops (n-1)=true)(hc:hangB md ops n=true)(z5:HeadInv md ops n listed):∀ (i:Nat),m≤i→i<n→listed.getD i true=false→∀ t,n≤t→t ∉ Region.ready md ops listed:=by
 intro i hm hi z8 t ht hr;obtain⟨_,ot,z4,z0⟩:=mem_ready.1 hr;have z1:t<ops.size:=(Array.getElem?_eq_some_iff.1 z4).1;have hl:=last_unlisted hs z5 (by omega) _ i rfl hm hi z8;have h1:=List.all_eq_true.1 hc t (List.mem_range.2 z1);simp only[Bool.or_eq_true,decide_eq_true_eq]at h1;rcases h1 with h1|h1
 ·omega
 ·obtain⟨j,hj,z2⟩:=List.any_eq_true.1 h1;simp only[Bool.and_eq_true,decide_eq_true_eq]at z2;have hjt:=List.mem_range.1 hj;obtain⟨o',z7,e,he,hb,z3⟩:=Region.waitsFor_spec z2.2;have:o'=ot:=Option.some.inj (z7.symm.trans z4);rw[this]at he;have h2:=z0 e he hb;by_cases z6:j=n-1
  ·rw[z3,z6,getD_both hl]at h2
   cases h2
  ·rw[z3,getD_both (z5.tail j (by omega) (by omega))]at h2
   cases h2
theorem mheadAny_firstL{m n i:Nat}{oi:Oper}{v:Value}{L:Array Bool→Act→Prop}(hi:ops[i]?=some oi)(z4:∀ (j:Nat) (o:Oper) cs b,ops[j]?=some o→o.op≠.select cs b)
  (ze:0<n) (hs:qds m md ops (n-1)=true) (hc:hangB md ops n=true) (zb:m≤i) (zc:i<n)
  (z2:∀ listed a,L listed a→∀ j ∈ Region.ready md ops listed,n≤j) :
  ∀ (f:Nat) (listed:Array Bool) (a:Act),HeadInv md ops n listed→
   (∀ j oj,ops[j]?=some oj→j≠i→listed.getD j true=false→(∀ e ∈ oj.after,Region.binds md e=true→e.on≠i)→oi.apart ops oj=true)→
   i ∈ Region.ready md ops listed→YieldsIn P ops C oi v a→
   qdO P md ops C n L f (listed.setIfInBounds i true) (a.put oi.dst v)→qdO P md ops C n L (f+1) listed a:=by
 intro f
 induction f with
 | zero=>
  intro listed a z7 _ hr hy H;have z6:=(mem_ready.1 hr).1;refine⟨fun h=>(by rw[h]at hr;cases hr),fun j hj=>?_⟩;have z5:j<n:=Nat.lt_of_not_le fun h=>absurd hj (qgg ze hs hc z7 i zb zc z6 j h);refine⟨z5,?_⟩;by_cases z1:j=i
  ·subst z1;exact hy.qOp hi H
  ·have:=z2 _ _ H j (ready_mono hj z1);omega
 | succ f ih=>
  intro listed a z7 z0 hr hy H;have z6:=(mem_ready.1 hr).1;refine⟨fun h=>(by rw[h]at hr;cases hr),fun j hj=>?_⟩;have z5:j<n:=Nat.lt_of_not_le fun h=>absurd hj (qgg ze hs hc z7 i zb zc z6 j h);refine⟨z5,?_⟩;by_cases z1:j=i
  ·subst z1;exact hy.qOp hi H
  ·have h1:=(H.2 j (ready_mono hj z1)).2;obtain⟨z3,oj,za,z8⟩:=mem_ready.1 hj;have z9:∀ e ∈ oj.after,Region.binds md e=true→e.on≠i:=fun e he hb zf=>by
    have h1:=z8 e he hb;rw[zf,getD_both z6]at h1
    cases h1
   have h2:=qOp_put za (z0 j oj za z1 z3 z9) (fun cs b=>z4 i oi cs b hi) (fun cs b=>z4 j oj cs b za) hy h1;refine qOp_mono (fun a' h3=>ih (listed.setIfInBounds j true) a' (z7.set hj z5) (fun k ok hk zg hu zh=>z0 k ok hk zg ?_ zh) (ready_mono hr (Ne.symm z1)) h3.1 ?_) h2
   ·by_cases zd:j=k
    ·subst zd;exact z3
    ·rwa[getD_set_ne true zd]at hu
   ·rw[Array.setIfInBounds_comm _ _ z1];exact h3.2
def lexThen(md:Region.Mode)(ops:Array Oper)(E:Array Bool→Bool):Nat→Nat→Array Bool→Bool
 | 0,_,listed=>E listed
 | f+1,k,listed=>(Region.ready md ops listed).contains k&&Region.free md ops listed k&&lexThen md ops E f (k+1) (listed.setIfInBounds k true)
theorem mheadAny_lexL{m n:Nat}{E:Array Bool→Bool}{Lq:Act→Prop}(z1:Region.noSelect ops=true)(z3:0<n)(hs:qds m md ops (n-1)=true)(hc:hangB md ops n=true)
  (hE:∀ listed,E listed=true→∀ j ∈ Region.ready md ops listed,n≤j) :
  ∀ (l:List Oper) (k:Nat) (listed:Array Bool) (a:Act),m≤k→(∀ j,j<l.length→l[j]?=ops[k+j]?)→k+l.length=n→HeadInv md ops n listed→
  lexThen md ops E l.length k listed=true→wpQuiet P ops C Lq l a→
  qdO P md ops C n (fun z0 a'=>E z0=true∧Lq a') l.length listed a
 | [],k,listed,a,_,_,hk,_,hB,h=>by
  obtain rfl:k=n:=by simpa using hk
  exact⟨by simpa[lexThen]using hB,h⟩
 | o :: l,k,listed,a,hmk,hl,hk,inv,hB,h=>by
  have h0:ops[k]?=some o:=by simpa using (hl 0 (by simp)).symm
  simp only[List.length_cons,lexThen,Bool.and_eq_true]at hB;obtain⟨⟨hr,hf⟩,z5⟩:=hB;have z2:k<n:=by simp only[List.length_cons]at hk;omega
  have z4:k ∈ Region.ready md ops listed:=by simpa using hr
  have z6:qOp P ops C k (wpQuiet P ops C Lq l) a:=by unfold qOp;simp only[h0];exact h
  obtain⟨v,hy,hK⟩:=yieldsIn_of_qOp h0 z6;exact mheadAny_firstL h0 (Region.noSelect_spec z1) z3 hs hc hmk z2 (fun z0 a' hL=>hE _ hL.1) l.length listed a inv (Region.free_spec h0 hf) z4 hy
   (mheadAny_lexL z1 z3 hs hc hE l (k+1) _ _ (by omega) (fun j hj=>by have:=hl (j+1) (by simp;omega);simpa[Nat.add_assoc,Nat.add_comm 1 j]using this) (by simp only[List.length_cons]at hk;omega) (inv.set z4 z2) z5 hK)
theorem qff{Q:Act→Prop} : ∀ (l1 l2:List Oper) (a:Act),wpQuiet P ops C Q (l1++l2) a→wpQuiet P ops C (wpQuiet P ops C Q l2) l1 a
 | [],_,_,h=>h
 | o :: l1,l2,a,h=>by
  simp only[List.cons_append,wpQuiet]at h ⊢;split at h
  ·rename_i hw;rw[if_pos hw];exact Oper.quiet_mono (fun a' h'=>qff l1 l2 a' h') h
  ·rename_i hw;rw[if_neg hw];exact qff l1 l2 _ h
theorem qgz{o:Oper}{t:Operand}{ix:Nat}(ho:o.op=.extract t ix)(hg:o.guard=none){a:Act}{K:Act→Prop}{l:List Oper}{w0:World}(z0:C w0)(h:wpQuiet P ops C K (o :: l) a):∃ v,Yields P ops o v a∧wpQuiet P ops C K l (a.put o.dst v):=by
 have hw:Region.wanted o (yielded ops a.tmps)=true:=by simp[Region.wanted,hg]
 simp only[wpQuiet,hw,if_true]at h;obtain⟨v,h1,h2⟩:=h;exact⟨v,.inl ⟨hw,run_extract_all ho (h1 w0 z0)⟩,h2⟩
def lateB(md:Region.Mode)(ops:Array Oper)(g n:Nat)(listed:Array Bool):Bool:=
 (Region.ready md ops listed).all (fun j=>decide (n≤j))&&(Region.ready md ops listed).contains n&&Region.free md ops listed n &&
  (Region.ready md ops (listed.setIfInBounds n true)).contains (n+1)&&Region.free md ops (listed.setIfInBounds n true) (n+1)&&Region.seqB md ops g (n+2) ((listed.setIfInBounds n true).setIfInBounds (n+1) true)
def lexLateB(ops:Array Oper)(n:Nat):Bool:=
 Region.noSelect ops&&decide (n+2≤ops.size)&&decide (0<n)&&qds 1 .any ops (n-1)&&hangB .any ops n&&Region.free .any ops (Array.replicate ops.size false) 0&&(Region.ready .any ops (Array.replicate ops.size false)).contains 0 &&
  lexThen .any ops (lateB .any ops (ops.size-(n+2)) n) (n-1) 1 ((Array.replicate ops.size false).setIfInBounds 0 true)
theorem wp_region_late_tail{id:Nat}{Q:Exit→Act→World→Prop}{a:Act}{w:World}{o:Oper}{l:List Oper}(n:Nat)(x:Operand)(ho:o.op=.move x)(hg:o.guard=none)(ha:o.after=#[])
  {o1 o2:Oper} {t1 t2:Operand} {i1 i2:Nat} (e1:l[n-1]?=some o1) (e2:l[n]?=some o2) (p1:o1.op=.extract t1 i1) (p2:o2.op=.extract t2 i2) (g1:o1.guard=none) (g2:o2.guard=none)
  (hm:P.follows .mixedOrders=true) (hB:lexLateB (o :: l).toArray n=true) (hC:C { w with drawn:=w.drawn+1 })
  (hQ:∀ c (a:Act) v w,Q (.panic c) (a.put o.dst v) w→Q (.panic c) a w) (za:∀ c (a:Act) v w,Q (.panic c) (a.put o1.dst v) w→Q (.panic c) a w) (zb:∀ c (a:Act) v w,Q (.panic c) (a.put o2.dst v) w→Q (.panic c) a w)
  (h:wpQuiet P (o :: l).toArray C (fun a'=>∀ w',C w'→wpList P (o :: l).toArray Q (l.drop (n+1)) a' w') (l.take (n+1)) (a.put o.dst (a.eval x))):(Code.region id (o :: l).toArray true).wp P Q a w:=by
 simp only[lexLateB,Bool.and_eq_true,decide_eq_true_eq]at hB;obtain⟨⟨⟨⟨⟨⟨⟨z0,hn⟩,zd⟩,hs⟩,hc⟩,hf⟩,hr⟩,z4⟩:=hB;have hn':n+2≤l.length+1:=by simpa using hn
 have z2:(l.take (n-1)).length=n-1:=by simp;omega
 have z8:(l.drop (n+1)).length=(o :: l).toArray.size-(n+2):=by simp
 have h0:(o :: l).toArray[0]?=some o:=by simp
 have h1:(o :: l).toArray[n]?=some o1:=by
  obtain⟨k,rfl⟩:∃ k,n=k+1:=⟨n-1,by omega⟩;simpa using e1
 have h2:(o :: l).toArray[n+1]?=some o2:=by simpa using e2
 have z1:l.take (n+1)=l.take (n-1)++[o1,o2]:=by
  have hd:l.drop (n-1)=o1 :: o2 :: l.drop (n+1):=by
   obtain⟨k,rfl⟩:∃ k,n=k+1:=⟨n-1,by omega⟩;simp only[Nat.add_sub_cancel]at e1 ⊢;rw[List.drop_eq_getElem_cons (by omega),List.drop_eq_getElem_cons (by omega)];have q1:=(List.getElem?_eq_some_iff.1 e1).2;have q2:=(List.getElem?_eq_some_iff.1 e2).2;rw[q1,q2]
  have:=List.take_append_drop (n-1) l
  calc l.take (n+1)=(l.take (n-1)++l.drop (n-1)).take (n+1):=by rw[this]
   _=l.take (n-1)++[o1,o2]:=by
    rw[List.take_append,z2,hd,show n+1-(n-1)=2 by omega,jtl (by rw[z2];omega)];try rfl
 rw[z1]at h;have h:=qff _ _ _ h;have z7:HeadInv .any (o :: l).toArray n ((Array.replicate (o :: l).toArray.size false).setIfInBounds 0 true):=by
  refine⟨by simp,fun j oj hj hl e he hb=>?_,fun t ht ze=>?_⟩
  ·by_cases z9:0=j
   ·subst z9;have:oj=o:=Option.some.inj (hj.symm.trans h0);subst this;rw[ha]at he;simp at he
   ·rw[getD_set_ne false z9,getD_replicate_false]at hl;cases hl
  ·rw[getD_set_ne true (by omega)];exact getD_in (by simpa using ze) (getD_replicate_false _ _)
 have H:=mheadAny_lexL (m:=1) (md:=.any) (n:=n) z0 zd hs hc (fun listed hE j hj=>by
   have hE:=(show lateB .any (o :: l).toArray ((o :: l).toArray.size-(n+2)) n listed=true from hE);simp only[lateB,Bool.and_eq_true]at hE;have:=List.all_eq_true.1 hE.1.1.1.1.1 j hj;simpa using this) (l.take (n-1)) 1 _ (a.put o.dst (a.eval x)) (jlr _) (fun j hj=>by
  have zc:j<n-1:=by rw[z2]at hj;exact hj
  rw[List.getElem?_take,if_pos zc];simp[Nat.add_comm 1 j]) (by rw[z2];omega) z7 (by rw[z2];exact z4) h
 refine wp_region_any hm ?_;have z3:(o :: l).toArray.size=(n-1+((o :: l).toArray.size-(n+2)+1+1))+1:=by omega
 rw[z3];refine wpAny_take h0 z0 ?_ ?_ (fun c a w hh=>hQ c a _ w hh) (v:=a.eval x) (.inl ⟨by simp[Region.wanted,hg],fun w=>BigFrame.run_move x ho w⟩) ?_
 ·rw[← z3];exact hf
 ·rw[← z3];exact hr
 ·rw[← z3];have:=qfN (Q':=Q) (g:=(o :: l).toArray.size-(n+2)+1+1) (fun listed a' w' z6 hL=>by
   obtain⟨hE,hL⟩:=hL;simp only[lateB,Bool.and_eq_true]at hE;obtain⟨⟨⟨⟨⟨_,r1⟩,f1⟩,r2⟩,f2⟩,z5⟩:=hE;obtain⟨v1,y1,hL⟩:=qgz p1 g1 z6 hL;obtain⟨v2,y2,hL⟩:=qgz p2 g2 z6 hL;refine wpAny_take h1 z0 f1 r1 (fun c a w hh=>za c a _ w hh) y1 ?_;refine wpAny_take h2 z0 f2 r2 (fun c a w hh=>zb c a _ w hh) y2 ?_;have:=wpAny_of_seq (md:=.any) (Q':=Q) (l.drop (n+1)) (n+2) ((listed.setIfInBounds n true).setIfInBounds (n+1) true) _ w' (fun j=>by
    rw[List.getElem?_drop];have:n+2+j=(n+1+j)+1:=by omega
    rw[this];simp) (by rw[z8];exact z5) (hL w' z6)
   rwa[z8]at this) _ _ _ _ hC H
  rw[z2]at this;exact this
end
theorem qfg{P:Program}{id:Nat}{Q:Exit→Act→World→Prop}{a:Act}{w:World}{o:Oper}{l:List Oper}(n:Nat)(x:Operand)(ho:o.op=.move x)(hg:o.guard=none)(ha:o.after=#[])
  {o1 o2:Oper} {t1 t2:Operand} {i1 i2:Nat} (e1:l[n-1]?=some o1) (e2:l[n]?=some o2) (p1:o1.op=.extract t1 i1) (p2:o2.op=.extract t2 i2) (g1:o1.guard=none) (g2:o2.guard=none)
  (hm:P.follows .mixedOrders=true) (hB:lexLateB (o :: l).toArray n=true)
  (hQ:∀ c (a:Act) v w,Q (.panic c) (a.put o.dst v) w→Q (.panic c) a w) (z0:∀ c (a:Act) v w,Q (.panic c) (a.put o1.dst v) w→Q (.panic c) a w) (z1:∀ c (a:Act) v w,Q (.panic c) (a.put o2.dst v) w→Q (.panic c) a w)
  (h:wpQuiet P (o :: l).toArray (fun w'=>∃ p:Regrown,w'=grow (redrawn w p.d) p.os) (fun a'=>∀ w',Below w.heap.size w w'→wpList P (o :: l).toArray Q (l.drop (n+1)) a' w') (l.take (n+1)) (a.put o.dst (a.eval x))):(Code.region id (o :: l).toArray true).wp P Q a w:=by
 refine wp_region_late_tail (C:=fun w'=>∃ p:Regrown,w'=grow (redrawn w p.d) p.os) n x ho hg ha e1 e2 p1 p2 g1 g2 hm hB ⟨⟨w.drawn+1,#[]⟩,by rw[grow_empty];rfl⟩ hQ z0 z1 ?_;have e:(fun a'=>∀ w',Below w.heap.size w w'→wpList P (o :: l).toArray Q (l.drop (n+1)) a' w')=(fun a'=>∀ w',(∃ p:Regrown,w'=grow (redrawn w p.d) p.os)→wpList P (o :: l).toArray Q (l.drop (n+1)) a' w'):=by
  funext a';refine propext ⟨fun h w' ⟨p,hp⟩=>h w' (hp▸below_regrown w p.d p.os),fun h w' hb=>h w' (regrown_of_below hb)⟩
 rw[← e];exact h
end
section
open Go.RowKit Go.Sort
theorem qf3{P:Program}{ops:Array Oper}{rest:List Oper}{o:Oper}{a:Act}{w:World}{Q:Exit→Act→World→Prop}(hw:Region.wanted o (yielded ops a.tmps)=true)(ty:TypeId)(x:Operand)(ho:o.op=.load ty x)
  (g:Nat) (hx:a.eval x=.pointer (some ⟨g,0,none⟩)) (t:TypeId) (cs:Array Value) (fr:Nat×Nat) (d:TypeDesc) (hg:w.heap[g]?=some (.cells cs t fr))
  (hu:P.underlying ty=some d) (hd:(match d with|.struct _|.array _ _=>true|_=>false)=true) (hi:(P.info? ty).map (·.size)=some cs.size)
  (h:wpList P ops Q rest (a.put o.dst (.agg cs)) w):wpList P ops Q (o :: rest) a w:=
 BigFrame.wpList_want hw fun _ hK=>wp_load_row ty x ho g hx t cs fr d hg hu hd hi (hK _ _ h)
theorem qer{P:Program}{ops:Array Oper}{Q:Exit→Act→World→Prop}{i:Nat}{o:Oper}{K:Act→World→Prop}{a:Act}{w:World}(ho:ops[i]?=some o)(hg:o.guard=none)(h:o.wp P a w K Q):wpOp P ops Q i K a w:=by
 unfold wpOp;simp only[ho];rw[if_pos (by simp[Region.wanted,hg])];exact .inl h
theorem results_rows2{P:Program}{fn:Func}{p q:Tmp}{ty z1:TypeId}(h:fn.results=#[.cell p ty,.cell q z1])(tmps:Array Value)(w:World)(g g':Nat)(t t':TypeId)(cs z0:Array Value)(d d':TypeDesc)
  (hp:tmps.getD p undef=.pointer (some ⟨g,0,none⟩)) (hg:w.heap[g]?=some (.cells cs t)) (hu:P.underlying ty=some d) (hd:(match d with|.struct _|.array _ _=>true|_=>false)=true) (hi:(P.info? ty).map (·.size)=some cs.size)
  (z2:tmps.getD q undef=.pointer (some ⟨g',0,none⟩)) (z4:w.heap[g']?=some (.cells z0 t')) (z6:P.underlying z1=some d') (z3:(match d' with|.struct _|.array _ _=>true|_=>false)=true) (z5:(P.info? z1).map (·.size)=some z0.size) :
  (results fn tmps).run P w=.ok (.tuple #[.agg cs,.agg z0]) w:=by
 have e1:=run_loadVar_row w g t ty cs (0,0) d hg hu hd hi;have e2:=run_loadVar_row w g' t' z1 z0 (0,0) d' z4 z6 z3 z5;simp only[results,h];simp at hp z2;simp[Sem.run_bind,Result.andThen,hp,z2,asAddr,e1,e2]
def rows2B(ops:Array Oper):Bool:=
 decide (Region.ready .any ops #[false,false,false,false]=[0,1])&&decide (Region.ready .any ops #[true,false,false,false]=[1,2])&&decide (Region.ready .any ops #[false,true,false,false]=[0]) &&
  decide (Region.ready .any ops #[true,true,false,false]=[2])&&decide (Region.ready .any ops #[true,false,true,false]=[1])&&decide (Region.ready .any ops #[true,true,true,false]=[3])&&decide (Region.ready .any ops #[true,true,true,true]=[])
theorem wp_region_rows2{P:Program}{id:Nat}{Q:Exit→Act→World→Prop}{a:Act}{w:World}{o0 o1 o2 o3:Oper}(hm:P.follows .mixedOrders=true)(hB:rows2B #[o0,o1,o2,o3]=true)
  (g0:o0.guard=none) (g1:o1.guard=none) (g2:o2.guard=none) (g3:o3.guard=none) {ty:TypeId} {x0 x1 x2 x3 y2 y3:Operand} {d0 d1:Tmp}
  (p0:o0.op=.load ty x0) (p1:o1.op=.load ty x1) (p2:o2.op=.store ty x2 y2) (p3:o3.op=.store ty x3 y3)
  (q0:o0.dst=some d0) (q1:o1.dst=some d1) (q2:o2.dst=none) (q3:o3.dst=none) (zc:d0≠d1)
  (B0 B1 C0 C1:Nat) (z2 z3 z4 z5:Array Value) (t0 t1 u0 u1:TypeId) (d:TypeDesc)
  (w0:w.heap[B0]?=some (.cells z2 t0)) (w1:w.heap[B1]?=some (.cells z3 t1)) (z0:w.heap[C0]?=some (.cells z4 u0)) (z1:w.heap[C1]?=some (.cells z5 u1)) (n1:C0≠B1) (n2:C0≠C1)
  (hu:P.underlying ty=some d) (hd:(match d with|.struct _|.array _ _=>true|_=>false)=true)
  (i0:(P.info? ty).map (·.size)=some z2.size) (i1:(P.info? ty).map (·.size)=some z3.size) (s0:z4.size=z2.size) (s1:z5.size=z3.size) (c0:z2.all (·.oneCell')=true) (c1:z3.all (·.oneCell')=true)
  (e0:a.eval x0=.pointer (some ⟨B0,0,none⟩)) (z9:(a.put (some d1) (.agg z3)).eval x0=.pointer (some ⟨B0,0,none⟩)) (e1:a.eval x1=.pointer (some ⟨B1,0,none⟩)) (z8:(a.put (some d0) (.agg z2)).eval x1=.pointer (some ⟨B1,0,none⟩))
  (e2:(a.put (some d0) (.agg z2)).eval x2=.pointer (some ⟨C0,0,none⟩)) (za:((a.put (some d0) (.agg z2)).put (some d1) (.agg z3)).eval x2=.pointer (some ⟨C0,0,none⟩)) (f2:(a.put (some d0) (.agg z2)).eval y2=.agg z2) (zb:((a.put (some d0) (.agg z2)).put (some d1) (.agg z3)).eval y2=.agg z2)
  (e3:((a.put (some d0) (.agg z2)).put (some d1) (.agg z3)).eval x3=.pointer (some ⟨C1,0,none⟩)) (f3:((a.put (some d0) (.agg z2)).put (some d1) (.agg z3)).eval y3=.agg z3)
  (h:∀ w',Below w.heap.size w w'→w'.heap=w.heap→Q .normal ((a.put (some d0) (.agg z2)).put (some d1) (.agg z3)) ((w'.setRow C0 z2).setRow C1 z3)):(Code.region id #[o0,o1,o2,o3] true).wp P Q a w:=by
 simp only[rows2B,Bool.and_eq_true,decide_eq_true_eq]at hB;obtain⟨⟨⟨⟨⟨⟨r0,r1⟩,r2⟩,r3⟩,r4⟩,r5⟩,r6⟩:=hB;refine wp_region_any hm ?_;have hv:=h { w with drawn:=w.drawn+1 } ⟨rfl,rfl,rfl,jlr _,fun _ _=>rfl⟩ rfl;have w0:({ w with drawn:=w.drawn+1 } : World).heap[B0]?=some (.cells z2 t0):=w0;have w1:({ w with drawn:=w.drawn+1 } : World).heap[B1]?=some (.cells z3 t1):=w1;have z0:({ w with drawn:=w.drawn+1 } : World).heap[C0]?=some (.cells z4 u0):=z0;have z1:({ w with drawn:=w.drawn+1 } : World).heap[C1]?=some (.cells z5 u1):=z1;generalize ({ w with drawn:=w.drawn+1 } : World)=v at *;clear h;have zd:(v.setRow C0 z2).heap[B1]?=some (.cells z3 t1):=by rw[jro _ _ _ _ (Ne.symm n1)];exact w1
 have ze:(v.setRow C0 z2).heap[C1]?=some (.cells z5 u1):=by rw[jro _ _ _ _ (Ne.symm n2)];exact z1
 have z6:(a.put (some d1) (.agg z3)).put (some d0) (.agg z2)=(a.put (some d0) (.agg z2)).put (some d1) (.agg z3):=Act.put_comm a _ _ (fun d hd he=>zc ((Option.some.inj he).trans (Option.some.inj hd).symm))
 -- the last store
 have L3:wpAny P .any #[o0,o1,o2,o3] Q 1 #[true,true,true,false] ((a.put (some d0) (.agg z2)).put (some d1) (.agg z3)) (v.setRow C0 z2):=by
  refine wpAny_all r5 (by simp) fun i hi=>?_;obtain rfl:i=3:=by simpa using hi
  refine qer (o:=o3) rfl g3 (wp_store_row ty _ _ p3 C1 z3 e3 f3 u1 z5 ze i1 s1 c1 ?_);rw[q3];exact wpAny_done r6 hv 0
 have z7:wpAny P .any #[o0,o1,o2,o3] Q 2 #[true,true,false,false] ((a.put (some d0) (.agg z2)).put (some d1) (.agg z3)) v:=by
  refine wpAny_all r3 (by simp) fun i hi=>?_;obtain rfl:i=2:=by simpa using hi
  refine qer (o:=o2) rfl g2 (wp_store_row ty _ _ p2 C0 z2 za zb u0 z4 z0 i0 s0 c0 ?_);rw[q2];exact L3
 refine wpAny_all (fuel:=3) (listed:=#[false,false,false,false]) r0 (by simp) fun i hi=>?_;rcases (show i=0∨i=1 by simpa using hi)with rfl|rfl
 ·refine qer (o:=o0) rfl g0 (wp_load_row ty _ p0 B0 e0 t0 z2 (0,0) d w0 hu hd i0 ?_);rw[q0];refine wpAny_all (fuel:=2) (listed:=#[true,false,false,false]) r1 (by simp) fun i hi=>?_;rcases (show i=1∨i=2 by simpa using hi)with rfl|rfl
  ·refine qer (o:=o1) rfl g1 (wp_load_row ty _ p1 B1 z8 t1 z3 (0,0) d w1 hu hd i1 ?_);rw[q1];exact z7
  ·refine qer (o:=o2) rfl g2 (wp_store_row ty _ _ p2 C0 z2 e2 f2 u0 z4 z0 i0 s0 c0 ?_);rw[q2];refine wpAny_all (fuel:=1) (listed:=#[true,false,true,false]) r4 (by simp) fun i hi=>?_;obtain rfl:i=1:=by simpa using hi
   refine qer (o:=o1) rfl g1 (wp_load_row ty _ p1 B1 z8 t1 z3 (0,0) d zd hu hd i1 ?_);rw[q1];exact L3
 ·refine qer (o:=o1) rfl g1 (wp_load_row ty _ p1 B1 e1 t1 z3 (0,0) d w1 hu hd i1 ?_);rw[q1];refine wpAny_all (fuel:=2) (listed:=#[false,true,false,false]) r2 (by simp) fun i hi=>?_;obtain rfl:i=0:=by simpa using hi
  refine qer (o:=o0) rfl g0 (wp_load_row ty _ p0 B0 z9 t0 z2 (0,0) d w0 hu hd i0 ?_);rw[q0,z6];exact z7
section
variable {a : Act} {k : Nat} {v : Value} {x y z t u s : Nat × Value} {l : List (Nat × Value)}
theorem sd0(h:∀ p ∈ (k,v)::l,a.tmps.getD p.1 undef=p.2):a.tmps.getD k undef=v:=h _ (.head _)
theorem rd0(h:∀ p ∈ (k,v)::l,a.tmps.getD p.1 undef=p.2):a.tmps[k]?.getD undef=v:=by
 have:=sd0 h;rwa[getD_eq_getD_getElem?]at this
theorem up0(h:∀ p ∈ x :: l,a.tmps.getD p.1 undef=p.2):∀ p ∈ l,a.tmps.getD p.1 undef=p.2:=fun p hp=>h p (.tail _ hp)
theorem sd1(h:∀ p ∈ x :: (k,v)::l,a.tmps.getD p.1 undef=p.2):a.tmps.getD k undef=v:=sd0 (up0 h)
theorem rd1(h:∀ p ∈ x :: (k,v)::l,a.tmps.getD p.1 undef=p.2):a.tmps[k]?.getD undef=v:=rd0 (up0 h)
theorem sd2(h:∀ p ∈ x :: y :: (k,v)::l,a.tmps.getD p.1 undef=p.2):a.tmps.getD k undef=v:=sd1 (up0 h)
theorem rd2(h:∀ p ∈ x :: y :: (k,v)::l,a.tmps.getD p.1 undef=p.2):a.tmps[k]?.getD undef=v:=rd1 (up0 h)
theorem sd3(h:∀ p ∈ x :: y :: z :: (k,v)::l,a.tmps.getD p.1 undef=p.2):a.tmps.getD k undef=v:=sd2 (up0 h)
end
section
variable {w W W' : World} {g B : Nat} {o : Obj}
theorem bwt(hb:Below g w W)(H:Hid (W.heap[g]?=some o))(bk:Below W.heap.size W W'):Below g w W':=hb.trans (bk.mono (jll (qac H.out)))
theorem bws(hb:Below w.heap.size w W)(bk:Below W.heap.size W W'):Below w.heap.size w W':=hb.trans (bk.mono hb.size)
theorem hkp(H:Hid (W.heap[g]?=some o))(bk:Below W.heap.size W W'):Hid (W'.heap[g]?=some o):=Lib.hid (qap bk (qac H.out) H.out)
theorem hkq(H:Hid (W.heap[g]?=some o))(bk:Below W.heap.size W W'):W'.heap[g]?=some o:=qap bk (qac H.out) H.out
end
abbrev Rt(f:Nat)(a:Array Value)(w:World)(v:Value):Prop:=Calls Tryz.prog f a w fun e w'=>e=.returned v∧Below w.heap.size w w'
end
theorem zks.{u}:(∀{α:Type u}(n:Nat)(a:α)(l:List α),(a::l).take (n+1)=a::l.take n)∧(∀{α:Type u}(l:List α),l.take 0=[])∧(∀{α:Type u}(n:Nat)(a:α)(l:List α),(a::l).drop (n+1)=l.drop n)∧(∀{α:Type u}(l:List α),l.drop 0=l):=⟨fun _ _ _=>rfl,fun _=>rfl,fun _ _ _=>rfl,fun _=>rfl⟩
theorem zkt.{u}:(∀{α:Type u}(l:List α)(i:Nat)(a:α),l.toArray.setIfInBounds i a=(l.set i a).toArray)∧(∀{α:Type u}(l:List α)(a b:α)(n:Nat),(a::l).set (n+1) b=a::l.set n b)∧(∀{α:Type u}(l:List α)(a b:α),(a::l).set 0 b=b::l):=⟨fun _ _ _=>List.setIfInBounds_toArray ..,fun _ _ _ _=>rfl,fun _ _ _=>rfl⟩
end Go.Proofs.YteomfleofeeofaaGreatDoor
