/- A region that draws its order, whose head reads, calls, and makes memory, and of whose operations' values only so much is known (where they lie hangs on the order); and a tail in one forced order. One walk of the text's order serves every order: the values are variables; A part of a row of cells as a value of its own, whatever the cells: loaded, stored; As XTold, where 'x, e := f(..)' lays x in a block of its own: one operation of the head (the second component) may come before or behind the store; A region that draws its order, with a store in its midst: operations of fixed values, some ahead of the store and some behind it, then a tail in one forced order. One invariant of the world ahead of the store, one behind it. -/
import Derived.Test.YteomfleofeeofaaGreatDoorBase
namespace Go.Proofs.YteomfleofeeofaaGreatDoor
set_option maxRecDepth 100000
set_option linter.unusedSimpArgs false
set_option linter.unusedVariables false
section
open Go.RowKit Go.Sort
structure Told where
 T:World→Value→Prop
 keep:∀ w w' v,Below w.heap.size w w'→T w v→T w' v
def Told.val (v:Value):Told:=⟨fun _ u=>u=v,fun _ _ _ _ h=>h⟩
abbrev qba:=Told×List Nat
def qdb:List Oper→List qba→Nat→Option Told
 | o :: l,s :: S,k=>if o.dst=some k then some s.1 else qdb l S k
 | _,_,_=>none
def qe1 (l:List Oper) (S:List qba) (a0:Act) (k:Nat) (a:Act) (w:World):Prop:=
 match qdb l S k with
 | some t=>t.T w (a.tmps.getD k undef)
 | none=>a.tmps.getD k undef=a0.tmps.getD k undef
def qan (P:Program) (w:World) (t:Told):Result Next→Prop
 | .ok (.value u) w'=>Below w.heap.size w w'∧t.T w' u
 | .ok (.enter f args) w'=>w'=w∧Calls P f args w (fun e w''=>∃ v,e=.returned v∧t.T w'' v∧Below w.heap.size w w'')
 | _=>False
theorem qfj {P:Program} {o:Oper} {a:Act} {w:World} {t:Told} {K:Act→World→Prop} {Q:Exit→Act→World→Prop}
  (h:qan P w t ((execOp a.eval o).run P w)) (hK:∀ v w',Below w.heap.size w w'→t.T w' v→K (a.put o.dst v) w'):o.wp P a w K Q:=by
 unfold Oper.wp;generalize (execOp a.eval o).run P w=r at *
 cases r with
 | ok n w'=>
  cases n <;> simp only [qan] at h <;> simp only [Oper.upon]
  case value u=>exact hK _ _ h.1 h.2
  case enter f args=>
   obtain ⟨rfl,hc⟩:=h
   exact hc.mono fun e w'' ⟨v,he,hv,hw''⟩=>by subst he;exact hK _ _ hw'' hv
 | halt x w'=>simp only [qan] at h
section
variable {P : Program} {ops : Array Oper}
def toldOblOf (P:Program) (w0:World) (l0:List Oper) (S0:List qba) (a0:Act) (o:Oper) (s:qba):Prop:=
 ∀ (a:Act) (w:World),Below w0.heap.size w0 w→(∀ k ∈ s.2,qe1 l0 S0 a0 k a w)→qan P w s.1 ((execOp a.eval o).run P w)
def qaW (P:Program) (w0:World) (l0:List Oper) (S0:List qba) (a0:Act):List Oper→List qba→Prop
 | o :: l,s :: S=>toldOblOf P w0 l0 S0 a0 o s∧qaW P w0 l0 S0 a0 l S
 | [],[]=>True
 | _,_=>False
def qaX (P:Program) (ops:Array Oper) (Q:Exit→Act→World→Prop) (rest:List Oper) (w':World):List Oper→List qba→Act→Prop
 | o :: l,s :: S,a=>∀ u:Value,s.1.T w' u→qaX P ops Q rest w' l S (a.put o.dst u)
 | _,_,a=>wpList P ops Q rest a w'
theorem qfD {w0:World} {l0:List Oper} {S0:List qba} {a0:Act} : ∀ {l:List Oper} {S:List qba},qaW P w0 l0 S0 a0 l S→l.length=S.length∧∀ (i:Nat) (o:Oper) (s:qba),l[i]?=some o→S[i]?=some s→toldOblOf P w0 l0 S0 a0 o s
 | [],[],_=>⟨rfl,fun i o s h _=>by simp at h⟩
 | o :: l,s :: S,h=>by
  obtain ⟨h1,h2⟩:=h;obtain ⟨hl,hg⟩:=qfD h2
  refine ⟨by simp [hl],fun i o' s' ho hs=>?_⟩
  cases i with
  | zero=>simp at ho hs;subst ho hs;exact h1
  | succ i=>simp at ho hs;exact hg i o' s' ho hs
 | [],_ :: _,h=>h.elim
 | _ :: _,[],h=>h.elim
theorem qe2 {k:Nat} {t:Told} : ∀ {l:List Oper} {S:List qba},qdb l S k=some t→∃ (j:Nat) (o:Oper) (s:qba),l[j]?=some o∧S[j]?=some s∧o.dst=some k∧t=s.1
 | [],_,h=>by simp [qdb] at h
 | _ :: _,[],h=>by simp [qdb] at h
 | o :: l,s :: S,h=>by
  rw [qdb] at h
  by_cases hd:o.dst=some k
  ·rw [if_pos hd] at h
   exact ⟨0,o,s,by simp,by simp,hd,(Option.some.inj h).symm⟩
  ·rw [if_neg hd] at h
   obtain ⟨j,o',s',h1,h2,h3,h4⟩:=qe2 h
   exact ⟨j+1,o',s',by simpa using h1,by simpa using h2,h3,h4⟩
theorem qe3 {k:Nat} : ∀ {l:List Oper} {S:List qba},l.length=S.length→qdb l S k=none→∀ (j:Nat) (o:Oper),l[j]?=some o→o.dst≠some k
 | [],_,_,_,j,o,h=>by simp at h
 | _ :: _,[],hl,_,_,_,_=>by simp at hl
 | o :: l,s :: S,hl,h,j,o',ho=>by
  rw [qdb] at h
  by_cases hd:o.dst=some k
  ·rw [if_pos hd] at h;cases h
  ·rw [if_neg hd] at h
   cases j with
   | zero=>simp at ho;subst ho;exact hd
   | succ j=>simp at ho;exact qe3 (by simpa using hl) h j o' ho
theorem qfE {Q:Exit→Act→World→Prop} {rest:List Oper} {w':World} {vs:Nat→Value} :
  ∀ (l':List Oper) (S':List qba) (b:Act) (k:Nat),l'.length=S'.length→(∀ (i:Nat) (s:qba),S'[i]?=some s→s.1.T w' (vs (k+i)))→
  qaX P ops Q rest w' l' S' b→wpList P ops Q rest (qav b l' vs k) w'
 | [],[],b,k,_,_,h=>by rw [qav];exact h
 | o :: l',s :: S',b,k,hl,h1,h=>by
  have hs:=h1 0 s (by simp)
  rw [Nat.add_zero] at hs;rw [qav]
  exact qfE l' S' _ (k+1) (by simpa using hl) (fun i t ht=>by
   have:=h1 (i+1) t (by simpa using ht);rwa [show k+(i+1)=k+1+i by omega] at this) (h _ hs)
 | [],_ :: _,_,_,hl,_,_=>by simp at hl
 | _ :: _,[],_,_,hl,_,_=>by simp at hl
theorem qaC {id:Nat} {Q:Exit→Act→World→Prop} {a:Act} {w:World} {l:List Oper} (n m:Nat) (S:List qba) (hm:P.follows .mixedOrders=true)
  (hB:freshB l.toArray n m (S.map fun _=>false) (S.map fun s=>s.2)=true) (hsz:a.tmps.size=m)
  (hob:qaW P w (l.take n) S a (l.take n) S) (hend:∀ w',Below w.heap.size w w'→qaX P l.toArray Q (l.drop n) w' (l.take n) S a):(Code.region id l.toArray true).wp P Q a w:=by
 have hB0:=hB;unfold freshB at hB0
 simp only [Bool.and_eq_true,decide_eq_true_eq] at hB0
 obtain ⟨⟨⟨⟨⟨⟨hn,_⟩,_⟩,hops⟩,hrds⟩,hlen⟩,_⟩:=hB0
 have hn':n<l.length:=by simpa using hn
 have htl:(l.take n).length=n:=by simp;omega
 obtain ⟨hSl0,hget⟩:=qfD hob;have hSl:=hSl0;rw [htl] at hSl
 have hopi:∀ i,i<n→∃ o d,l.toArray[i]?=some o∧o.guard=none∧o.dst=some d∧qbs l.toArray i=some d∧d<a.tmps.size∧∀ j,j<n→j≠i→qbs l.toArray j≠some d:=fun i hi=>by
  have hop:=List.all_eq_true.1 hops i (List.mem_range.2 hi);unfold qed at hop
  have hio:l.toArray[i]?=some l.toArray[i]:=Array.getElem?_eq_getElem (by simpa using Nat.lt_trans hi hn')
  rw [hio] at hop
  simp only [Bool.and_eq_true] at hop
  obtain ⟨⟨hg,_⟩,hd⟩:=hop
  cases hdd:l.toArray[i].dst with
  | none=>rw [hdd] at hd;cases hd
  | some d=>
   rw [hdd] at hd
   simp only [Bool.and_eq_true,decide_eq_true_eq] at hd
   refine ⟨_,d,hio,by simpa using hg,hdd,by rw [qbs,hio];exact hdd,by rw [hsz];exact hd.1,fun j hj hji e=>?_⟩
   have:=List.all_eq_true.1 hd.2 j (List.mem_range.2 hj)
   simp only [Bool.or_eq_true,beq_iff_eq,bne_iff_ne] at this
   rcases this with h | h
   ·exact hji h
   ·exact h e
 have hfr0:FrameIs l.toArray n a (fun _=>undef) (Array.replicate l.toArray.size false) a:=⟨rfl,rfl,fun j d _ h _=>(by rw [Go.getD_replicate_false] at h;cases h),fun _ _=>rfl⟩
 refine wp_region_inv n m _ _ hm hB (fun listed a' w'=>listed.size=l.toArray.size∧∃ vs:Nat→Value,FrameIs l.toArray n a vs listed a'∧Below w.heap.size w w'∧
   (∀ (i:Nat) (s:qba),i<n→listed.getD i false=true→S[i]?=some s→s.1.T w' (vs i))) ?_ ?_ ?_
 ·exact ⟨by simp,fun _=>undef,hfr0,⟨rfl,rfl,rfl,Nat.le_refl _,fun _ _=>rfl⟩,fun i s _ h=>(by rw [Go.getD_replicate_false] at h;cases h)⟩
 ·intro i hi listed a' w' hr inv hJ
  obtain ⟨hls,vs,hf,hb,hsp⟩:=hJ;obtain ⟨o,d,ho,hg,hod,hd,hdm,hne⟩:=hopi i hi;have hu:listed.getD i false=false:=Go.getD_both (mem_ready.1 hr).1
  have hil:i<listed.size:=by rw [hls];omega
  obtain ⟨s,hs⟩:∃ s,S[i]?=some s:=⟨S[i]'(by omega),List.getElem?_eq_getElem (by omega)⟩
  have hobl:=hget i o s (by simpa [List.getElem?_take,hi] using ho) hs
  have hwaits:∀ j,j<n→Region.waitsFor .any l.toArray i j=true→listed.getD j false=true:=fun j hj hw1=>by
   obtain ⟨oj,hoj,e,he,hbi,heq⟩:=Region.waitsFor_spec hw1;rw [ho] at hoj;cases hoj;obtain ⟨_,o2,ho2,hall⟩:=mem_ready.1 hr;rw [ho] at ho2;cases ho2;rw [← heq];exact hall e he hbi
  have hreads:∀ k ∈ s.2,qe1 (l.take n) S a k a' w':=fun k hk=>by
   have hR:=List.all_eq_true.1 hrds i (List.mem_range.2 hi);unfold qdu at hR
   have hki:k ∈ (S.map fun s=>s.2).getD i []:=by
    simp only [List.getD_eq_getElem?_getD,List.getElem?_map,hs,Option.map_some,Option.getD_some]
    exact hk
   have hR2:=List.all_eq_true.1 hR k hki;unfold qe1
   cases hgt:qdb (l.take n) S k with
   | none=>
    simp only
    exact hf.old k fun j hj _ e=>by
     obtain ⟨oj,dj,hoj,_,_,hdj,_,_⟩:=hopi j hj
     refine qe3 hSl0 hgt j oj (by simpa [List.getElem?_take,hj] using hoj) ?_
     rw [qbs,hoj] at e;exact e
   | some t=>
    simp only
    obtain ⟨j,oj,sj,h1,h2,h3,rfl⟩:=qe2 hgt
    have hj:j<n:=by have:=(List.getElem?_eq_some_iff.1 h1).1;omega
    have hoj:l.toArray[j]?=some oj:=by simpa [List.getElem?_take,hj] using h1
    have hdj:qbs l.toArray j=some k:=by rw [qbs,hoj];exact h3
    have hR3:=List.all_eq_true.1 hR2 j (List.mem_range.2 hj)
    simp only [hdj,bne_self_eq_false,Bool.false_or,Bool.and_eq_true] at hR3
    have hlj:=hwaits j hj hR3.1;rw [hf.put j k hj hlj hdj];exact hsp j sj hj hlj h2
  unfold wpOp
  simp only [ho]
  have hw:Region.wanted o (yielded l.toArray a'.tmps)=true:=by simp [Region.wanted,hg]
  rw [if_pos hw]
  refine .inl ?_
  refine qfj (hobl a' w' hb hreads) fun v w'' hb2 hv=>?_
  rw [hod]
  refine ⟨by simpa using hls,_,hf.step hi hil hu hd hdm hne v,hb.trans (hb2.mono hb.size),fun j t hj hlj ht=>?_⟩
  by_cases hji:j=i
  ·subst hji;rw [hs] at ht;cases ht;simp only [if_pos];exact hv
  ·simp only [if_neg hji]
   rw [qa5 _ _ _ (Ne.symm hji)] at hlj;exact t.1.keep _ _ _ hb2 (hsp j t hj hlj ht)
 ·intro listed a' w' hall hJ
  obtain ⟨hls,vs,hf,hb,hsp⟩:=hJ
  have hfr1:FrameIs l.toArray n a vs (Array.replicate l.toArray.size false) a:=⟨rfl,rfl,fun j d _ h _=>(by rw [Go.getD_replicate_false] at h;cases h),fun _ _=>rfl⟩
  obtain ⟨lV,hlV,hV⟩:=qdv (ops:=l.toArray) (n:=n) (a0:=a) (vs:=vs) (fun i hi=>by obtain ⟨o,d,_,_,_,h1,h2,h3⟩:=hopi i hi;exact ⟨d,h1,h2,h3⟩)
   (l.take n) 0 (Array.replicate l.toArray.size false) a (by omega) (fun j hj=>by rw [htl] at hj;simp [List.getElem?_take,hj]) (by simp;omega) (fun i hi=>by rw [Go.getD_replicate_false];simp) hfr1
  rw [hf.eq hV hall hlV]
  have hin:∀ (i:Nat) (s:qba),S[i]?=some s→i<n:=fun i s h=>by have:=(List.getElem?_eq_some_iff.1 h).1;omega
  exact qfE (l.take n) S a 0 hSl0 (fun i s hs=>by rw [Nat.zero_add];exact hsp i s (hin i s hs) (hall i (hin i s hs)) hs) (hend w' hb)
theorem qfk {id:Nat} {Q:Exit→Act→World→Prop} {a:Act} {w:World} {l:List Oper} (n:Nat) (hm:P.follows .mixedOrders=true) (hn':n<l.length) (hs:Region.sinkB .any l.toArray n=true) (hc:Region.chainB .any l.toArray n=true)
  (hops:∀ i,i<n→∀ o,l.toArray[i]?=some o→o.after.all (fun e=>!Region.binds .any e || decide (e.on<i))=true)
  (hseq:Region.seqB .any l.toArray (l.toArray.size-n) n (Array.replicate n true++Array.replicate (l.toArray.size-n) false)=true)
  (J:Array Bool→Act→World→Prop) (h0:J (Array.replicate l.toArray.size false) a { w with drawn:=w.drawn+1 })
  (hstep:∀ i,i<n→∀ listed a' w',i ∈ Region.ready .any l.toArray listed→HeadInv .any l.toArray n listed→J listed a' w'→wpOp P l.toArray Q i (J (listed.setIfInBounds i true)) a' w')
  (hend:∀ listed a' w',(∀ i,i<n→listed.getD i false=true)→J listed a' w'→wpList P l.toArray Q (l.drop n) a' w'):(Code.region id l.toArray true).wp P Q a w:=by
 have hn:n<l.toArray.size:=by simpa using hn'
 refine wp_region_any hm ?_
 have main:∀ (f:Nat) (listed:Array Bool) (a':Act) (w':World),qb9 listed n=f→HeadInv .any l.toArray n listed→J listed a' w'→wpAny P .any l.toArray Q (f+(l.toArray.size-n)) listed a' w':=by
  intro f
  induction f with
  | zero=>
   intro listed a' w' hf inv hJ;have hall:=qfB _ _ hf
   have hl:listed=Array.replicate n true++Array.replicate (l.toArray.size-n) false:=by
    apply Array.ext
    ·simp [inv.size];omega
    ·intro i h1 h2
     by_cases hi:i<n
     ·have:=hall i hi
      simp [Array.getD_eq_getD_getElem?,h1] at this
      rw [this,Array.getElem_append_left (by simpa using hi)];simp
     ·have:=inv.tail i (by omega) (by rw [← inv.size];exact h1)
      simp [Array.getD_eq_getD_getElem?,h1] at this
      rw [this,Array.getElem_append_right (by simp;omega)];simp
   have hdl:(l.drop n).length=l.toArray.size-n:=by simp
   have:=wpAny_of_seq (md:=.any) (Q':=Q) (l.drop n) n listed a' w' (fun j=>by simp [List.getElem?_drop]) (by rw [hdl,hl];exact hseq) (hend listed a' w' hall hJ)
   rw [hdl] at this;rwa [Nat.zero_add]
  | succ f ih=>
   intro listed a' w' hf inv hJ;obtain ⟨i,hi,hun,hall⟩:=toCome_pos _ _ _ hf
   have hil:i<listed.size:=by rw [inv.size];omega
   have hunt:listed.getD i true=false:=Go.getD_in hil hun
   have hready:i ∈ Region.ready .any l.toArray listed:=by
    rw [mem_ready]
    have hio:l.toArray[i]?=some l.toArray[i]:=Array.getElem?_eq_getElem (by simpa using Nat.lt_trans hi hn')
    refine ⟨hunt,_,hio,fun e he hb=>?_⟩
    have:=Array.all_eq_true'.1 (hops i hi _ hio) e he
    simp only [hb,Bool.not_true,Bool.false_or,decide_eq_true_eq] at this
    exact hall _ this
   rw [show f+1+(l.toArray.size-n)=(f+(l.toArray.size-n))+1 by omega]
   refine ⟨fun h=>(by rw [h] at hready;cases hready),fun j hj=>?_⟩
   have hjn:j<n:=Nat.lt_of_not_le fun h=>absurd hj (tail_waits hs hc hn inv _ i rfl hi hunt j h)
   have hjl:j<listed.size:=by rw [inv.size];omega
   have hju:listed.getD j false=false:=Go.getD_both (mem_ready.1 hj).1
   refine wpOp_mono (fun a'' w'' h=>ih _ a'' w'' ?_ (inv.set hj hjn) h) (hstep j hjn listed a' w' hj inv hJ)
   have:=toCome_set listed n j hjn hjl hju
   omega
 have hf0:qb9 (Array.replicate l.toArray.size false) n=n:=by
  unfold qb9
  have:(List.range n).filter (fun i=>!(Array.replicate l.toArray.size false).getD i false)=List.range n:=by
   rw [List.filter_eq_self];intro i _;rw [Go.getD_replicate_false];rfl
  rw [this,List.length_range]
 have inv0:HeadInv .any l.toArray n (Array.replicate l.toArray.size false):=
  ⟨by simp,fun j oj _ hl=>(by rw [Go.getD_replicate_false] at hl;cases hl),fun t _ ht=>Go.getD_in (by simpa using ht) (Go.getD_replicate_false _ _)⟩
 have:=main n _ a _ hf0 inv0 h0
 rwa [show n+(l.toArray.size-n)=l.toArray.size by omega] at this
def toldOpB (ops:Array Oper) (n m i:Nat):Bool:=
 match ops[i]? with
 | some o=>(match o.guard with
  | none=>true
  | some g=>decide (g.1<n)&&Region.waitsFor .any ops i g.1)&&o.after.all (fun e=>!Region.binds .any e || decide (e.on<i))&&(match o.dst with
  | some d=>decide (d<m)&&(List.range n).all fun j=>j==i || qbs ops j != some d
  | none=>false)
 | none=>false
def toldB (ops:Array Oper) (n m:Nat) (rds:List (List Nat)):Bool:=
 decide (n<ops.size)&&Region.sinkB .any ops n&&Region.chainB .any ops n&&(List.range n).all (toldOpB ops n m)&&(List.range n).all (fun i=>qdu ops n i (List.replicate n false) (rds.getD i []))&&decide (rds.length=n) &&
 Region.seqB .any ops (ops.size-n) n (Array.replicate n true++Array.replicate (ops.size-n) false)
def qcY (S:List qba):List Oper→Prop
 | []=>True
 | o :: l=>(match o.guard with
  | none=>True
  | some g=>match S[g.1]? with
   | some s=>∀ w v,s.1.T w v→v=.bool g.2
   | none=>True)∧qcY S l
theorem qfP {S:List qba} : ∀ {l:List Oper},qcY S l→∀ (i:Nat) (o:Oper),l[i]?=some o→∀ (j:Nat) (b:Bool),o.guard=some (j,b)→∀ t,S[j]?=some t→∀ w v,t.1.T w v→v=.bool b
 | [],_,i,o,h=>by simp at h
 | o :: l,h,i,o',ho=>by
  intro j b hg t ht w v hv
  cases i with
  | zero=>
   simp at ho;subst ho
   have h1:=h.1
   simp only [hg,ht] at h1
   exact h1 w v hv
  | succ i=>exact qfP h.2 i o' (by simpa using ho) j b hg t ht w v hv
theorem qde {id:Nat} {Q:Exit→Act→World→Prop} {a:Act} {w:World} {l:List Oper} (n m:Nat) (S:List qba) (hm:P.follows .mixedOrders=true)
  (hB:toldB l.toArray n m (S.map fun s=>s.2)=true) (hsz:a.tmps.size=m) (hgd:qcY S (l.take n))
  (hob:qaW P w (l.take n) S a (l.take n) S) (hend:∀ w',Below w.heap.size w w'→qaX P l.toArray Q (l.drop n) w' (l.take n) S a):(Code.region id l.toArray true).wp P Q a w:=by
 have hB0:=hB;unfold toldB at hB0
 simp only [Bool.and_eq_true,decide_eq_true_eq] at hB0
 obtain ⟨⟨⟨⟨⟨⟨hn,hsk⟩,hch⟩,hops⟩,hrds⟩,hlen⟩,hsq⟩:=hB0
 have hn':n<l.length:=by simpa using hn
 have htl:(l.take n).length=n:=by simp;omega
 obtain ⟨hSl0,hget⟩:=qfD hob;have hSl:=hSl0;rw [htl] at hSl
 have hopi:∀ i,i<n→∃ o d,l.toArray[i]?=some o∧(∀ g,o.guard=some g→g.1<n∧Region.waitsFor .any l.toArray i g.1=true)∧o.dst=some d∧qbs l.toArray i=some d∧d<a.tmps.size∧∀ j,j<n→j≠i→qbs l.toArray j≠some d:=fun i hi=>by
  have hop:=List.all_eq_true.1 hops i (List.mem_range.2 hi);unfold toldOpB at hop
  have hio:l.toArray[i]?=some l.toArray[i]:=Array.getElem?_eq_getElem (by simpa using Nat.lt_trans hi hn')
  rw [hio] at hop
  simp only [Bool.and_eq_true] at hop
  obtain ⟨⟨hg,_⟩,hd⟩:=hop
  cases hdd:l.toArray[i].dst with
  | none=>rw [hdd] at hd;cases hd
  | some d=>
   rw [hdd] at hd
   simp only [Bool.and_eq_true,decide_eq_true_eq] at hd
   refine ⟨_,d,hio,fun g hgg=>(by rw [hgg] at hg;simpa using hg),hdd,by rw [qbs,hio];exact hdd,by rw [hsz];exact hd.1,fun j hj hji e=>?_⟩
   have:=List.all_eq_true.1 hd.2 j (List.mem_range.2 hj)
   simp only [Bool.or_eq_true,beq_iff_eq,bne_iff_ne] at this
   rcases this with h | h
   ·exact hji h
   ·exact h e
 have hfr0:FrameIs l.toArray n a (fun _=>undef) (Array.replicate l.toArray.size false) a:=⟨rfl,rfl,fun j d _ h _=>(by rw [Go.getD_replicate_false] at h;cases h),fun _ _=>rfl⟩
 refine qfk n hm hn' hsk hch (fun i hi o ho=>(by
   have hop:=List.all_eq_true.1 hops i (List.mem_range.2 hi);unfold toldOpB at hop;rw [ho] at hop
   simp only [Bool.and_eq_true] at hop
   exact hop.1.2)) hsq (fun listed a' w'=>listed.size=l.toArray.size∧∃ vs:Nat→Value,FrameIs l.toArray n a vs listed a'∧Below w.heap.size w w'∧
   (∀ (i:Nat) (s:qba),i<n→listed.getD i false=true→S[i]?=some s→s.1.T w' (vs i))) ?_ ?_ ?_
 ·exact ⟨by simp,fun _=>undef,hfr0,⟨rfl,rfl,rfl,Nat.le_refl _,fun _ _=>rfl⟩,fun i s _ h=>(by rw [Go.getD_replicate_false] at h;cases h)⟩
 ·intro i hi listed a' w' hr inv hJ
  obtain ⟨hls,vs,hf,hb,hsp⟩:=hJ;obtain ⟨o,d,ho,hg,hod,hd,hdm,hne⟩:=hopi i hi;have hu:listed.getD i false=false:=Go.getD_both (mem_ready.1 hr).1
  have hil:i<listed.size:=by rw [hls];omega
  obtain ⟨s,hs⟩:∃ s,S[i]?=some s:=⟨S[i]'(by omega),List.getElem?_eq_getElem (by omega)⟩
  have hobl:=hget i o s (by simpa [List.getElem?_take,hi] using ho) hs
  have hwaits:∀ j,j<n→Region.waitsFor .any l.toArray i j=true→listed.getD j false=true:=fun j hj hw1=>by
   obtain ⟨oj,hoj,e,he,hbi,heq⟩:=Region.waitsFor_spec hw1;rw [ho] at hoj;cases hoj;obtain ⟨_,o2,ho2,hall⟩:=mem_ready.1 hr;rw [ho] at ho2;cases ho2;rw [← heq];exact hall e he hbi
  have hreads:∀ k ∈ s.2,qe1 (l.take n) S a k a' w':=fun k hk=>by
   have hR:=List.all_eq_true.1 hrds i (List.mem_range.2 hi);unfold qdu at hR
   have hki:k ∈ (S.map fun s=>s.2).getD i []:=by
    simp only [List.getD_eq_getElem?_getD,List.getElem?_map,hs,Option.map_some,Option.getD_some]
    exact hk
   have hR2:=List.all_eq_true.1 hR k hki;unfold qe1
   cases hgt:qdb (l.take n) S k with
   | none=>
    simp only
    exact hf.old k fun j hj _ e=>by
     obtain ⟨oj,dj,hoj,_,_,hdj,_,_⟩:=hopi j hj
     refine qe3 hSl0 hgt j oj (by simpa [List.getElem?_take,hj] using hoj) ?_
     rw [qbs,hoj] at e;exact e
   | some t=>
    simp only
    obtain ⟨j,oj,sj,h1,h2,h3,rfl⟩:=qe2 hgt
    have hj:j<n:=by have:=(List.getElem?_eq_some_iff.1 h1).1;omega
    have hoj:l.toArray[j]?=some oj:=by simpa [List.getElem?_take,hj] using h1
    have hdj:qbs l.toArray j=some k:=by rw [qbs,hoj];exact h3
    have hR3:=List.all_eq_true.1 hR2 j (List.mem_range.2 hj)
    simp only [hdj,bne_self_eq_false,Bool.false_or,Bool.and_eq_true] at hR3
    have hlj:=hwaits j hj hR3.1;rw [hf.put j k hj hlj hdj];exact hsp j sj hj hlj h2
  unfold wpOp
  simp only [ho]
  have hw:Region.wanted o (yielded l.toArray a'.tmps)=true:=by
   unfold Region.wanted
   cases hgg:o.guard with
   | none=>rfl
   | some jb=>
    obtain ⟨j,b⟩:=jb;obtain ⟨hj,hw1⟩:=hg _ hgg;have hlj:=hwaits j hj hw1
    obtain ⟨t,ht⟩:∃ t,S[j]?=some t:=⟨S[j]'(by omega),List.getElem?_eq_getElem (by omega)⟩
    obtain ⟨oj,dj,hoj,_,hodj,hdj,hdjm,_⟩:=hopi j hj
    have hv:=qfP hgd i o (by simpa [List.getElem?_take,hi] using ho) j b hgg t ht w' (vs j) (hsp j t hj hlj ht)
    have hp:=hf.put j dj hj hlj hdj;rw [hv] at hp
    have hsz2:dj<a'.tmps.size:=by rw [hf.size];exact hdjm
    have:yielded l.toArray a'.tmps j=some b:=by
     unfold yielded;rw [hoj]
     simp only [Option.bind_some,hodj]
     rw [Array.getD_eq_getD_getElem?,Array.getElem?_eq_getElem hsz2,Option.getD_some] at hp;rw [Array.getElem?_eq_getElem hsz2,hp]
    simp [this]
  rw [if_pos hw]
  refine .inl ?_
  refine qfj (hobl a' w' hb hreads) fun v w'' hb2 hv=>?_
  rw [hod]
  refine ⟨by simpa using hls,_,hf.step hi hil hu hd hdm hne v,hb.trans (hb2.mono hb.size),fun j t hj hlj ht=>?_⟩
  by_cases hji:j=i
  ·subst hji;rw [hs] at ht;cases ht;simp only [if_pos];exact hv
  ·simp only [if_neg hji]
   rw [qa5 _ _ _ (Ne.symm hji)] at hlj;exact t.1.keep _ _ _ hb2 (hsp j t hj hlj ht)
 ·intro listed a' w' hall hJ
  obtain ⟨hls,vs,hf,hb,hsp⟩:=hJ
  have hfr1:FrameIs l.toArray n a vs (Array.replicate l.toArray.size false) a:=⟨rfl,rfl,fun j d _ h _=>(by rw [Go.getD_replicate_false] at h;cases h),fun _ _=>rfl⟩
  obtain ⟨lV,hlV,hV⟩:=qdv (ops:=l.toArray) (n:=n) (a0:=a) (vs:=vs) (fun i hi=>by obtain ⟨o,d,_,_,_,h1,h2,h3⟩:=hopi i hi;exact ⟨d,h1,h2,h3⟩)
   (l.take n) 0 (Array.replicate l.toArray.size false) a (by omega) (fun j hj=>by rw [htl] at hj;simp [List.getElem?_take,hj]) (by simp;omega) (fun i hi=>by rw [Go.getD_replicate_false];simp) hfr1
  rw [hf.eq hV hall hlV]
  have hin:∀ (i:Nat) (s:qba),S[i]?=some s→i<n:=fun i s h=>by have:=(List.getElem?_eq_some_iff.1 h).1;omega
  exact qfE (l.take n) S a 0 hSl0 (fun i s hs=>by rw [Nat.zero_add];exact hsp i s (hin i s hs) (hall i (hin i s hs)) hs) (hend w' hb)
end
end
section
open Go.RowKit Go.Sort
end
section
open Go.RowKit Go.Sort
section
variable {P : Program} {ops : Array Oper}
end
end
section
open Go.RowKit Go.Sort
section
variable {P : Program} {ops : Array Oper}
def storedB (ops:Array Oper) (n m:Nat) (rds:List (List Nat)) (srd:List Nat):Bool:=
 decide (n+1<ops.size)&&Region.sinkB .any ops (n+1)&&Region.chainB .any ops (n+1)&&(List.range n).all (qed ops n m)&&(List.range n).all (fun i=>qdu ops n i (List.replicate n false) (rds.getD i []))&&qdu ops n n (List.replicate n false) srd&&decide (rds.length=n) &&
 (match ops[n]? with
  | some o=>o.guard.isNone&&o.dst.isNone&&o.after.all (fun x=>!Region.binds .any x || decide (x.on<n))
  | none=>false) &&
 Region.seqB .any ops (ops.size-(n+1)) (n+1) (Array.replicate (n+1) true++Array.replicate (ops.size-(n+1)) false)
def qfl (P:Program) (K:World→Prop):List Oper→List HeadSpec→Prop
 | o :: l,s :: S=>(∀ (a:Act) (w:World),K w→(∀ p ∈ s.rd,a.tmps.getD p.1 undef=p.2)→qac P w s.v ((execOp a.eval o).run P w))∧qfl P K l S
 | [],[]=>True
 | _,_=>False
theorem storedObl_get {K:World→Prop} : ∀ {l:List Oper} {S:List HeadSpec},qfl P K l S→l.length=S.length∧∀ (i:Nat) (o:Oper) (s:HeadSpec),l[i]?=some o→S[i]?=some s→
  ∀ (a:Act) (w:World),K w→(∀ p ∈ s.rd,a.tmps.getD p.1 undef=p.2)→qac P w s.v ((execOp a.eval o).run P w)
 | [],[],_=>⟨rfl,fun i o s h _=>by simp at h⟩
 | o :: l,s :: S,h=>by
  obtain ⟨h1,h2⟩:=h;obtain ⟨hl,hg⟩:=storedObl_get h2
  refine ⟨by simp [hl],fun i o' s' ho hs=>?_⟩
  cases i with
  | zero=>simp at ho hs;subst ho hs;exact h1
  | succ i=>simp at ho hs;exact hg i o' s' ho hs
 | [],_ :: _,h=>h.elim
 | _ :: _,[],h=>h.elim
theorem wp_region_stored {id:Nat} {Q:Exit→Act→World→Prop} {a:Act} {w:World} {l:List Oper} (n m:Nat) (S:List HeadSpec) (srd:List (Nat×Value)) (K0 K1:World→Prop) (so:Oper) (hso:l[n]?=some so) (hm:P.follows .mixedOrders=true)
  (hB:storedB l.toArray n m (S.map fun s=>s.rd.map (·.1)) (srd.map (·.1))=true) (hsz:a.tmps.size=m)
  (h0:K0 { w with drawn:=w.drawn+1 }) (k0:∀ w1 w2,K0 w1→Below w1.heap.size w1 w2→K0 w2) (k1:∀ w1 w2,K1 w1→Below w1.heap.size w1 w2→K1 w2)
  (hob:qfl P (fun w'=>K0 w'∨K1 w') (l.take n) S)
  (hst:∀ (a':Act) (w':World),K0 w'→(∀ p ∈ srd,a'.tmps.getD p.1 undef=p.2)→∃ w2,(execOp a'.eval so).run P w'=.ok .skip w2∧K1 w2)
  (hrd:qau (qav a (l.take n) (qaJ S) 0) S) (hsr:∀ p ∈ srd,(qav a (l.take n) (qaJ S) 0).tmps.getD p.1 undef=p.2)
  (hend:∀ w',K1 w'→wpList P l.toArray Q (l.drop (n+1)) (qav a (l.take n) (qaJ S) 0) w'):(Code.region id l.toArray true).wp P Q a w:=by
 have hB0:=hB;unfold storedB at hB0
 simp only [Bool.and_eq_true,decide_eq_true_eq] at hB0
 obtain ⟨⟨⟨⟨⟨⟨⟨⟨hn,hsk⟩,hch⟩,hops⟩,hrds⟩,hsrd⟩,hlen⟩,hst0⟩,hsq⟩:=hB0
 have hn':n+1<l.length:=by simpa using hn
 have hsoA:l.toArray[n]?=some so:=by simpa using hso
 rw [hsoA] at hst0
 simp only [Bool.and_eq_true,Option.isNone_iff_eq_none] at hst0
 obtain ⟨⟨hsg,hsd⟩,hsaft⟩:=hst0
 have htl:(l.take n).length=n:=by simp;omega
 obtain ⟨hSl,hget⟩:=storedObl_get hob;rw [htl] at hSl
 have hopi:∀ i,i<n→∃ o d,l.toArray[i]?=some o∧o.guard=none∧o.dst=some d∧qbs l.toArray i=some d∧d<a.tmps.size∧∀ j,j<n→j≠i→qbs l.toArray j≠some d:=fun i hi=>by
  have hop:=List.all_eq_true.1 hops i (List.mem_range.2 hi);unfold qed at hop
  have hio:l.toArray[i]?=some l.toArray[i]:=Array.getElem?_eq_getElem (by simp;omega)
  rw [hio] at hop
  simp only [Bool.and_eq_true] at hop
  obtain ⟨⟨hg,_⟩,hd⟩:=hop
  cases hdd:l.toArray[i].dst with
  | none=>rw [hdd] at hd;cases hd
  | some d=>
   rw [hdd] at hd
   simp only [Bool.and_eq_true,decide_eq_true_eq] at hd
   refine ⟨_,d,hio,by simpa using hg,hdd,by rw [qbs,hio];exact hdd,by rw [hsz];exact hd.1,fun j hj hji e=>?_⟩
   have:=List.all_eq_true.1 hd.2 j (List.mem_range.2 hj)
   simp only [Bool.or_eq_true,beq_iff_eq,bne_iff_ne] at this
   rcases this with h | h
   ·exact hji h
   ·exact h e
 have hfr0:FrameIs l.toArray n a (qaJ S) (Array.replicate l.toArray.size false) a:=⟨rfl,rfl,fun j d _ h _=>(by rw [Go.getD_replicate_false] at h;cases h),fun _ _=>rfl⟩
 obtain ⟨lF,hlF,hF⟩:=qdv (ops:=l.toArray) (n:=n) (a0:=a) (vs:=qaJ S) (fun i hi=>by obtain ⟨o,d,_,_,_,h1,h2,h3⟩:=hopi i hi;exact ⟨d,h1,h2,h3⟩)
  (l.take n) 0 (Array.replicate l.toArray.size false) a (by omega) (fun j hj=>by rw [htl] at hj;simp [List.getElem?_take,hj]) (by simp;omega) (fun i hi=>by rw [Go.getD_replicate_false];simp) hfr0
 -- what an operation reads
 have hread:∀ (i:Nat) (rd:List (Nat×Value)) (listed:Array Bool) (a':Act),qdu l.toArray n i (List.replicate n false) (rd.map (·.1))=true→i ∈ Region.ready .any l.toArray listed→FrameIs l.toArray n a (qaJ S) listed a'→
   ∀ p ∈ rd,a'.tmps.getD p.1 undef=(qav a (l.take n) (qaJ S) 0).tmps.getD p.1 undef:=fun i rd listed a' hR hr hf p hp=>by
  unfold qdu at hR;have hR2:=List.all_eq_true.1 hR p.1 (List.mem_map.2 ⟨p,hp,rfl⟩)
  by_cases hx:∃ j,j<n∧qbs l.toArray j=some p.1
  ·obtain ⟨j,hj,hdj⟩:=hx
   have hR3:=List.all_eq_true.1 hR2 j (List.mem_range.2 hj)
   simp only [hdj,bne_self_eq_false,Bool.false_or,Bool.and_eq_true] at hR3
   obtain ⟨oj,hoj,e,he,hbi,heq⟩:=Region.waitsFor_spec hR3.1
   have hlj:listed.getD j false=true:=by
    obtain ⟨_,o2,ho2,hall⟩:=mem_ready.1 hr;rw [hoj] at ho2;cases ho2;rw [← heq];exact hall e he hbi
   rw [hf.put j p.1 hj hlj hdj,hF.put j p.1 hj (hlF j hj) hdj]
  ·rw [hf.old p.1 fun j hj _ e=>hx ⟨j,hj,e⟩,hF.old p.1 fun j hj _ e=>hx ⟨j,hj,e⟩]
 refine qfk (n+1) hm hn' hsk hch (fun i hi o ho=>(by
   by_cases hin:i=n
   ·subst hin;rw [hsoA] at ho;cases ho;exact hsaft
   ·have hop:=List.all_eq_true.1 hops i (List.mem_range.2 (by omega))
    unfold qed at hop;rw [ho] at hop
    simp only [Bool.and_eq_true] at hop
    exact hop.1.2)) hsq (fun listed a' w'=>listed.size=l.toArray.size∧FrameIs l.toArray n a (qaJ S) listed a'∧(listed.getD n false=false→K0 w')∧(listed.getD n false=true→K1 w')) ?_ ?_ ?_
 ·exact ⟨by simp,hfr0,fun _=>h0,fun h=>(by rw [Go.getD_replicate_false] at h;cases h)⟩
 ·intro i hi listed a' w' hr inv hJ
  obtain ⟨hls,hf,hA,hK⟩:=hJ
  have hil:i<listed.size:=by rw [hls];omega
  have hu:listed.getD i false=false:=Go.getD_both (mem_ready.1 hr).1
  by_cases hin:i=n
  ·subst hin
   obtain ⟨w2,hrun,hk1⟩:=hst a' w' (hA hu) (fun p hp=>(hread i srd listed a' hsrd hr hf p hp).trans (hsr p hp))
   unfold wpOp
   simp only [hsoA]
   have hw:Region.wanted so (yielded l.toArray a'.tmps)=true:=by simp [Region.wanted,hsg]
   rw [if_pos hw]
   refine .inl ?_
   unfold Oper.wp;rw [hrun]
   simp only [Oper.upon]
   rw [hsd]
   have hli:∀ j,j<i→(listed.setIfInBounds i true).getD j false=listed.getD j false:=fun j hj=>qa5 _ _ _ (by omega) _
   exact ⟨by simpa using hls,⟨hf.defers,hf.size,fun j d hj hlj hdj=>hf.put j d hj (by rw [← hli j hj];exact hlj) hdj,fun d hno=>hf.old d fun j hj hlj=>hno j hj (by rw [hli j hj];exact hlj)⟩,
    fun h=>(by rw [qdH _ _ hil] at h;cases h),fun _=>hk1⟩
  ·have hi':i<n:=by omega
   obtain ⟨o,d,ho,hg,hod,hd,hdm,hne⟩:=hopi i hi'
   obtain ⟨s,hs⟩:∃ s,S[i]?=some s:=⟨S[i]'(by omega),List.getElem?_eq_getElem (by omega)⟩
   have hK01:K0 w'∨K1 w':=by
    cases hln:listed.getD n false with
    | false=>exact .inl (hA hln)
    | true=>exact .inr (hK hln)
   have hR:=List.all_eq_true.1 hrds i (List.mem_range.2 hi')
   rw [show (S.map fun s=>s.rd.map (·.1)).getD i []=s.rd.map (·.1) by simp [List.getD_eq_getElem?_getD,hs]] at hR
   have hobl:=hget i o s (by simpa [List.getElem?_take,hi'] using ho) hs a' w' hK01 (fun p hp=>(hread i s.rd listed a' hR hr hf p hp).trans (qeK hrd i s hs p hp))
   unfold wpOp
   simp only [ho]
   have hw:Region.wanted o (yielded l.toArray a'.tmps)=true:=by simp [Region.wanted,hg]
   rw [if_pos hw]
   refine .inl (wp_of_sQuiet hobl fun w'' hb2=>?_)
   rw [hod]
   have hv:(fun j=>if j=i then s.v else qaJ S j)=qaJ S:=by
    funext j
    by_cases hji:j=i
    ·subst hji;simp [qaJ,hs]
    ·simp [hji]
   have hstep:=hf.step hi' hil hu hd hdm hne s.v;rw [hv] at hstep
   have hlin:(listed.setIfInBounds i true).getD n false=listed.getD n false:=qa5 _ _ _ (by omega) _
   exact ⟨by simpa using hls,hstep,fun h=>k0 _ _ (hA (by rw [← hlin];exact h)) hb2,fun h=>k1 _ _ (hK (by rw [← hlin];exact h)) hb2⟩
 ·intro listed a' w' hall hJ
  obtain ⟨hls,hf,hA,hK⟩:=hJ
  rw [hf.eq hF (fun i hi=>hall i (by omega)) hlF]
  exact hend w' (hK (hall n (by omega)))
end
end
end Go.Proofs.YteomfleofeeofaaGreatDoor
