/- A region that draws its order, whose head reads, calls, and makes memory, and of whose operations' v. -/
import Derived.Test.YteomfleofeeofaaGreatDoorBase
namespace Go.Proofs.YteomfleofeeofaaGreatDoor
open _root_.Array (getD_eq_getD_getElem?)
set_option maxRecDepth 100000
set_option linter.unusedSimpArgs false
set_option linter.unusedVariables false
section
open Go.RowKit Go.Sort
structure Told where
 T:World→Value→Prop
 keep:∀ w w' v,Below w.heap.size w w'→T w v→T w' v
def Told.val(v:Value):Told:=⟨fun _ u=>u=v,fun _ _ _ _ h=>h⟩
abbrev qa1:=Told×List Nat
def qcd:List Oper→List qa1→Nat→Option Told
 | o :: l,s :: S,k=>if o.dst=some k then some s.1 else qcd l S k
 | _,_,_=>none
def qbZ(l:List Oper)(S:List qa1)(a0:Act)(k:Nat)(a:Act)(w:World):Prop:=
 match qcd l S k with
 | some t=>t.T w (a.tmps.getD k undef)
 | none=>a.tmps.getD k undef=a0.tmps.getD k undef
def qai(P:Program)(w:World)(t:Told):Result Next→Prop
 | .ok (.value u) w'=>Below w.heap.size w w'∧t.T w' u
 | .ok (.enter f args) w'=>w'=w∧Calls P f args w (fun e z0=>∃ v,e=.returned v∧t.T z0 v∧Below w.heap.size w z0)
 | _=>False
theorem qeT{P:Program}{o:Oper}{a:Act}{w:World}{t:Told}{K:Act→World→Prop}{Q:Exit→Act→World→Prop}
  (h:qai P w t ((execOp a.eval o).run P w)) (hK:∀ v w',Below w.heap.size w w'→t.T w' v→K (a.put o.dst v) w'):o.wp P a w K Q:=by
 unfold Oper.wp;generalize (execOp a.eval o).run P w=r at *
 cases r with
 | ok n w'=>
  cases n<;>simp only[qai]at h<;>simp only[Oper.upon]
  case value u=>exact hK _ _ h.1 h.2
  case enter f args=>
   obtain⟨rfl,hc⟩:=h;exact hc.mono fun e w'' ⟨v,he,hv,z0⟩=>by subst he;exact hK _ _ z0 hv
 | halt x w'=>simp only[qai]at h
section
variable {P : Program} {ops : Array Oper}
def toldOblOf(P:Program)(w0:World)(l0:List Oper)(S0:List qa1)(a0:Act)(o:Oper)(s:qa1):Prop:=
 ∀ (a:Act) (w:World),Below w0.heap.size w0 w→(∀ k ∈ s.2,qbZ l0 S0 a0 k a w)→qai P w s.1 ((execOp a.eval o).run P w)
def qaQ(P:Program)(w0:World)(l0:List Oper)(S0:List qa1)(a0:Act):List Oper→List qa1→Prop
 | o :: l,s :: S=>toldOblOf P w0 l0 S0 a0 o s∧qaQ P w0 l0 S0 a0 l S
 | [],[]=>True
 | _,_=>False
def qaW(P:Program)(ops:Array Oper)(Q:Exit→Act→World→Prop)(rest:List Oper)(w':World):List Oper→List qa1→Act→Prop
 | o :: l,s :: S,a=>∀ u:Value,s.1.T w' u→qaW P ops Q rest w' l S (a.put o.dst u)
 | _,_,a=>wpList P ops Q rest a w'
theorem qfm{w0:World}{l0:List Oper}{S0:List qa1}{a0:Act} : ∀ {l:List Oper} {S:List qa1},qaQ P w0 l0 S0 a0 l S→l.length=S.length∧∀ (i:Nat) (o:Oper) (s:qa1),l[i]?=some o→S[i]?=some s→toldOblOf P w0 l0 S0 a0 o s
 | [],[],_=>⟨rfl,fun i o s h _=>by simp at h⟩
 | o :: l,s :: S,h=>by
  obtain⟨h1,h2⟩:=h;obtain⟨hl,hg⟩:=qfm h2;refine⟨by simp[hl],fun i o' s' ho hs=>?_⟩
  cases i with
  | zero=>simp at ho hs;subst ho hs;exact h1
  | succ i=>simp at ho hs;exact hg i o' s' ho hs
 | [],_ :: _,h=>h.elim
 | _ :: _,[],h=>h.elim
theorem qeQ{k:Nat}{t:Told} : ∀ {l:List Oper} {S:List qa1},qcd l S k=some t→∃ (j:Nat) (o:Oper) (s:qa1),l[j]?=some o∧S[j]?=some s∧o.dst=some k∧t=s.1
 | [],_,h=>by simp[qcd]at h
 | _ :: _,[],h=>by simp[qcd]at h
 | o :: l,s :: S,h=>by
  rw[qcd]at h;by_cases hd:o.dst=some k
  ·rw[if_pos hd]at h;exact⟨0,o,s,by simp,by simp,hd,(Option.some.inj h).symm⟩
  ·rw[if_neg hd]at h;obtain⟨j,o',s',h1,h2,h3,h4⟩:=qeQ h;exact⟨j+1,o',s',by simpa using h1,by simpa using h2,h3,h4⟩
theorem qeP{k:Nat} : ∀ {l:List Oper} {S:List qa1},l.length=S.length→qcd l S k=none→∀ (j:Nat) (o:Oper),l[j]?=some o→o.dst≠some k
 | [],_,_,_,j,o,h=>by simp at h
 | _ :: _,[],hl,_,_,_,_=>by simp at hl
 | o :: l,s :: S,hl,h,j,o',ho=>by
  rw[qcd]at h;by_cases hd:o.dst=some k
  ·rw[if_pos hd]at h;cases h
  ·rw[if_neg hd]at h
   cases j with
   | zero=>simp at ho;subst ho;exact hd
   | succ j=>simp at ho;exact qeP (by simpa using hl) h j o' ho
theorem qgu{Q:Exit→Act→World→Prop}{rest:List Oper}{w':World}{vs:Nat→Value}:∀ (l':List Oper) (S':List qa1) (b:Act) (k:Nat),l'.length=S'.length→(∀ (i:Nat) (s:qa1),S'[i]?=some s→s.1.T w' (vs (k+i)))→
  qaW P ops Q rest w' l' S' b→wpList P ops Q rest (qax b l' vs k) w'
 | [],[],b,k,_,_,h=>by rw[qax];exact h
 | o :: l',s :: S',b,k,hl,h1,h=>by
  have hs:=h1 0 s (by simp);rw[Nat.add_zero]at hs;rw[qax];exact qgu l' S' _ (k+1) (by simpa using hl) (fun i t ht=>by
   have:=h1 (i+1) t (by simpa using ht);rwa[show k+(i+1)=k+1+i by omega]at this) (h _ hs)
 | [],_ :: _,_,_,hl,_,_=>by simp at hl
 | _ :: _,[],_,_,hl,_,_=>by simp at hl
theorem qaA{id:Nat}{Q:Exit→Act→World→Prop}{a:Act}{w:World}{l:List Oper}(n m:Nat)(S:List qa1)(hm:P.follows .mixedOrders=true)
  (hB:freshB l.toArray n m (S.map fun _=>false) (S.map fun s=>s.2)=true) (zE:a.tmps.size=m)
  (zC:qaQ P w (l.take n) S a (l.take n) S) (zd:∀ w',Below w.heap.size w w'→qaW P l.toArray Q (l.drop n) w' (l.take n) S a):(Code.region id l.toArray true).wp P Q a w:=by
 have zb:=hB;unfold freshB at zb;simp only[Bool.and_eq_true,decide_eq_true_eq]at zb;obtain⟨⟨⟨⟨⟨⟨hn,_⟩,_⟩,zk⟩,zl⟩,hlen⟩,_⟩:=zb;have zA:n<l.length:=by simpa using hn
 have zr:(l.take n).length=n:=by simp;omega
 obtain⟨z1,zg⟩:=qfm zC;have zt:=z1;rw[zr]at zt;have z3:∀ i,i<n→∃ o d,l.toArray[i]?=some o∧o.guard=none∧o.dst=some d∧qbi l.toArray i=some d∧d<a.tmps.size∧∀ j,j<n→j≠i→qbi l.toArray j≠some d:=fun i hi=>by
  have z9:=List.all_eq_true.1 zk i (List.mem_range.2 hi);unfold qe0 at z9;have zh:l.toArray[i]?=some l.toArray[i]:=Array.getElem?_eq_getElem (by simpa using Nat.lt_trans hi zA);rw[zh]at z9;simp only[Bool.and_eq_true]at z9;obtain⟨⟨hg,_⟩,hd⟩:=z9
  cases z8:l.toArray[i].dst with
  | none=>rw[z8]at hd;cases hd
  | some d=>
   rw[z8]at hd;simp only[Bool.and_eq_true,decide_eq_true_eq]at hd;refine⟨_,d,zh,by simpa using hg,z8,by rw[qbi,zh];exact z8,by rw[zE];exact hd.1,fun j hj z6 e=>?_⟩;have:=List.all_eq_true.1 hd.2 j (List.mem_range.2 hj);simp only[Bool.or_eq_true,beq_iff_eq,bne_iff_ne]at this;rcases this with h|h
   ·exact z6 h
   ·exact h e
 have ze:FrameIs l.toArray n a (fun _=>undef) (Array.replicate l.toArray.size false) a:=⟨rfl,rfl,fun j d _ h _=>(by rw[Go.getD_replicate_false]at h;cases h),fun _ _=>rfl⟩;refine wp_region_inv n m _ _ hm hB (fun listed a' w'=>listed.size=l.toArray.size∧∃ vs:Nat→Value,FrameIs l.toArray n a vs listed a'∧Below w.heap.size w w'∧
   (∀ (i:Nat) (s:qa1),i<n→listed.getD i false=true→S[i]?=some s→s.1.T w' (vs i))) ?_ ?_ ?_
 ·exact⟨by simp,fun _=>undef,ze,⟨rfl,rfl,rfl,jlr _,fun _ _=>rfl⟩,fun i s _ h=>(by rw[Go.getD_replicate_false]at h;cases h)⟩
 ·intro i hi listed a' w' hr inv hJ;obtain⟨zi,vs,hf,hb,za⟩:=hJ;obtain⟨o,d,ho,hg,zD,hd,zv,zB⟩:=z3 i hi;have hu:listed.getD i false=false:=Go.getD_both (mem_ready.1 hr).1;have zx:i<listed.size:=by rw[zi];omega
  obtain⟨s,hs⟩:∃ s,S[i]?=some s:=⟨S[i]'(by omega),List.getElem?_eq_getElem (by omega)⟩;have zj:=zg i o s (by simpa[List.getElem?_take,hi]using ho) hs;have z5:∀ j,j<n→Region.waitsFor .any l.toArray i j=true→listed.getD j false=true:=fun j hj zF=>by
   obtain⟨oj,z2,e,he,zu,zw⟩:=Region.waitsFor_spec zF;rw[ho]at z2;cases z2;obtain⟨_,o2,zq,z0⟩:=mem_ready.1 hr;rw[ho]at zq;cases zq;rw[← zw];exact z0 e he zu
  have z4:∀ k ∈ s.2,qbZ (l.take n) S a k a' w':=fun k hk=>by
   have hR:=List.all_eq_true.1 zl i (List.mem_range.2 hi);unfold qdi at hR;have zy:k ∈ (S.map fun s=>s.2).getD i []:=by
    simp only[List.getD_eq_getElem?_getD,List.getElem?_map,hs,Option.map_some,Option.getD_some];exact hk
   have zs:=List.all_eq_true.1 hR k zy;unfold qbZ
   cases zo:qcd (l.take n) S k with
   | none=>
    simp only;exact hf.old k fun j hj _ e=>by
     obtain⟨oj,dj,z2,_,_,zc,_,_⟩:=z3 j hj;refine qeP z1 zo j oj (by simpa[List.getElem?_take,hj]using z2) ?_;rw[qbi,z2]at e;exact e
   | some t=>
    simp only;obtain⟨j,oj,sj,h1,h2,h3,rfl⟩:=qeQ zo;have hj:j<n:=by have:=(List.getElem?_eq_some_iff.1 h1).1;omega
    have z2:l.toArray[j]?=some oj:=by simpa[List.getElem?_take,hj]using h1
    have zc:qbi l.toArray j=some k:=by rw[qbi,z2];exact h3
    have zm:=List.all_eq_true.1 zs j (List.mem_range.2 hj);simp only[zc,bne_self_eq_false,Bool.false_or,Bool.and_eq_true]at zm;have z7:=z5 j hj zm.1;rw[hf.put j k hj z7 zc];exact za j sj hj z7 h2
  unfold wpOp;simp only[ho];have hw:Region.wanted o (yielded l.toArray a'.tmps)=true:=by simp[Region.wanted,hg]
  rw[if_pos hw];refine .inl ?_;refine qeT (zj a' w' hb z4) fun v w'' zn hv=>?_;rw[zD];refine⟨by simpa using zi,_,hf.step hi zx hu hd zv zB v,hb.trans (zn.mono hb.size),fun j t hj z7 ht=>?_⟩;by_cases z6:j=i
  ·subst z6;rw[hs]at ht;cases ht;simp only[if_pos];exact hv
  ·simp only[if_neg z6];rw[qaX _ _ _ (Ne.symm z6)]at z7;exact t.1.keep _ _ _ zn (za j t hj z7 ht)
 ·intro listed a' w' z0 hJ;obtain⟨zi,vs,hf,hb,za⟩:=hJ;have zf:FrameIs l.toArray n a vs (Array.replicate l.toArray.size false) a:=⟨rfl,rfl,fun j d _ h _=>(by rw[Go.getD_replicate_false]at h;cases h),fun _ _=>rfl⟩;obtain⟨lV,zz,hV⟩:=qc2 (ops:=l.toArray) (n:=n) (a0:=a) (vs:=vs) (fun i hi=>by obtain⟨o,d,_,_,_,h1,h2,h3⟩:=z3 i hi;exact⟨d,h1,h2,h3⟩)
   (l.take n) 0 (Array.replicate l.toArray.size false) a (by omega) (fun j hj=>by rw[zr]at hj;simp[List.getElem?_take,hj]) (by simp;omega) (fun i hi=>by rw[Go.getD_replicate_false];simp) zf
  rw[hf.eq hV z0 zz];have zp:∀ (i:Nat) (s:qa1),S[i]?=some s→i<n:=fun i s h=>by have:=(List.getElem?_eq_some_iff.1 h).1;omega
  exact qgu (l.take n) S a 0 z1 (fun i s hs=>by rw[Nat.zero_add];exact za i s (zp i s hs) (z0 i (zp i s hs)) hs) (zd w' hb)
theorem qeU{id:Nat}{Q:Exit→Act→World→Prop}{a:Act}{w:World}{l:List Oper}(n:Nat)(hm:P.follows .mixedOrders=true)(zd:n<l.length)(hs:Region.sinkB .any l.toArray n=true)(hc:Region.chainB .any l.toArray n=true)
  (z7:∀ i,i<n→∀ o,l.toArray[i]?=some o→o.after.all (fun e=>!Region.binds .any e || decide (e.on<i))=true)
  (z8:Region.seqB .any l.toArray (l.toArray.size-n) n (Array.replicate n true++Array.replicate (l.toArray.size-n) false)=true)
  (J:Array Bool→Act→World→Prop) (h0:J (Array.replicate l.toArray.size false) a { w with drawn:=w.drawn+1 })
  (z3:∀ i,i<n→∀ listed a' w',i ∈ Region.ready .any l.toArray listed→HeadInv .any l.toArray n listed→J listed a' w'→wpOp P l.toArray Q i (J (listed.setIfInBounds i true)) a' w')
  (z5:∀ listed a' w',(∀ i,i<n→listed.getD i false=true)→J listed a' w'→wpList P l.toArray Q (l.drop n) a' w'):(Code.region id l.toArray true).wp P Q a w:=by
 have hn:n<l.toArray.size:=by simpa using zd
 refine wp_region_any hm ?_;have za:∀ (f:Nat) (listed:Array Bool) (a':Act) (w':World),qcs listed n=f→HeadInv .any l.toArray n listed→J listed a' w'→wpAny P .any l.toArray Q (f+(l.toArray.size-n)) listed a' w':=by
  intro f
  induction f with
  | zero=>
   intro listed a' w' hf z2 hJ;have z1:=qgt _ _ hf;have hl:listed=Array.replicate n true++Array.replicate (l.toArray.size-n) false:=by
    apply Array.ext
    ·simp[z2.size];omega
    ·intro i h1 h2;by_cases hi:i<n
     ·have:=z1 i hi;simp[getD_eq_getD_getElem?,h1]at this;rw[this,Array.getElem_append_left (by simpa using hi)];simp
     ·have:=z2.tail i (by omega) (by rw[← z2.size];exact h1);simp[getD_eq_getD_getElem?,h1]at this;rw[this,Array.getElem_append_right (by simp;omega)];simp
   have zb:(l.drop n).length=l.toArray.size-n:=by simp
   have:=wpAny_of_seq (md:=.any) (Q':=Q) (l.drop n) n listed a' w' (fun j=>by simp[List.getElem?_drop]) (by rw[zb,hl];exact z8) (z5 listed a' w' z1 hJ);rw[zb]at this;rwa[Nat.zero_add]
  | succ f ih=>
   intro listed a' w' hf z2 hJ;obtain⟨i,hi,zj,z1⟩:=toCome_pos _ _ _ hf;have zg:i<listed.size:=by rw[z2.size];omega
   have z4:listed.getD i true=false:=Go.getD_in zg zj;have z0:i ∈ Region.ready .any l.toArray listed:=by
    rw[mem_ready];have zc:l.toArray[i]?=some l.toArray[i]:=Array.getElem?_eq_getElem (by simpa using Nat.lt_trans hi zd);refine⟨z4,_,zc,fun e he hb=>?_⟩;have:=Array.all_eq_true'.1 (z7 i hi _ zc) e he;simp only[hb,Bool.not_true,Bool.false_or,decide_eq_true_eq]at this;exact z1 _ this
   rw[show f+1+(l.toArray.size-n)=(f+(l.toArray.size-n))+1 by omega];refine⟨fun h=>(by rw[h]at z0;cases z0),fun j hj=>?_⟩;have z6:j<n:=Nat.lt_of_not_le fun h=>absurd hj (tail_waits hs hc hn z2 _ i rfl hi z4 j h);have zh:j<listed.size:=by rw[z2.size];omega
   have zi:listed.getD j false=false:=Go.getD_both (mem_ready.1 hj).1;refine wpOp_mono (fun ze zk h=>ih _ ze zk ?_ (z2.set hj z6) h) (z3 j z6 listed a' w' hj z2 hJ);have:=toCome_set listed n j z6 zh zi;omega
 have zf:qcs (Array.replicate l.toArray.size false) n=n:=by
  unfold qcs;have:(List.range n).filter (fun i=>!(Array.replicate l.toArray.size false).getD i false)=List.range n:=by
   rw[List.filter_eq_self];intro i _;rw[Go.getD_replicate_false];rfl
  rw[this,List.length_range]
 have z9:HeadInv .any l.toArray n (Array.replicate l.toArray.size false):=
  ⟨by simp,fun j oj _ hl=>(by rw[Go.getD_replicate_false]at hl;cases hl),fun t _ ht=>Go.getD_in (by simpa using ht) (Go.getD_replicate_false _ _)⟩
 have:=za n _ a _ zf z9 h0;rwa[show n+(l.toArray.size-n)=l.toArray.size by omega]at this
def qfe(ops:Array Oper)(n m i:Nat):Bool:=
 match ops[i]? with
 | some o=>(match o.guard with
  | none=>true
  | some g=>decide (g.1<n)&&Region.waitsFor .any ops i g.1)&&o.after.all (fun e=>!Region.binds .any e || decide (e.on<i))&&(match o.dst with
  | some d=>decide (d<m)&&(List.range n).all fun j=>j==i || qbi ops j != some d
  | none=>false)
 | none=>false
def toldB(ops:Array Oper)(n m:Nat)(z0:List (List Nat)):Bool:=
 decide (n<ops.size)&&Region.sinkB .any ops n&&Region.chainB .any ops n&&(List.range n).all (qfe ops n m)&&(List.range n).all (fun i=>qdi ops n i (List.replicate n false) (z0.getD i []))&&decide (z0.length=n) &&
 Region.seqB .any ops (ops.size-n) n (Array.replicate n true++Array.replicate (ops.size-n) false)
def qc8(S:List qa1):List Oper→Prop
 | []=>True
 | o :: l=>(match o.guard with
  | none=>True
  | some g=>match S[g.1]? with
   | some s=>∀ w v,s.1.T w v→v=.bool g.2
   | none=>True)∧qc8 S l
theorem qfd{S:List qa1} : ∀ {l:List Oper},qc8 S l→∀ (i:Nat) (o:Oper),l[i]?=some o→∀ (j:Nat) (b:Bool),o.guard=some (j,b)→∀ t,S[j]?=some t→∀ w v,t.1.T w v→v=.bool b
 | [],_,i,o,h=>by simp at h
 | o :: l,h,i,o',ho=>by
  intro j b hg t ht w v hv
  cases i with
  | zero=>
   simp at ho;subst ho;have h1:=h.1;simp only[hg,ht]at h1;exact h1 w v hv
  | succ i=>exact qfd h.2 i o' (by simpa using ho) j b hg t ht w v hv
theorem qgk{id:Nat}{Q:Exit→Act→World→Prop}{a:Act}{w:World}{l:List Oper}(n m:Nat)(S:List qa1)(hm:P.follows .mixedOrders=true)
  (hB:toldB l.toArray n m (S.map fun s=>s.2)=true) (zN:a.tmps.size=m) (zE:qc8 S (l.take n))
  (zJ:qaQ P w (l.take n) S a (l.take n) S) (zh:∀ w',Below w.heap.size w w'→qaW P l.toArray Q (l.drop n) w' (l.take n) S a):(Code.region id l.toArray true).wp P Q a w:=by
 have zf:=hB;unfold toldB at zf;simp only[Bool.and_eq_true,decide_eq_true_eq]at zf;obtain⟨⟨⟨⟨⟨⟨hn,zL⟩,zB⟩,za⟩,zp⟩,hlen⟩,zM⟩:=zf;have zv:n<l.length:=by simpa using hn
 have zx:(l.take n).length=n:=by simp;omega
 obtain⟨z6,zk⟩:=qfm zJ;have zz:=z6;rw[zx]at zz;have z4:∀ i,i<n→∃ o d,l.toArray[i]?=some o∧(∀ g,o.guard=some g→g.1<n∧Region.waitsFor .any l.toArray i g.1=true)∧o.dst=some d∧qbi l.toArray i=some d∧d<a.tmps.size∧∀ j,j<n→j≠i→qbi l.toArray j≠some d:=fun i hi=>by
  have z3:=List.all_eq_true.1 za i (List.mem_range.2 hi);unfold qfe at z3;have zl:l.toArray[i]?=some l.toArray[i]:=Array.getElem?_eq_getElem (by simpa using Nat.lt_trans hi zv);rw[zl]at z3;simp only[Bool.and_eq_true]at z3;obtain⟨⟨hg,_⟩,hd⟩:=z3
  cases zd:l.toArray[i].dst with
  | none=>rw[zd]at hd;cases hd
  | some d=>
   rw[zd]at hd;simp only[Bool.and_eq_true,decide_eq_true_eq]at hd;refine⟨_,d,zl,fun g ze=>(by rw[ze]at hg;simpa using hg),zd,by rw[qbi,zl];exact zd,by rw[zN];exact hd.1,fun j hj z9 e=>?_⟩;have:=List.all_eq_true.1 hd.2 j (List.mem_range.2 hj);simp only[Bool.or_eq_true,beq_iff_eq,bne_iff_ne]at this;rcases this with h|h
   ·exact z9 h
   ·exact h e
 have zi:FrameIs l.toArray n a (fun _=>undef) (Array.replicate l.toArray.size false) a:=⟨rfl,rfl,fun j d _ h _=>(by rw[Go.getD_replicate_false]at h;cases h),fun _ _=>rfl⟩;refine qeU n hm zv zL zB (fun i hi o ho=>(by
   have z3:=List.all_eq_true.1 za i (List.mem_range.2 hi);unfold qfe at z3;rw[ho]at z3;simp only[Bool.and_eq_true]at z3;exact z3.1.2)) zM (fun listed a' w'=>listed.size=l.toArray.size∧∃ vs:Nat→Value,FrameIs l.toArray n a vs listed a'∧Below w.heap.size w w'∧
   (∀ (i:Nat) (s:qa1),i<n→listed.getD i false=true→S[i]?=some s→s.1.T w' (vs i))) ?_ ?_ ?_
 ·exact⟨by simp,fun _=>undef,zi,⟨rfl,rfl,rfl,jlr _,fun _ _=>rfl⟩,fun i s _ h=>(by rw[Go.getD_replicate_false]at h;cases h)⟩
 ·intro i hi listed a' w' hr inv hJ;obtain⟨zm,vs,hf,hb,zb⟩:=hJ;obtain⟨o,d,ho,hg,zK,hd,zC,zI⟩:=z4 i hi;have hu:listed.getD i false=false:=Go.getD_both (mem_ready.1 hr).1;have zF:i<listed.size:=by rw[zm];omega
  obtain⟨s,hs⟩:∃ s,S[i]?=some s:=⟨S[i]'(by omega),List.getElem?_eq_getElem (by omega)⟩;have zn:=zk i o s (by simpa[List.getElem?_take,hi]using ho) hs;have z0:∀ j,j<n→Region.waitsFor .any l.toArray i j=true→listed.getD j false=true:=fun j hj zq=>by
   obtain⟨oj,z2,e,he,zA,zD⟩:=Region.waitsFor_spec zq;rw[ho]at z2;cases z2;obtain⟨_,o2,zw,z1⟩:=mem_ready.1 hr;rw[ho]at zw;cases zw;rw[← zD];exact z1 e he zA
  have z7:∀ k ∈ s.2,qbZ (l.take n) S a k a' w':=fun k hk=>by
   have hR:=List.all_eq_true.1 zp i (List.mem_range.2 hi);unfold qdi at hR;have zG:k ∈ (S.map fun s=>s.2).getD i []:=by
    simp only[List.getD_eq_getElem?_getD,List.getElem?_map,hs,Option.map_some,Option.getD_some];exact hk
   have zy:=List.all_eq_true.1 hR k zG;unfold qbZ
   cases zt:qcd (l.take n) S k with
   | none=>
    simp only;exact hf.old k fun j hj _ e=>by
     obtain⟨oj,dj,z2,_,_,z8,_,_⟩:=z4 j hj;refine qeP z6 zt j oj (by simpa[List.getElem?_take,hj]using z2) ?_;rw[qbi,z2]at e;exact e
   | some t=>
    simp only;obtain⟨j,oj,sj,h1,h2,h3,rfl⟩:=qeQ zt;have hj:j<n:=by have:=(List.getElem?_eq_some_iff.1 h1).1;omega
    have z2:l.toArray[j]?=some oj:=by simpa[List.getElem?_take,hj]using h1
    have z8:qbi l.toArray j=some k:=by rw[qbi,z2];exact h3
    have zr:=List.all_eq_true.1 zy j (List.mem_range.2 hj);simp only[z8,bne_self_eq_false,Bool.false_or,Bool.and_eq_true]at zr;have z5:=z0 j hj zr.1;rw[hf.put j k hj z5 z8];exact zb j sj hj z5 h2
  unfold wpOp;simp only[ho];have hw:Region.wanted o (yielded l.toArray a'.tmps)=true:=by
   unfold Region.wanted
   cases ze:o.guard with
   | none=>rfl
   | some jb=>
    obtain⟨j,b⟩:=jb;obtain⟨hj,zq⟩:=hg _ ze;have z5:=z0 j hj zq;obtain⟨t,ht⟩:∃ t,S[j]?=some t:=⟨S[j]'(by omega),List.getElem?_eq_getElem (by omega)⟩;obtain⟨oj,dj,z2,_,zo,z8,zg,_⟩:=z4 j hj;have hv:=qfd zE i o (by simpa[List.getElem?_take,hi]using ho) j b ze t ht w' (vs j) (zb j t hj z5 ht);have hp:=hf.put j dj hj z5 z8;rw[hv]at hp;have zc:dj<a'.tmps.size:=by rw[hf.size];exact zg
    have:yielded l.toArray a'.tmps j=some b:=by
     unfold yielded;rw[z2];simp only[Option.bind_some,zo];rw[getD_eq_getD_getElem?,Array.getElem?_eq_getElem zc,Option.getD_some]at hp;rw[Array.getElem?_eq_getElem zc,hp]
    simp[this]
  rw[if_pos hw];refine .inl ?_;refine qeT (zn a' w' hb z7) fun v w'' zs hv=>?_;rw[zK];refine⟨by simpa using zm,_,hf.step hi zF hu hd zC zI v,hb.trans (zs.mono hb.size),fun j t hj z5 ht=>?_⟩;by_cases z9:j=i
  ·subst z9;rw[hs]at ht;cases ht;simp only[if_pos];exact hv
  ·simp only[if_neg z9];rw[qaX _ _ _ (Ne.symm z9)]at z5;exact t.1.keep _ _ _ zs (zb j t hj z5 ht)
 ·intro listed a' w' z1 hJ;obtain⟨zm,vs,hf,hb,zb⟩:=hJ;have zj:FrameIs l.toArray n a vs (Array.replicate l.toArray.size false) a:=⟨rfl,rfl,fun j d _ h _=>(by rw[Go.getD_replicate_false]at h;cases h),fun _ _=>rfl⟩;obtain⟨lV,zH,hV⟩:=qc2 (ops:=l.toArray) (n:=n) (a0:=a) (vs:=vs) (fun i hi=>by obtain⟨o,d,_,_,_,h1,h2,h3⟩:=z4 i hi;exact⟨d,h1,h2,h3⟩)
   (l.take n) 0 (Array.replicate l.toArray.size false) a (by omega) (fun j hj=>by rw[zx]at hj;simp[List.getElem?_take,hj]) (by simp;omega) (fun i hi=>by rw[Go.getD_replicate_false];simp) zj
  rw[hf.eq hV z1 zH];have zu:∀ (i:Nat) (s:qa1),S[i]?=some s→i<n:=fun i s h=>by have:=(List.getElem?_eq_some_iff.1 h).1;omega
  exact qgu (l.take n) S a 0 z6 (fun i s hs=>by rw[Nat.zero_add];exact zb i s (zu i s hs) (z1 i (zu i s hs)) hs) (zh w' hb)
end
end
section
open Go.RowKit Go.Sort
section
variable {L : List Oper} {S : List qa1} {a0 a : Act} {w : World} {k x y z t : Nat} {v : Value} {l : List Nat}
theorem tg0(h:qbZ L S a0 k a w)(e:qcd L S k=some (Told.val v)):a.tmps[k]?.getD undef=v:=by
 rw[qbZ,e]at h;have h:a.tmps.getD k undef=v:=h;rwa[getD_eq_getD_getElem?]at h
theorem ug0(h:qbZ L S a0 k a w)(e:qcd L S k=none):a.tmps[k]?.getD undef=a0.tmps[k]?.getD undef:=by
 rw[qbZ,e]at h;have h:a.tmps.getD k undef=a0.tmps.getD k undef:=h;rwa[getD_eq_getD_getElem?,getD_eq_getD_getElem?]at h
theorem td0(h:∀ q ∈ k :: l,qbZ L S a0 q a w)(e:qcd L S k=some (Told.val v)):a.tmps[k]?.getD undef=v:=tg0 (h _ (.head _)) e
theorem ud0(h:∀ q ∈ k :: l,qbZ L S a0 q a w)(e:qcd L S k=none):a.tmps[k]?.getD undef=a0.tmps[k]?.getD undef:=ug0 (h _ (.head _)) e
theorem td1(h:∀ q ∈ x :: k :: l,qbZ L S a0 q a w)(e:qcd L S k=some (Told.val v)):a.tmps[k]?.getD undef=v:=tg0 (h _ (.tail _ (.head _))) e
theorem td2(h:∀ q ∈ x :: y :: k :: l,qbZ L S a0 q a w)(e:qcd L S k=some (Told.val v)):a.tmps[k]?.getD undef=v:=tg0 (h _ (.tail _ (.tail _ (.head _)))) e
end
end
section
open Go.RowKit Go.Sort
section
variable {P : Program} {ops : Array Oper}
def toldLateB(ops:Array Oper)(n e m:Nat)(z0:List (List Nat)):Bool:=
 decide (n+1<ops.size)&&Region.sinkB .any ops (n+1)&&Region.chainB .any ops (n+1)&&(List.range n).all (qfe ops n m)&&(List.range n).all (fun i=>qdi ops n i (List.replicate n false) (z0.getD i []))&&decide (z0.length=n)&&decide (e<n) &&
 (match ops[n]? with
  | some o=>o.guard.isNone&&o.dst.isNone&&o.after.all (fun x=>!Region.binds .any x || decide (x.on<n))&&(List.range n).all (fun j=>j==e || Region.waitsFor .any ops n j)
  | none=>false) &&
 Region.seqB .any ops (ops.size-(n+1)) (n+1) (Array.replicate (n+1) true++Array.replicate (ops.size-(n+1)) false)
def qf1(P:Program)(ops:Array Oper)(Q:Exit→Act→World→Prop)(so:Oper)(rs:List Nat)(rest:List Oper)(w w1:World):List Oper→List qa1→Act→Prop
 | o :: l,s :: S,a=>∀ u:Value,s.1.T w1 u→qf1 P ops Q so rs rest w w1 l S (a.put o.dst u)
 | _,_,a=>∃ w2,Below w.heap.size w w2∧(∀ a':Act,(∀ k ∈ rs,a'.tmps.getD k undef=a.tmps.getD k undef)→(execOp a'.eval so).run P w1=.ok .skip w2)∧wpList P ops Q rest a w2
theorem toldEndS_use{Q:Exit→Act→World→Prop}{so:Oper}{rs:List Nat}{rest:List Oper}{w w1:World}{vs:Nat→Value}:∀ (l':List Oper) (S':List qa1) (b:Act) (k:Nat),l'.length=S'.length→(∀ (i:Nat) (s:qa1),S'[i]?=some s→s.1.T w1 (vs (k+i)))→
  qf1 P ops Q so rs rest w w1 l' S' b→∃ w2,Below w.heap.size w w2∧(∀ a':Act,(∀ j ∈ rs,a'.tmps.getD j undef=(qax b l' vs k).tmps.getD j undef)→(execOp a'.eval so).run P w1=.ok .skip w2)∧wpList P ops Q rest (qax b l' vs k) w2
 | [],[],b,k,_,_,h=>by rw[qax];exact h
 | o :: l',s :: S',b,k,hl,h1,h=>by
  have hs:=h1 0 s (by simp);rw[Nat.add_zero]at hs;rw[qax];exact toldEndS_use l' S' _ (k+1) (by simpa using hl) (fun i t ht=>by
   have:=h1 (i+1) t (by simpa using ht);rwa[show k+(i+1)=k+1+i by omega]at this) (h _ hs)
 | [],_ :: _,_,_,hl,_,_=>by simp at hl
 | _ :: _,[],_,_,hl,_,_=>by simp at hl
end
end
section
open Go.RowKit Go.Sort
section
variable {P : Program} {ops : Array Oper}
def storedB(ops:Array Oper)(n m:Nat)(z0:List (List Nat))(z1:List Nat):Bool:=
 decide (n+1<ops.size)&&Region.sinkB .any ops (n+1)&&Region.chainB .any ops (n+1)&&(List.range n).all (qe0 ops n m)&&(List.range n).all (fun i=>qdi ops n i (List.replicate n false) (z0.getD i []))&&qdi ops n n (List.replicate n false) z1&&decide (z0.length=n) &&
 (match ops[n]? with
  | some o=>o.guard.isNone&&o.dst.isNone&&o.after.all (fun x=>!Region.binds .any x || decide (x.on<n))
  | none=>false) &&
 Region.seqB .any ops (ops.size-(n+1)) (n+1) (Array.replicate (n+1) true++Array.replicate (ops.size-(n+1)) false)
def qeu(P:Program)(K:World→Prop):List Oper→List HeadSpec→Prop
 | o :: l,s :: S=>(∀ (a:Act) (w:World),K w→(∀ p ∈ s.rd,a.tmps.getD p.1 undef=p.2)→qaa P w s.v ((execOp a.eval o).run P w))∧qeu P K l S
 | [],[]=>True
 | _,_=>False
theorem storedObl_get{K:World→Prop} : ∀ {l:List Oper} {S:List HeadSpec},qeu P K l S→l.length=S.length∧∀ (i:Nat) (o:Oper) (s:HeadSpec),l[i]?=some o→S[i]?=some s→
  ∀ (a:Act) (w:World),K w→(∀ p ∈ s.rd,a.tmps.getD p.1 undef=p.2)→qaa P w s.v ((execOp a.eval o).run P w)
 | [],[],_=>⟨rfl,fun i o s h _=>by simp at h⟩
 | o :: l,s :: S,h=>by
  obtain⟨h1,h2⟩:=h;obtain⟨hl,hg⟩:=storedObl_get h2;refine⟨by simp[hl],fun i o' s' ho hs=>?_⟩
  cases i with
  | zero=>simp at ho hs;subst ho hs;exact h1
  | succ i=>simp at ho hs;exact hg i o' s' ho hs
 | [],_ :: _,h=>h.elim
 | _ :: _,[],h=>h.elim
theorem qej{id:Nat}{Q:Exit→Act→World→Prop}{a:Act}{w:World}{l:List Oper}(n m:Nat)(S:List HeadSpec)(zh:List (Nat×Value))(K0 K1:World→Prop)(so:Oper)(zR:l[n]?=some so)(hm:P.follows .mixedOrders=true)
  (hB:storedB l.toArray n m (S.map fun s=>s.rd.map (·.1)) (zh.map (·.1))=true) (zV:a.tmps.size=m)
  (h0:K0 { w with drawn:=w.drawn+1 }) (k0:∀ w1 w2,K0 w1→Below w1.heap.size w1 w2→K0 w2) (k1:∀ w1 w2,K1 w1→Below w1.heap.size w1 w2→K1 w2)
  (zK:qeu P (fun w'=>K0 w'∨K1 w') (l.take n) S)
  (zU:∀ (a':Act) (w':World),K0 w'→(∀ p ∈ zh,a'.tmps.getD p.1 undef=p.2)→∃ w2,(execOp a'.eval so).run P w'=.ok .skip w2∧K1 w2)
  (zN:qay (qax a (l.take n) (qaK S) 0) S) (zT:∀ p ∈ zh,(qax a (l.take n) (qaK S) 0).tmps.getD p.1 undef=p.2)
  (zk:∀ w',K1 w'→wpList P l.toArray Q (l.drop (n+1)) (qax a (l.take n) (qaK S) 0) w'):(Code.region id l.toArray true).wp P Q a w:=by
 have zi:=hB;unfold storedB at zi;simp only[Bool.and_eq_true,decide_eq_true_eq]at zi;obtain⟨⟨⟨⟨⟨⟨⟨⟨hn,zQ⟩,zD⟩,zb⟩,zp⟩,zr⟩,hlen⟩,z5⟩,zS⟩:=zi;have zH:n+1<l.length:=by simpa using hn
 have z4:l.toArray[n]?=some so:=by simpa using zR
 rw[z4]at z5;simp only[Bool.and_eq_true,Option.isNone_iff_eq_none]at z5;obtain⟨⟨zP,zO⟩,zc⟩:=z5;have zz:(l.take n).length=n:=by simp;omega
 obtain⟨zB,zl⟩:=storedObl_get zK;rw[zz]at zB;have za:∀ i,i<n→∃ o d,l.toArray[i]?=some o∧o.guard=none∧o.dst=some d∧qbi l.toArray i=some d∧d<a.tmps.size∧∀ j,j<n→j≠i→qbi l.toArray j≠some d:=fun i hi=>by
  have z1:=List.all_eq_true.1 zb i (List.mem_range.2 hi);unfold qe0 at z1;have zn:l.toArray[i]?=some l.toArray[i]:=Array.getElem?_eq_getElem (by simp;omega);rw[zn]at z1;simp only[Bool.and_eq_true]at z1;obtain⟨⟨hg,_⟩,hd⟩:=z1
  cases zd:l.toArray[i].dst with
  | none=>rw[zd]at hd;cases hd
  | some d=>
   rw[zd]at hd;simp only[Bool.and_eq_true,decide_eq_true_eq]at hd;refine⟨_,d,zn,by simpa using hg,zd,by rw[qbi,zn];exact zd,by rw[zV];exact hd.1,fun j hj zf e=>?_⟩;have:=List.all_eq_true.1 hd.2 j (List.mem_range.2 hj);simp only[Bool.or_eq_true,beq_iff_eq,bne_iff_ne]at this;rcases this with h|h
   ·exact zf h
   ·exact h e
 have z7:FrameIs l.toArray n a (qaK S) (Array.replicate l.toArray.size false) a:=⟨rfl,rfl,fun j d _ h _=>(by rw[Go.getD_replicate_false]at h;cases h),fun _ _=>rfl⟩;obtain⟨lF,zv,hF⟩:=qc2 (ops:=l.toArray) (n:=n) (a0:=a) (vs:=qaK S) (fun i hi=>by obtain⟨o,d,_,_,_,h1,h2,h3⟩:=za i hi;exact⟨d,h1,h2,h3⟩)
  (l.take n) 0 (Array.replicate l.toArray.size false) a (by omega) (fun j hj=>by rw[zz]at hj;simp[List.getElem?_take,hj]) (by simp;omega) (fun i hi=>by rw[Go.getD_replicate_false];simp) z7
 -- what an operation reads
 have z2:∀ (i:Nat) (rd:List (Nat×Value)) (listed:Array Bool) (a':Act),qdi l.toArray n i (List.replicate n false) (rd.map (·.1))=true→i ∈ Region.ready .any l.toArray listed→FrameIs l.toArray n a (qaK S) listed a'→
   ∀ p ∈ rd,a'.tmps.getD p.1 undef=(qax a (l.take n) (qaK S) 0).tmps.getD p.1 undef:=fun i rd listed a' hR hr hf p hp=>by
  unfold qdi at hR;have zA:=List.all_eq_true.1 hR p.1 (List.mem_map.2 ⟨p,hp,rfl⟩);by_cases hx:∃ j,j<n∧qbi l.toArray j=some p.1
  ·obtain⟨j,hj,z6⟩:=hx;have zs:=List.all_eq_true.1 zA j (List.mem_range.2 hj);simp only[z6,bne_self_eq_false,Bool.false_or,Bool.and_eq_true]at zs;obtain⟨oj,zM,e,he,zC,zF⟩:=Region.waitsFor_spec zs.1;have z9:listed.getD j false=true:=by
    obtain⟨_,o2,zy,z0⟩:=mem_ready.1 hr;rw[zM]at zy;cases zy;rw[← zF];exact z0 e he zC
   rw[hf.put j p.1 hj z9 z6,hF.put j p.1 hj (zv j hj) z6]
  ·rw[hf.old p.1 fun j hj _ e=>hx ⟨j,hj,e⟩,hF.old p.1 fun j hj _ e=>hx ⟨j,hj,e⟩]
 refine qeU (n+1) hm zH zQ zD (fun i hi o ho=>(by
   by_cases zm:i=n
   ·subst zm;rw[z4]at ho;cases ho;exact zc
   ·have z1:=List.all_eq_true.1 zb i (List.mem_range.2 (by omega));unfold qe0 at z1;rw[ho]at z1;simp only[Bool.and_eq_true]at z1;exact z1.1.2)) zS (fun listed a' w'=>listed.size=l.toArray.size∧FrameIs l.toArray n a (qaK S) listed a'∧(listed.getD n false=false→K0 w')∧(listed.getD n false=true→K1 w')) ?_ ?_ ?_
 ·exact⟨by simp,z7,fun _=>h0,fun h=>(by rw[Go.getD_replicate_false]at h;cases h)⟩
 ·intro i hi listed a' w' hr inv hJ;obtain⟨zg,hf,hA,hK⟩:=hJ;have zu:i<listed.size:=by rw[zg];omega
  have hu:listed.getD i false=false:=Go.getD_both (mem_ready.1 hr).1;by_cases zm:i=n
  ·subst zm;obtain⟨w2,zq,zG⟩:=zU a' w' (hA hu) (fun p hp=>(z2 i zh listed a' zr hr hf p hp).trans (zT p hp));unfold wpOp;simp only[z4];have hw:Region.wanted so (yielded l.toArray a'.tmps)=true:=by simp[Region.wanted,zP]
   rw[if_pos hw];refine .inl ?_;unfold Oper.wp;rw[zq];simp only[Oper.upon];rw[zO];have zw:∀ j,j<i→(listed.setIfInBounds i true).getD j false=listed.getD j false:=fun j hj=>qaX _ _ _ (by omega) _;exact⟨by simpa using zg,⟨hf.defers,hf.size,fun j d hj z9 z6=>hf.put j d hj (by rw[← zw j hj];exact z9) z6,fun d zJ=>hf.old d fun j hj z9=>zJ j hj (by rw[zw j hj];exact z9)⟩,
    fun h=>(by rw[qcX _ _ zu]at h;cases h),fun _=>zG⟩
  ·have ze:i<n:=by omega
   obtain⟨o,d,ho,hg,zL,hd,zE,zI⟩:=za i ze;obtain⟨s,hs⟩:∃ s,S[i]?=some s:=⟨S[i]'(by omega),List.getElem?_eq_getElem (by omega)⟩;have zj:K0 w'∨K1 w':=by
    cases zx:listed.getD n false with
    | false=>exact .inl (hA zx)
    | true=>exact .inr (hK zx)
   have hR:=List.all_eq_true.1 zp i (List.mem_range.2 ze);rw[show (S.map fun s=>s.rd.map (·.1)).getD i []=s.rd.map (·.1) by simp[List.getD_eq_getElem?_getD,hs]]at hR;have zo:=zl i o s (by simpa[List.getElem?_take,ze]using ho) hs a' w' zj (fun p hp=>(z2 i s.rd listed a' hR hr hf p hp).trans (qfy zN i s hs p hp));unfold wpOp;simp only[ho];have hw:Region.wanted o (yielded l.toArray a'.tmps)=true:=by simp[Region.wanted,hg]
   rw[if_pos hw];refine .inl (wp_of_sQuiet zo fun w'' zt=>?_);rw[zL];have hv:(fun j=>if j=i then s.v else qaK S j)=qaK S:=by
    funext j;by_cases zf:j=i
    ·subst zf;simp[qaK,hs]
    ·simp[zf]
   have z3:=hf.step ze zu hu hd zE zI s.v;rw[hv]at z3;have z8:(listed.setIfInBounds i true).getD n false=listed.getD n false:=qaX _ _ _ (by omega) _;exact⟨by simpa using zg,z3,fun h=>k0 _ _ (hA (by rw[← z8];exact h)) zt,fun h=>k1 _ _ (hK (by rw[← z8];exact h)) zt⟩
 ·intro listed a' w' z0 hJ;obtain⟨zg,hf,hA,hK⟩:=hJ;rw[hf.eq hF (fun i hi=>z0 i (by omega)) zv];exact zk w' (hK (z0 n (by omega)))
end
end
end Go.Proofs.YteomfleofeeofaaGreatDoor
