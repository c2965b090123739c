/- As XToldLate, where the late operation reads what is told of a value in its world. -/
import Derived.Test.YteomfleofeeofaaGreatDoorToldG
namespace Go.Proofs.YteomfleofeeofaaGreatDoor
set_option maxRecDepth 100000
set_option linter.unusedSimpArgs false
set_option linter.unusedVariables false
section
open Go.RowKit Go.Sort
section
variable {P : Program} {ops : Array Oper}
theorem qeV{id:Nat}{Q:Exit→Act→World→Prop}{a:Act}{w:World}{l:List Oper}(n e m:Nat)(rs:List Nat)(S:List qa1)(so:Oper)(yh:l[n]?=some so)(hm:P.follows .mixedOrders=true)
  (hB:toldLateB l.toArray n e m (S.map fun s=>s.2)=true) (yj:a.tmps.size=m) (y7:qc8 S (l.take n)) (yd:∀ k ∈ rs,∀ o,l[e]?=some o→o.dst≠some k)
  (yc:qaQ P w (l.take n) S a (l.take n) S)
  (y1:∀ o s,l[e]?=some o→S[e]?=some s→∀ (a':Act) (w':World),(∀ k ∈ s.2,qbZ (l.take n) S a k a' w')→∃ u,(∀ zB,(execOp a'.eval o).run P zB=.ok (.value u) zB)∧∀ w1,s.1.T w1 u)
  (zH:∀ w1,Below w.heap.size w w1→qf1 P l.toArray Q so rs (l.drop (n+1)) w w1 (l.take n) S a):(Code.region id l.toArray true).wp P Q a w:=by
 have zC:=hB;unfold toldLateB at zC;simp only[Bool.and_eq_true,decide_eq_true_eq]at zC;obtain⟨⟨⟨⟨⟨⟨⟨⟨hn,yg⟩,y5⟩,zj⟩,zQ⟩,hlen⟩,zG⟩,zR⟩,yi⟩:=zC;have ya:n+1<l.length:=by simpa using hn
 have zk:l.toArray[n]?=some so:=by simpa using yh
 rw[zk]at zR;simp only[Bool.and_eq_true,Option.isNone_iff_eq_none]at zR;obtain⟨⟨⟨yf,ye⟩,zu⟩,zl⟩:=zR;have zS:(l.take n).length=n:=by simp;omega
 obtain⟨zf,zJ⟩:=qfm yc;have y4:=zf;rw[zS]at y4;have z7:∀ i,i<n→∃ o d,l.toArray[i]?=some o∧(∀ g,o.guard=some g→g.1<n∧Region.waitsFor .any l.toArray i g.1=true)∧o.dst=some d∧qbi l.toArray i=some d∧d<a.tmps.size∧∀ j,j<n→j≠i→qbi l.toArray j≠some d:=fun i hi=>by
  have z6:=List.all_eq_true.1 zj i (List.mem_range.2 hi);unfold qfe at z6;have zL:l.toArray[i]?=some l.toArray[i]:=Array.getElem?_eq_getElem (by simp;omega);rw[zL]at z6;simp only[Bool.and_eq_true]at z6;obtain⟨⟨hg,_⟩,hd⟩:=z6
  cases zx:l.toArray[i].dst with
  | none=>rw[zx]at hd;cases hd
  | some d=>
   rw[zx]at hd;simp only[Bool.and_eq_true,decide_eq_true_eq]at hd;refine⟨_,d,zL,fun g zy=>(by rw[zy]at hg;simpa using hg),zx,by rw[qbi,zL];exact zx,by rw[yj];exact hd.1,fun j hj zb e=>?_⟩;have:=List.all_eq_true.1 hd.2 j (List.mem_range.2 hj);simp only[Bool.or_eq_true,beq_iff_eq,bne_iff_ne]at this;rcases this with h|h
   ·exact zb h
   ·exact h e
 obtain⟨se,zo⟩:∃ s,S[e]?=some s:=⟨S[e]'(by omega),List.getElem?_eq_getElem (by omega)⟩;obtain⟨oe,de,zP,_,hode,hdste,hdeM,hneE⟩:=z7 e zG;have zi:l[e]?=some oe:=by simpa using zP
 have zI:FrameIs l.toArray n a (fun _=>undef) (Array.replicate l.toArray.size false) a:=⟨rfl,rfl,fun j d _ h _=>(by rw[Go.getD_replicate_false]at h;cases h),fun _ _=>rfl⟩
 -- what an operation reads
 have z5:∀ i,i<n→∀ s,S[i]?=some s→∀ (listed:Array Bool) (a':Act) (w1 w':World) (vs:Nat→Value),FrameIs l.toArray n a vs listed a'→(∀ j,j<n→Region.waitsFor .any l.toArray i j=true→listed.getD j false=true)→
   (∀ (j:Nat) (t:qa1),j<n→listed.getD j false=true→S[j]?=some t→t.1.T w1 (vs j))→(w1=w')→∀ k ∈ s.2,qbZ (l.take n) S a k a' w':=fun i hi s hs listed a' w1 w' vs hf z1 za zq k hk=>by
  have hR:=List.all_eq_true.1 zQ i (List.mem_range.2 hi);unfold qdi at hR;have y9:k ∈ (S.map fun s=>s.2).getD i []:=by
   simp only[List.getD_eq_getElem?_getD,List.getElem?_map,hs,Option.map_some,Option.getD_some];exact hk
  have y3:=List.all_eq_true.1 hR k y9;unfold qbZ
  cases zX:qcd (l.take n) S k with
  | none=>
   simp only;exact hf.old k fun j hj _ e=>by
    obtain⟨oj,dj,zc,_,_,z9,_,_⟩:=z7 j hj;refine qeP zf zX j oj (by simpa[List.getElem?_take,hj]using zc) ?_;rw[qbi,zc]at e;exact e
  | some t=>
   simp only;obtain⟨j,oj,sj,h1,h2,h3,ht⟩:=qeQ zX;have hj:j<n:=by have:=(List.getElem?_eq_some_iff.1 h1).1;omega
   have zc:l.toArray[j]?=some oj:=by simpa[List.getElem?_take,hj]using h1
   have z9:qbi l.toArray j=some k:=by rw[qbi,zc];exact h3
   have zU:=List.all_eq_true.1 y3 j (List.mem_range.2 hj);simp only[z9,bne_self_eq_false,Bool.false_or,Bool.and_eq_true]at zU;have z3:=z1 j hj zU.1;rw[hf.put j k hj z3 z9];have hT:=za j sj hj z3 h2;rw[← ht]at hT;subst zq;exact hT
 have z4:∀ i,i<n+1→∀ listed:Array Bool,i ∈ Region.ready .any l.toArray listed→∀ j,Region.waitsFor .any l.toArray i j=true→listed.getD j false=true:=fun i hi listed hr j zm=>by
  obtain⟨oj,zc,e,he,zE,zW⟩:=Region.waitsFor_spec zm;obtain⟨_,o2,zZ,z0⟩:=mem_ready.1 hr;rw[zc]at zZ;cases zZ;rw[← zW];exact z0 e he zE
 refine qeU (n+1) hm ya yg y5 (fun i hi o ho=>(by
   by_cases zK:i=n
   ·subst zK;rw[zk]at ho;cases ho;exact zu
   ·have z6:=List.all_eq_true.1 zj i (List.mem_range.2 (by omega));unfold qfe at z6;rw[ho]at z6;simp only[Bool.and_eq_true]at z6;exact z6.1.2)) yi (fun listed a' w'=>listed.size=l.toArray.size∧∃ (vs:Nat→Value) (w1:World),FrameIs l.toArray n a vs listed a'∧Below w.heap.size w w1∧
   (∀ (i:Nat) (s:qa1),i<n→listed.getD i false=true→S[i]?=some s→s.1.T w1 (vs i))∧
   (listed.getD n false=false→w'=w1)∧(listed.getD n false=true→(∀ i,i<n→i≠e→listed.getD i false=true)∧∀ ve,(listed.getD e false=true→ve=vs e)→(listed.getD e false=false→∀ w,se.1.T w ve)→wpList P l.toArray Q (l.drop (n+1)) (qax a (l.take n) (fun j=>if j=e then ve else vs j) 0) w')) ?_ ?_ ?_
 ·exact⟨by simp,fun _=>undef,{ w with drawn:=w.drawn+1 },zI,⟨rfl,rfl,rfl,jlr _,fun _ _=>rfl⟩,fun i s _ h=>(by rw[Go.getD_replicate_false]at h;cases h),fun _=>rfl,fun h=>(by rw[Go.getD_replicate_false]at h;cases h)⟩
 ·intro i hi listed a' w' hr inv hJ;obtain⟨zt,vs,w1,hf,hb,za,hA,zD⟩:=hJ;have zz:i<listed.size:=by rw[zt];omega
  have hu:listed.getD i false=false:=Go.getD_both (mem_ready.1 hr).1;by_cases zK:i=n
  ·-- the store
   subst zK;have zm:=hA hu;subst zm;have z0:∀ j,j<i→j≠e→listed.getD j false=true:=fun j hj z2=>by
    have:=List.all_eq_true.1 zl j (List.mem_range.2 hj);simp only[Bool.or_eq_true,beq_iff_eq]at this;rcases this with h|h
    ·exact absurd h z2
    ·exact z4 i (by omega) listed hr j h
   -- some value for the late one
   have y6:∃ v0,(listed.getD e false=true→v0=vs e)∧(listed.getD e false=false→∀ w,se.1.T w v0):=by
    cases zn:listed.getD e false with
    | true=>exact⟨vs e,fun _=>rfl,fun h=>by cases h⟩
    | false=>
     have ym:∀ j,j<i→Region.waitsFor .any l.toArray e j=true→listed.getD j false=true:=fun j hj yn=>by
      by_cases z2:j=e
      ·subst z2;obtain⟨oj,zc,x,hx,zE,zW⟩:=Region.waitsFor_spec yn;have z6:=List.all_eq_true.1 zj j (List.mem_range.2 hj);unfold qfe at z6;rw[zc]at z6;simp only[Bool.and_eq_true]at z6;have:=Array.all_eq_true'.1 z6.1.2 x hx;simp only[zE,Bool.not_true,Bool.false_or,decide_eq_true_eq]at this;omega
      ·exact z0 j hj z2
     obtain⟨u,_,hT⟩:=y1 oe se zi zo a' w' (z5 e zG se zo listed a' w' w' vs hf ym za rfl);exact⟨u,(fun h=>by cases h),fun _=>hT⟩
   have zw:∀ ve,(listed.getD e false=true→ve=vs e)→(listed.getD e false=false→∀ w,se.1.T w ve)→
     ∃ w2,Below w.heap.size w w2∧(execOp a'.eval so).run P w'=.ok .skip w2∧wpList P l.toArray Q (l.drop (i+1)) (qax a (l.take i) (fun j=>if j=e then ve else vs j) 0) w2:=fun ve h1 h2=>by
    have hT:∀ (j:Nat) (s:qa1),S[j]?=some s→s.1.T w' ((fun j=>if j=e then ve else vs j) (0+j)):=fun j s hs=>by
     have hj:j<i:=by have:=(List.getElem?_eq_some_iff.1 hs).1;omega
     rw[Nat.zero_add];by_cases z2:j=e
     ·subst z2;simp only[if_pos];rw[zo]at hs;cases hs
      cases zn:listed.getD j false with
      | true=>rw[h1 zn];exact za j _ hj zn zo
      | false=>exact h2 zn w'
     ·simp only[if_neg z2];exact za j s hj (z0 j hj z2) hs
    obtain⟨w2,zp,z8,yo⟩:=toldEndS_use (vs:=fun j=>if j=e then ve else vs j) (l.take i) S a 0 zf hT (zH w' hb);refine⟨w2,zp,z8 a' fun k hk=>?_,yo⟩
    -- the slots that the store reads
    have zg:FrameIs l.toArray i a (fun j=>if j=e then ve else vs j) (Array.replicate l.toArray.size false) a:=⟨rfl,rfl,fun j d _ h _=>(by rw[Go.getD_replicate_false]at h;cases h),fun _ _=>rfl⟩;obtain⟨lV,zM,hV⟩:=qc2 (ops:=l.toArray) (n:=i) (a0:=a) (vs:=fun j=>if j=e then ve else vs j) (fun j hj=>by obtain⟨o,d,_,_,_,h1,h2,h3⟩:=z7 j hj;exact⟨d,h1,h2,h3⟩)
     (l.take i) 0 (Array.replicate l.toArray.size false) a (by omega) (fun j hj=>by rw[zS]at hj;simp[List.getElem?_take,hj]) (by simp;omega) (fun j hj=>by rw[Go.getD_replicate_false];simp) zg
    by_cases hx:∃ j,j<i∧qbi l.toArray j=some k
    ·obtain⟨j,hj,z9⟩:=hx;have z2:j≠e:=fun h=>by
      subst h;rw[qbi,zP]at z9;exact yd k hk oe zi z9
     rw[hf.put j k hj (z0 j hj z2) z9,hV.put j k hj (zM j hj) z9];simp only[if_neg z2]
    ·rw[hf.old k fun j hj _ h=>hx ⟨j,hj,h⟩,hV.old k fun j hj _ h=>hx ⟨j,hj,h⟩]
   obtain⟨v0,yk,yl⟩:=y6;obtain⟨w2,zp,z8,_⟩:=zw v0 yk yl;unfold wpOp;simp only[zk];have hw:Region.wanted so (yielded l.toArray a'.tmps)=true:=by simp[Region.wanted,yf]
   rw[if_pos hw];refine .inl ?_;unfold Oper.wp;rw[z8];simp only[Oper.upon];rw[ye];have zr:∀ j,j<i→(listed.setIfInBounds i true).getD j false=listed.getD j false:=fun j hj=>qaX _ _ _ (by omega) _;refine⟨by simpa using zt,vs,w',⟨hf.defers,hf.size,fun j d hj z3 z9=>hf.put j d hj (by rw[← zr j hj];exact z3) z9,fun d yb=>hf.old d fun j hj z3=>yb j hj (by rw[zr j hj];exact z3)⟩,hb,
    fun j s hj z3 hs=>za j s hj (by rw[← zr j hj];exact z3) hs,fun h=>?_,fun _=>⟨fun j hj z2=>by rw[zr j hj];exact z0 j hj z2,fun ve h1 h2=>?_⟩⟩
   ·rw[qcX _ _ zz]at h;cases h
   ·rw[zr e zG]at h1 h2;obtain⟨w3,_,ze,zT⟩:=zw ve h1 h2;rw[z8]at ze
    cases ze
    exact zT
  ·have zd:i<n:=by omega
   obtain⟨o,d,ho,hg,y0,hd,zV,zY⟩:=z7 i zd;obtain⟨s,hs⟩:∃ s,S[i]?=some s:=⟨S[i]'(by omega),List.getElem?_eq_getElem (by omega)⟩;have zN:=zJ i o s (by simpa[List.getElem?_take,zd]using ho) hs;have z1:∀ j,j<n→Region.waitsFor .any l.toArray i j=true→listed.getD j false=true:=fun j hj h=>z4 i (by omega) listed hr j h;have hw:Region.wanted o (yielded l.toArray a'.tmps)=true:=by
    unfold Region.wanted
    cases zy:o.guard with
    | none=>rfl
    | some jb=>
     obtain⟨j,b⟩:=jb;obtain⟨hj,zm⟩:=hg _ zy;have z3:=z1 j hj zm;obtain⟨t,ht⟩:∃ t,S[j]?=some t:=⟨S[j]'(by omega),List.getElem?_eq_getElem (by omega)⟩;obtain⟨oj,dj,zc,_,zO,z9,zF,_⟩:=z7 j hj;have hv:=qfd y7 i o (by simpa[List.getElem?_take,zd]using ho) j b zy t ht w1 (vs j) (za j t hj z3 ht);have hp:=hf.put j dj hj z3 z9;rw[hv]at hp;have zv:dj<a'.tmps.size:=by rw[hf.size];exact zF
     have:yielded l.toArray a'.tmps j=some b:=by
      unfold yielded;rw[zc];simp only[Option.bind_some,zO];rw[Array.getD_eq_getD_getElem?,Array.getElem?_eq_getElem zv,Option.getD_some]at hp;rw[Array.getElem?_eq_getElem zv,hp]
     simp[this]
   unfold wpOp;simp only[ho];rw[if_pos hw];refine .inl ?_;have zs:(listed.setIfInBounds i true).getD n false=listed.getD n false:=qaX _ _ _ (by omega) _
   cases zA:listed.getD n false with
   | false=>
    have zm:=hA zA;subst zm;refine qeT (zN a' w' hb (z5 i zd s hs listed a' w' w' vs hf z1 za rfl)) fun v zB zp hv=>?_;rw[y0];refine⟨by simpa using zt,_,zB,hf.step zd zz hu hd zV zY v,hb.trans (zp.mono hb.size),fun j t hj z3 ht=>?_,fun _=>rfl,fun h=>(by rw[zs,zA]at h;cases h)⟩;by_cases zb:j=i
    ·subst zb;rw[hs]at ht;cases ht;simp only[if_pos];exact hv
    ·simp only[if_neg zb];rw[qaX _ _ _ (Ne.symm zb)]at z3;exact t.1.keep _ _ _ zp (za j t hj z3 ht)
   | true=>
    -- the late one,behind the store
    obtain⟨z0,hK⟩:=zD zA;have y8:i=e:=by
     by_cases h:i=e
     ·exact h
     ·rw[z0 i zd h]at hu;cases hu
    subst y8;rw[hs]at zo;cases zo;rw[zP]at ho;cases ho;obtain⟨u,z8,hT⟩:=y1 oe se zi hs a' w1 (z5 i zd se hs listed a' w1 w1 vs hf z1 za rfl);unfold Oper.wp;rw[z8 w'];simp only[Oper.upon];rw[y0];refine⟨by simpa using zt,_,w1,hf.step zd zz hu hd zV zY u,hb,fun j t hj z3 ht=>?_,fun h=>(by rw[zs,zA]at h;cases h),fun _=>⟨fun j hj z2=>?_,fun ve h1 _=>?_⟩⟩
    ·by_cases zb:j=i
     ·subst zb;rw[hs]at ht;cases ht;simp only[if_pos];exact hT w1
     ·simp only[if_neg zb];rw[qaX _ _ _ (Ne.symm zb)]at z3;exact za j t hj z3 ht
    ·rw[qaX _ _ _ (Ne.symm z2)];exact z0 j hj z2
    ·have y2:=h1 (qcX _ _ zz);simp only[if_pos]at y2;subst y2;have:=hK ve (fun h=>by rw[hu]at h;cases h) (fun _=>hT);have zh:(fun j=>if j=i then ve else if j=i then ve else vs j)=(fun j=>if j=i then ve else vs j):=by
      funext j;by_cases zb:j=i<;>simp[zb]
     rw[zh];exact this
 ·intro listed a' w' z0 hJ;obtain⟨zt,vs,w1,hf,hb,za,_,zD⟩:=hJ;obtain⟨_,hK⟩:=zD (z0 n (by omega));have zn:=z0 e (by omega);have:=hK (vs e) (fun _=>rfl) (fun h=>by rw[zn]at h;cases h);have zh:(fun j=>if j=e then vs e else vs j)=vs:=by
   funext j;by_cases z2:j=e<;>simp[z2]
  rw[zh]at this;have zg:FrameIs l.toArray n a vs (Array.replicate l.toArray.size false) a:=⟨rfl,rfl,fun j d _ h _=>(by rw[Go.getD_replicate_false]at h;cases h),fun _ _=>rfl⟩;obtain⟨lV,zM,hV⟩:=qc2 (ops:=l.toArray) (n:=n) (a0:=a) (vs:=vs) (fun i hi=>by obtain⟨o,d,_,_,_,h1,h2,h3⟩:=z7 i hi;exact⟨d,h1,h2,h3⟩)
   (l.take n) 0 (Array.replicate l.toArray.size false) a (by omega) (fun j hj=>by rw[zS]at hj;simp[List.getElem?_take,hj]) (by simp;omega) (fun i hi=>by rw[Go.getD_replicate_false];simp) zg
  rw[hf.eq hV (fun i hi=>z0 i (by omega)) zM];exact this
end
end
end Go.Proofs.YteomfleofeeofaaGreatDoor
