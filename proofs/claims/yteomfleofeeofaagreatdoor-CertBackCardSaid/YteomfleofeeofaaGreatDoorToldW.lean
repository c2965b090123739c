/- As XToldLate, where the late operation reads what is told of a value in its world. -/
import Derived.Test.YteomfleofeeofaaGreatDoorToldG
namespace Go.Proofs.YteomfleofeeofaaGreatDoor
set_option maxRecDepth 100000
set_option linter.unusedSimpArgs false
set_option linter.unusedVariables false
section
open Go.RowKit Go.Sort
section
variable {P : Program} {ops : Array Oper}
theorem wp_region_told_latew {id:Nat} {Q:Exit→Act→World→Prop} {a:Act} {w:World} {l:List Oper} (n e m:Nat) (rs:List Nat) (S:List qaI) (so:Oper) (hso:l[n]?=some so) (hm:P.follows .mixedOrders=true)
  (hB:qeH l.toArray n e m (S.map fun s=>s.2)=true) (hsz:a.tmps.size=m) (hgd:qbu S (l.take n)) (hrs:∀ k ∈ rs,∀ o,l[e]?=some o→o.dst≠some k)
  (hob:qaV P w (l.take n) S a (l.take n) S)
  (hpe:∀ o s,l[e]?=some o→S[e]?=some s→∀ (a':Act) (w':World),(∀ k ∈ s.2,qb9 (l.take n) S a k a' w')→∃ u,(∀ w'',(execOp a'.eval o).run P w''=.ok (.value u) w'')∧∀ w1,s.1.T w1 u)
  (hend:∀ w1,Below w.heap.size w w1→qc6 P l.toArray Q so rs (l.drop (n+1)) w w1 (l.take n) S a):(Code.region id l.toArray true).wp P Q a w:=by
 have hB0:=hB;unfold qeH at hB0
 simp only [Bool.and_eq_true,decide_eq_true_eq] at hB0
 obtain ⟨⟨⟨⟨⟨⟨⟨⟨hn,hsk⟩,hch⟩,hops⟩,hrds⟩,hlen⟩,hen⟩,hst⟩,hsq⟩:=hB0
 have hn':n+1<l.length:=by simpa using hn
 have hsoA:l.toArray[n]?=some so:=by simpa using hso
 rw [hsoA] at hst
 simp only [Bool.and_eq_true,Option.isNone_iff_eq_none] at hst
 obtain ⟨⟨⟨hsg,hsd⟩,hsaft⟩,hswait⟩:=hst
 have htl:(l.take n).length=n:=by simp;omega
 obtain ⟨hSl0,hget⟩:=qcU hob;have hSl:=hSl0;rw [htl] at hSl
 have hopi:∀ i,i<n→∃ o d,l.toArray[i]?=some o∧(∀ g,o.guard=some g→g.1<n∧Region.waitsFor .any l.toArray i g.1=true)∧o.dst=some d∧qaS l.toArray i=some d∧d<a.tmps.size∧∀ j,j<n→j≠i→qaS l.toArray j≠some d:=fun i hi=>by
  have hop:=List.all_eq_true.1 hops i (List.mem_range.2 hi);unfold qcx at hop
  have hio:l.toArray[i]?=some l.toArray[i]:=Array.getElem?_eq_getElem (by simp;omega)
  rw [hio] at hop
  simp only [Bool.and_eq_true] at hop
  obtain ⟨⟨hg,_⟩,hd⟩:=hop
  cases hdd:l.toArray[i].dst with
  | none=>rw [hdd] at hd;cases hd
  | some d=>
   rw [hdd] at hd
   simp only [Bool.and_eq_true,decide_eq_true_eq] at hd
   refine ⟨_,d,hio,fun g hgg=>(by rw [hgg] at hg;simpa using hg),hdd,by rw [qaS,hio];exact hdd,by rw [hsz];exact hd.1,fun j hj hji e=>?_⟩
   have:=List.all_eq_true.1 hd.2 j (List.mem_range.2 hj)
   simp only [Bool.or_eq_true,beq_iff_eq,bne_iff_ne] at this
   rcases this with h | h
   ·exact hji h
   ·exact h e
 obtain ⟨se,hse⟩:∃ s,S[e]?=some s:=⟨S[e]'(by omega),List.getElem?_eq_getElem (by omega)⟩
 obtain ⟨oe,de,hoe,_,hode,hdste,hdeM,hneE⟩:=hopi e hen
 have hoeL:l[e]?=some oe:=by simpa using hoe
 have hfr0:FrameIs l.toArray n a (fun _=>undef) (Array.replicate l.toArray.size false) a:=⟨rfl,rfl,fun j d _ h _=>(by rw [Go.getD_replicate_false] at h;cases h),fun _ _=>rfl⟩
 -- what an operation reads
 have hfacts:∀ i,i<n→∀ s,S[i]?=some s→∀ (listed:Array Bool) (a':Act) (w1 w':World) (vs:Nat→Value),FrameIs l.toArray n a vs listed a'→(∀ j,j<n→Region.waitsFor .any l.toArray i j=true→listed.getD j false=true)→
   (∀ (j:Nat) (t:qaI),j<n→listed.getD j false=true→S[j]?=some t→t.1.T w1 (vs j))→(w1=w')→∀ k ∈ s.2,qb9 (l.take n) S a k a' w':=fun i hi s hs listed a' w1 w' vs hf hwaits hsp hcase k hk=>by
  have hR:=List.all_eq_true.1 hrds i (List.mem_range.2 hi);unfold qcc at hR
  have hki:k ∈ (S.map fun s=>s.2).getD i []:=by
   simp only [List.getD_eq_getElem?_getD,List.getElem?_map,hs,Option.map_some,Option.getD_some]
   exact hk
  have hR2:=List.all_eq_true.1 hR k hki;unfold qb9
  cases hgt:qbO (l.take n) S k with
  | none=>
   simp only
   exact hf.old k fun j hj _ e=>by
    obtain ⟨oj,dj,hoj,_,_,hdj,_,_⟩:=hopi j hj
    refine qcE hSl0 hgt j oj (by simpa [List.getElem?_take,hj] using hoj) ?_
    rw [qaS,hoj] at e;exact e
  | some t=>
   simp only
   obtain ⟨j,oj,sj,h1,h2,h3,ht⟩:=qcD hgt
   have hj:j<n:=by have:=(List.getElem?_eq_some_iff.1 h1).1;omega
   have hoj:l.toArray[j]?=some oj:=by simpa [List.getElem?_take,hj] using h1
   have hdj:qaS l.toArray j=some k:=by rw [qaS,hoj];exact h3
   have hR3:=List.all_eq_true.1 hR2 j (List.mem_range.2 hj)
   simp only [hdj,bne_self_eq_false,Bool.false_or,Bool.and_eq_true] at hR3
   have hlj:=hwaits j hj hR3.1;rw [hf.put j k hj hlj hdj];have hT:=hsp j sj hj hlj h2;rw [← ht] at hT;subst hcase;exact hT
 have hwaitsOf:∀ i,i<n+1→∀ listed:Array Bool,i ∈ Region.ready .any l.toArray listed→∀ j,Region.waitsFor .any l.toArray i j=true→listed.getD j false=true:=fun i hi listed hr j hw1=>by
  obtain ⟨oj,hoj,e,he,hbi,heq⟩:=Region.waitsFor_spec hw1;obtain ⟨_,o2,ho2,hall⟩:=mem_ready.1 hr;rw [hoj] at ho2;cases ho2;rw [← heq];exact hall e he hbi
 refine qcz (n+1) hm hn' hsk hch (fun i hi o ho=>(by
   by_cases hin:i=n
   ·subst hin;rw [hsoA] at ho;cases ho;exact hsaft
   ·have hop:=List.all_eq_true.1 hops i (List.mem_range.2 (by omega))
    unfold qcx at hop;rw [ho] at hop
    simp only [Bool.and_eq_true] at hop
    exact hop.1.2)) hsq (fun listed a' w'=>listed.size=l.toArray.size∧∃ (vs:Nat→Value) (w1:World),FrameIs l.toArray n a vs listed a'∧Below w.heap.size w w1∧
   (∀ (i:Nat) (s:qaI),i<n→listed.getD i false=true→S[i]?=some s→s.1.T w1 (vs i))∧
   (listed.getD n false=false→w'=w1)∧(listed.getD n false=true→(∀ i,i<n→i≠e→listed.getD i false=true)∧∀ ve,(listed.getD e false=true→ve=vs e)→(listed.getD e false=false→∀ w,se.1.T w ve)→wpList P l.toArray Q (l.drop (n+1)) (qav a (l.take n) (fun j=>if j=e then ve else vs j) 0) w')) ?_ ?_ ?_
 ·exact ⟨by simp,fun _=>undef,{ w with drawn:=w.drawn+1 },hfr0,⟨rfl,rfl,rfl,Nat.le_refl _,fun _ _=>rfl⟩,fun i s _ h=>(by rw [Go.getD_replicate_false] at h;cases h),fun _=>rfl,fun h=>(by rw [Go.getD_replicate_false] at h;cases h)⟩
 ·intro i hi listed a' w' hr inv hJ
  obtain ⟨hls,vs,w1,hf,hb,hsp,hA,hPB⟩:=hJ
  have hil:i<listed.size:=by rw [hls];omega
  have hu:listed.getD i false=false:=Go.getD_both (mem_ready.1 hr).1
  by_cases hin:i=n
  ·-- the store
   subst hin;have hw1:=hA hu;subst hw1
   have hall:∀ j,j<i→j≠e→listed.getD j false=true:=fun j hj hje=>by
    have:=List.all_eq_true.1 hswait j (List.mem_range.2 hj)
    simp only [Bool.or_eq_true,beq_iff_eq] at this
    rcases this with h | h
    ·exact absurd h hje
    ·exact hwaitsOf i (by omega) listed hr j h
   -- some value for the late one
   have hev:∃ v0,(listed.getD e false=true→v0=vs e)∧(listed.getD e false=false→∀ w,se.1.T w v0):=by
    cases hle:listed.getD e false with
    | true=>exact ⟨vs e,fun _=>rfl,fun h=>by cases h⟩
    | false=>
     have hwe:∀ j,j<i→Region.waitsFor .any l.toArray e j=true→listed.getD j false=true:=fun j hj hwj=>by
      by_cases hje:j=e
      ·subst hje
       obtain ⟨oj,hoj,x,hx,hbi,heq⟩:=Region.waitsFor_spec hwj;have hop:=List.all_eq_true.1 hops j (List.mem_range.2 hj);unfold qcx at hop;rw [hoj] at hop
       simp only [Bool.and_eq_true] at hop
       have:=Array.all_eq_true'.1 hop.1.2 x hx
       simp only [hbi,Bool.not_true,Bool.false_or,decide_eq_true_eq] at this
       omega
      ·exact hall j hj hje
     obtain ⟨u,_,hT⟩:=hpe oe se hoeL hse a' w' (hfacts e hen se hse listed a' w' w' vs hf hwe hsp rfl)
     exact ⟨u,(fun h=>by cases h),fun _=>hT⟩
   have huse:∀ ve,(listed.getD e false=true→ve=vs e)→(listed.getD e false=false→∀ w,se.1.T w ve)→
     ∃ w2,Below w.heap.size w w2∧(execOp a'.eval so).run P w'=.ok .skip w2∧wpList P l.toArray Q (l.drop (i+1)) (qav a (l.take i) (fun j=>if j=e then ve else vs j) 0) w2:=fun ve h1 h2=>by
    have hT:∀ (j:Nat) (s:qaI),S[j]?=some s→s.1.T w' ((fun j=>if j=e then ve else vs j) (0+j)):=fun j s hs=>by
     have hj:j<i:=by have:=(List.getElem?_eq_some_iff.1 hs).1;omega
     rw [Nat.zero_add]
     by_cases hje:j=e
     ·subst hje
      simp only [if_pos]
      rw [hse] at hs;cases hs
      cases hle:listed.getD j false with
      | true=>rw [h1 hle];exact hsp j _ hj hle hse
      | false=>exact h2 hle w'
     ·simp only [if_neg hje]
      exact hsp j s hj (hall j hj hje) hs
    obtain ⟨w2,hb2,hrun,hwp⟩:=qeq (vs:=fun j=>if j=e then ve else vs j) (l.take i) S a 0 hSl0 hT (hend w' hb)
    refine ⟨w2,hb2,hrun a' fun k hk=>?_,hwp⟩
    -- the slots that the store reads
    have hfr1:FrameIs l.toArray i a (fun j=>if j=e then ve else vs j) (Array.replicate l.toArray.size false) a:=⟨rfl,rfl,fun j d _ h _=>(by rw [Go.getD_replicate_false] at h;cases h),fun _ _=>rfl⟩
    obtain ⟨lV,hlV,hV⟩:=qbQ (ops:=l.toArray) (n:=i) (a0:=a) (vs:=fun j=>if j=e then ve else vs j) (fun j hj=>by obtain ⟨o,d,_,_,_,h1,h2,h3⟩:=hopi j hj;exact ⟨d,h1,h2,h3⟩)
     (l.take i) 0 (Array.replicate l.toArray.size false) a (by omega) (fun j hj=>by rw [htl] at hj;simp [List.getElem?_take,hj]) (by simp;omega) (fun j hj=>by rw [Go.getD_replicate_false];simp) hfr1
    by_cases hx:∃ j,j<i∧qaS l.toArray j=some k
    ·obtain ⟨j,hj,hdj⟩:=hx
     have hje:j≠e:=fun h=>by
      subst h;rw [qaS,hoe] at hdj;exact hrs k hk oe hoeL hdj
     rw [hf.put j k hj (hall j hj hje) hdj,hV.put j k hj (hlV j hj) hdj]
     simp only [if_neg hje]
    ·rw [hf.old k fun j hj _ h=>hx ⟨j,hj,h⟩,hV.old k fun j hj _ h=>hx ⟨j,hj,h⟩]
   obtain ⟨v0,hv1,hv2⟩:=hev;obtain ⟨w2,hb2,hrun,_⟩:=huse v0 hv1 hv2;unfold wpOp
   simp only [hsoA]
   have hw:Region.wanted so (yielded l.toArray a'.tmps)=true:=by simp [Region.wanted,hsg]
   rw [if_pos hw]
   refine .inl ?_
   unfold Oper.wp;rw [hrun]
   simp only [Oper.upon]
   rw [hsd]
   have hli:∀ j,j<i→(listed.setIfInBounds i true).getD j false=listed.getD j false:=fun j hj=>qaC _ _ _ (by omega) _
   refine ⟨by simpa using hls,vs,w',⟨hf.defers,hf.size,fun j d hj hlj hdj=>hf.put j d hj (by rw [← hli j hj];exact hlj) hdj,fun d hno=>hf.old d fun j hj hlj=>hno j hj (by rw [hli j hj];exact hlj)⟩,hb,
    fun j s hj hlj hs=>hsp j s hj (by rw [← hli j hj];exact hlj) hs,fun h=>?_,fun _=>⟨fun j hj hje=>by rw [hli j hj];exact hall j hj hje,fun ve h1 h2=>?_⟩⟩
   ·rw [qbG _ _ hil] at h;cases h
   ·rw [hli e hen] at h1 h2
    obtain ⟨w3,_,hrun3,hwp3⟩:=huse ve h1 h2;rw [hrun] at hrun3
    cases hrun3
    exact hwp3
  ·have hi':i<n:=by omega
   obtain ⟨o,d,ho,hg,hod,hd,hdm,hne⟩:=hopi i hi'
   obtain ⟨s,hs⟩:∃ s,S[i]?=some s:=⟨S[i]'(by omega),List.getElem?_eq_getElem (by omega)⟩
   have hobl:=hget i o s (by simpa [List.getElem?_take,hi'] using ho) hs
   have hwaits:∀ j,j<n→Region.waitsFor .any l.toArray i j=true→listed.getD j false=true:=fun j hj h=>hwaitsOf i (by omega) listed hr j h
   have hw:Region.wanted o (yielded l.toArray a'.tmps)=true:=by
    unfold Region.wanted
    cases hgg:o.guard with
    | none=>rfl
    | some jb=>
     obtain ⟨j,b⟩:=jb;obtain ⟨hj,hw1⟩:=hg _ hgg;have hlj:=hwaits j hj hw1
     obtain ⟨t,ht⟩:∃ t,S[j]?=some t:=⟨S[j]'(by omega),List.getElem?_eq_getElem (by omega)⟩
     obtain ⟨oj,dj,hoj,_,hodj,hdj,hdjm,_⟩:=hopi j hj
     have hv:=qcO hgd i o (by simpa [List.getElem?_take,hi'] using ho) j b hgg t ht w1 (vs j) (hsp j t hj hlj ht)
     have hp:=hf.put j dj hj hlj hdj;rw [hv] at hp
     have hsz2:dj<a'.tmps.size:=by rw [hf.size];exact hdjm
     have:yielded l.toArray a'.tmps j=some b:=by
      unfold yielded;rw [hoj]
      simp only [Option.bind_some,hodj]
      rw [Array.getD_eq_getD_getElem?,Array.getElem?_eq_getElem hsz2,Option.getD_some] at hp;rw [Array.getElem?_eq_getElem hsz2,hp]
     simp [this]
   unfold wpOp
   simp only [ho]
   rw [if_pos hw]
   refine .inl ?_
   have hlin:(listed.setIfInBounds i true).getD n false=listed.getD n false:=qaC _ _ _ (by omega) _
   cases hln:listed.getD n false with
   | false=>
    have hw1:=hA hln;subst hw1
    refine qcy (hobl a' w' hb (hfacts i hi' s hs listed a' w' w' vs hf hwaits hsp rfl)) fun v w'' hb2 hv=>?_
    rw [hod]
    refine ⟨by simpa using hls,_,w'',hf.step hi' hil hu hd hdm hne v,hb.trans (hb2.mono hb.size),fun j t hj hlj ht=>?_,fun _=>rfl,fun h=>(by rw [hlin,hln] at h;cases h)⟩
    by_cases hji:j=i
    ·subst hji;rw [hs] at ht;cases ht;simp only [if_pos];exact hv
    ·simp only [if_neg hji]
     rw [qaC _ _ _ (Ne.symm hji)] at hlj;exact t.1.keep _ _ _ hb2 (hsp j t hj hlj ht)
   | true=>
    -- the late one,behind the store
    obtain ⟨hall,hK⟩:=hPB hln
    have hie:i=e:=by
     by_cases h:i=e
     ·exact h
     ·rw [hall i hi' h] at hu;cases hu
    subst hie;rw [hs] at hse;cases hse;rw [hoe] at ho;cases ho;obtain ⟨u,hrun,hT⟩:=hpe oe se hoeL hs a' w1 (hfacts i hi' se hs listed a' w1 w1 vs hf hwaits hsp rfl);unfold Oper.wp;rw [hrun w']
    simp only [Oper.upon]
    rw [hod]
    refine ⟨by simpa using hls,_,w1,hf.step hi' hil hu hd hdm hne u,hb,fun j t hj hlj ht=>?_,fun h=>(by rw [hlin,hln] at h;cases h),fun _=>⟨fun j hj hje=>?_,fun ve h1 _=>?_⟩⟩
    ·by_cases hji:j=i
     ·subst hji;rw [hs] at ht;cases ht;simp only [if_pos];exact hT w1
     ·simp only [if_neg hji]
      rw [qaC _ _ _ (Ne.symm hji)] at hlj;exact hsp j t hj hlj ht
    ·rw [qaC _ _ _ (Ne.symm hje)];exact hall j hj hje
    ·have hve:=h1 (qbG _ _ hil)
     simp only [if_pos] at hve
     subst hve
     have:=hK ve (fun h=>by rw [hu] at h;cases h) (fun _=>hT)
     have hfun:(fun j=>if j=i then ve else if j=i then ve else vs j)=(fun j=>if j=i then ve else vs j):=by
      funext j
      by_cases hji:j=i <;> simp [hji]
     rw [hfun];exact this
 ·intro listed a' w' hall hJ
  obtain ⟨hls,vs,w1,hf,hb,hsp,_,hPB⟩:=hJ
  obtain ⟨_,hK⟩:=hPB (hall n (by omega))
  have hle:=hall e (by omega)
  have:=hK (vs e) (fun _=>rfl) (fun h=>by rw [hle] at h;cases h)
  have hfun:(fun j=>if j=e then vs e else vs j)=vs:=by
   funext j
   by_cases hje:j=e <;> simp [hje]
  rw [hfun] at this
  have hfr1:FrameIs l.toArray n a vs (Array.replicate l.toArray.size false) a:=⟨rfl,rfl,fun j d _ h _=>(by rw [Go.getD_replicate_false] at h;cases h),fun _ _=>rfl⟩
  obtain ⟨lV,hlV,hV⟩:=qbQ (ops:=l.toArray) (n:=n) (a0:=a) (vs:=vs) (fun i hi=>by obtain ⟨o,d,_,_,_,h1,h2,h3⟩:=hopi i hi;exact ⟨d,h1,h2,h3⟩)
   (l.take n) 0 (Array.replicate l.toArray.size false) a (by omega) (fun j hj=>by rw [htl] at hj;simp [List.getElem?_take,hj]) (by simp;omega) (fun i hi=>by rw [Go.getD_replicate_false];simp) hfr1
  rw [hf.eq hV (fun i hi=>hall i (by omega)) hlV]
  exact this
end
end
end Go.Proofs.YteomfleofeeofaaGreatDoor
