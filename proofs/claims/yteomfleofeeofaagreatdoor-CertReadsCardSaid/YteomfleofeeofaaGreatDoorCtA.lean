/- Times of the document as texts. -/
import Derived.Test.YteomfleofeeofaaGreatDoorDerS
namespace Go.Proofs.YteomfleofeeofaaGreatDoor
set_option maxRecDepth 100000
set_option linter.unusedSimpArgs false
set_option linter.unusedVariables false
section
def qaJ(y:Nat):Bool:=(y%4==0&&y%100 != 0) || y%400==0
def ylen(k:Nat):Nat:=if qaJ (1970+k)=true then 366 else 365
def qbP:Nat→Nat
 | 0=>0
 | k+1=>qbP k+ylen k
theorem qcH(y:Nat):qaJ y=true↔(y%4=0∧y%100≠0)∨y%400=0:=by
 simp[qaJ]
theorem ylen_val(k y z:Nat)(hy:y=1969+k)(hz:z=1970+k):ylen k+(y/4+y/400+z/100)=365+(z/4+z/400+y/100):=by
 rw[ylen,← hz];have e:z=y+1:=by omega
 clear hy hz;subst e;by_cases h:qaJ (y+1)=true
 ·rw[if_pos h];rw[qcH]at h;omega
 ·rw[if_neg h];rw[qcH]at h;omega
theorem qev:∀ k y,y=1969+k→qbP k+477+y/100=365*k+y/4+y/400
 | 0,y,hy=>by subst hy;rfl
 | k+1,y,hy=>by
  have ih:=qev k (y-1) (by omega);have h:=ylen_val k (y-1) y (by omega) (by omega);have e:qbP (k+1)=qbP k+ylen k:=rfl;rw[e];generalize (y-1)/4=a1 at *;generalize (y-1)/400=a2 at *;generalize (y-1)/100=a3 at *;generalize y/4=b1 at *;generalize y/400=b2 at *;generalize y/100=b3 at *;clear hy;omega
theorem ylen_le(k:Nat):365≤ylen k∧ylen k≤366:=by rw[ylen];split<;>omega
theorem qd5:∀ (a b:Nat),a≤b→qbP a≤qbP b
 | a,0,h=>by obtain rfl:a=0:=(by omega);exact jlr _
 | a,b+1,h=>by
  by_cases c:a=b+1
  ·rw[c];exact jlr _
  ·have:=qd5 a b (by omega);rw[qbP];omega
def mlen(lp:Bool)(j:Nat):Nat:=if j=1∧lp=true then 29 else [31,28,31,30,31,30,31,31,30,31,30,31].getD j 0
def qbv(lp:Bool):Nat→Nat
 | 0=>0
 | j+1=>qbv lp j+mlen lp j
theorem qfF(k:Nat):qbv (qaJ (1970+k)) 12=ylen k:=by
 rw[ylen]
 cases qaJ (1970+k)<;>decide
theorem qdY(lp:Bool)(j:Nat):mlen lp j≤31:=by
 match j with
 | 0|1|2|3|4|5|6|7|8|9|10|11=>cases lp<;>decide
 | j+12=>rw[mlen,if_neg (by omega)];simp
theorem qeF(lp:Bool):∀ (a b:Nat),a≤b→qbv lp a≤qbv lp b
 | a,0,h=>by obtain rfl:a=0:=(by omega);exact jlr _
 | a,b+1,h=>by
  by_cases c:a=b+1
  ·rw[c];exact jlr _
  ·have:=qeF lp a b (by omega);rw[qbv];omega
def yrF:Nat→Nat→Nat→Nat×Nat
 | 0,k,r=>(k,r)
 | f+1,k,r=>if r<ylen k then (k,r) else yrF f (k+1) (r-ylen k)
def moF(lp:Bool):Nat→Nat→Nat→Nat×Nat
 | 0,j,r=>(j,r)
 | f+1,j,r=>if r<mlen lp j then (j,r) else moF lp f (j+1) (r-mlen lp j)
theorem yrF_facts:∀ (f k r:Nat),r<365*(f+1)→qbP (yrF f k r).1+(yrF f k r).2=qbP k+r∧(yrF f k r).2<ylen (yrF f k r).1
 | 0,k,r,h=>⟨rfl,by have:=ylen_le k;show r<ylen k;omega⟩
 | f+1,k,r,h=>by
  have hl:=ylen_le k;rw[yrF];by_cases c:r<ylen k
  ·rw[if_pos c];exact⟨rfl,c⟩
  ·rw[if_neg c];obtain⟨a,b⟩:=yrF_facts f (k+1) (r-ylen k) (by omega);rw[qbP]at a;exact⟨by omega,b⟩
theorem moF_facts(lp:Bool):∀ (f j r:Nat),f+j=12→qbv lp j+r<qbv lp 12→qbv lp (moF lp f j r).1+(moF lp f j r).2=qbv lp j+r∧(moF lp f j r).2<mlen lp (moF lp f j r).1∧(moF lp f j r).1<12
 | 0,j,r,h,hr=>by
  obtain rfl:j=12:=(by omega);omega
 | f+1,j,r,h,hr=>by
  rw[moF];by_cases c:r<mlen lp j
  ·rw[if_pos c];exact⟨rfl,c,by omega⟩
  ·rw[if_neg c];obtain⟨a,b,d⟩:=moF_facts lp f (j+1) (r-mlen lp j) (by omega) (by rw[qbv];omega);rw[qbv]at a;exact⟨by omega,b,d⟩
def yrOf(z0:Nat):Nat×Nat:=yrF 8040 0 z0
def moOf(z0:Nat):Nat×Nat:=moF (qaJ (1970+(yrOf z0).1)) 12 0 (yrOf z0).2
def qdB(z0:Nat):Nat:=(1970+(yrOf z0).1)*10000+((moOf z0).1+1)*100+((moOf z0).2+1)
theorem qdS(z0:Nat)(h:z0≤2932896):qbP (yrOf z0).1+(yrOf z0).2=z0∧(yrOf z0).2<ylen (yrOf z0).1∧(yrOf z0).1≤8029:=by
 obtain⟨a,b⟩:=yrF_facts 8040 0 z0 (by omega);have e:qbP 0=0:=rfl;rw[e,Nat.zero_add]at a;refine⟨a,b,?_⟩;by_cases c:(yrOf z0).1≤8029
 ·exact c
 ·exfalso;have m:=qd5 8030 (yrOf z0).1 (by omega);have v:=qev 8030 9999 rfl;rw[yrOf]at m;omega
theorem qe5(z0:Nat)(h:z0≤2932896):qbv (qaJ (1970+(yrOf z0).1)) (moOf z0).1+(moOf z0).2=(yrOf z0).2∧(moOf z0).2<mlen (qaJ (1970+(yrOf z0).1)) (moOf z0).1∧(moOf z0).1<12:=by
 obtain⟨a,b,c⟩:=qdS z0 h;have:=moF_facts (qaJ (1970+(yrOf z0).1)) 12 0 (yrOf z0).2 rfl (by rw[qfF,qbv,Nat.zero_add];exact b);rw[qbv,Nat.zero_add]at this;exact this
theorem yr_of(z0 k r:Nat)(h:z0≤2932896)(h1:qbP k+r=z0)(h2:r<ylen k):yrOf z0=(k,r):=by
 obtain⟨a,b,c⟩:=qdS z0 h;have e:(yrOf z0).1=k:=by
  rcases Nat.lt_trichotomy (yrOf z0).1 k with d|d|d
  ·have m:=qd5 ((yrOf z0).1+1) k d;rw[qbP]at m;omega
  ·exact d
  ·have m:=qd5 (k+1) (yrOf z0).1 d;rw[qbP]at m;omega
 rw[e]at a;exact Prod.ext e (by omega)
theorem mo_of(z0 j e:Nat)(h:z0≤2932896)(h1:qbv (qaJ (1970+(yrOf z0).1)) j+e=(yrOf z0).2)(h2:e<mlen (qaJ (1970+(yrOf z0).1)) j):moOf z0=(j,e):=by
 obtain⟨a,b,c⟩:=qe5 z0 h;generalize qaJ (1970+(yrOf z0).1)=lp at *;have q:(moOf z0).1=j:=by
  rcases Nat.lt_trichotomy (moOf z0).1 j with d|d|d
  ·have m:=qeF lp ((moOf z0).1+1) j d;rw[qbv]at m;omega
  ·exact d
  ·have m:=qeF lp (j+1) (moOf z0).1 d;rw[qbv]at m;omega
 rw[q]at a;exact Prod.ext q (by omega)
theorem dateW_bound(z0:Nat)(h:z0≤2932896):19700101≤qdB z0∧qdB z0<100000000:=by
 obtain⟨_,_,c⟩:=qdS z0 h;obtain⟨_,b,d⟩:=qe5 z0 h;have:=qdY (qaJ (1970+(yrOf z0).1)) (moOf z0).1;rw[qdB];omega
theorem dateW_lt(a b:Nat)(h:a<b)(hb:b≤2932896):qdB a<qdB b:=by
 obtain⟨a1,a2,a3⟩:=qdS a (by omega);obtain⟨b1,b2,b3⟩:=qdS b hb;obtain⟨c1,c2,c3⟩:=qe5 a (by omega);obtain⟨d1,d2,d3⟩:=qe5 b hb;have l1:=qdY (qaJ (1970+(yrOf a).1)) (moOf a).1;have l2:=qdY (qaJ (1970+(yrOf b).1)) (moOf b).1;rcases Nat.lt_trichotomy (yrOf a).1 (yrOf b).1 with d|d|d
 ·rw[qdB,qdB];omega
 ·have hr:(yrOf a).2<(yrOf b).2:=by rw[d]at a1;omega
  rw[d]at c1 c2;rcases Nat.lt_trichotomy (moOf a).1 (moOf b).1 with e|e|e
  ·rw[qdB,qdB,d];have l3:=qdY (qaJ (1970+(yrOf b).1)) (moOf a).1;omega
  ·rw[qdB,qdB,d,e];rw[e]at c1;omega
  ·exfalso;have m:=qeF (qaJ (1970+(yrOf b).1)) ((moOf b).1+1) (moOf a).1 e;rw[qbv]at m;omega
 ·exfalso;have m:=qd5 ((yrOf b).1+1) (yrOf a).1 d;rw[qbP]at m;omega
def hms(s:Nat):Nat:=s/3600*10000+s/60%60*100+s%60
def timV(n:Nat):Nat:=qdB (n/86400)*1000000+hms (n%86400)
theorem hms_parts(s:Nat):∃ h m c,s=3600*h+60*m+c∧m<60∧c<60∧hms s=h*10000+m*100+c:=by
 refine⟨s/3600,s/60%60,s%60,?_,Nat.mod_lt _ (by omega),Nat.mod_lt _ (by omega),rfl⟩;have e:s/60/60=s/3600:=Nat.div_div_eq_div_mul s 60 60;rw[← e];generalize hq:s/60=q;omega
theorem hms_lt(a b:Nat)(h:a<b)(hb:b<86400):hms a<hms b∧hms b<1000000:=by
 obtain⟨h1,m1,c1,e1,l1,l2,q1⟩:=hms_parts a;obtain⟨h2,m2,c2,e2,l3,l4,q2⟩:=hms_parts b;rw[q1,q2];clear q1 q2;omega
theorem timV_lt(m n:Nat)(h:m<n)(hn:n≤253402300799):timV m<timV n:=by
 have q1:m/86400≤n/86400:=Nat.div_le_div_right (jll h);have hm:hms (m%86400)<1000000:=by rw[hms];omega
 rw[timV,timV];by_cases c:m/86400=n/86400
 ·have:=(hms_lt (m%86400) (n%86400) (by omega) (by omega)).1;rw[c];omega
 ·have:=dateW_lt (m/86400) (n/86400) (by omega) (by omega);omega
theorem qeO(n:Nat)(hn:n≤253402300799):timV n<100000000000000:=by
 have:=(dateW_bound (n/86400) (by omega)).2;have hm:hms (n%86400)<1000000:=by rw[hms];omega
 rw[timV];omega
def digL:Nat→Nat→List UInt8
 | 0,_=>[]
 | k+1,n=>digL k (n/10)++[UInt8.ofNat (48+n%10)]
theorem qb3:∀ k n,(digL k n).length=k
 | 0,_=>rfl
 | k+1,n=>by rw[digL,List.length_append,qb3];rfl
theorem digL_byte:∀ k n,∀ x ∈ digL k n,48≤x.toNat∧x.toNat≤57
 | 0,_,x,h=>by cases h
 | k+1,n,x,h=>by
  rw[digL]at h;rcases List.mem_append.1 h with h|h
  ·exact digL_byte k _ x h
  ·rw[List.mem_singleton.1 h,UInt8.toNat_ofNat'];omega
theorem qeZ(k:Nat):∀ (j a b:Nat),b<10^j→digL (k+j) (a*10^j+b)=digL k a++digL j b
 | 0,a,b,h=>by
  obtain rfl:b=0:=(by simpa using h);simp[digL]
 | j+1,a,b,h=>by
  rw[Nat.pow_succ]at h;have e1:(a*10^(j+1)+b)/10=a*10^j+b/10:=by
   rw[Nat.pow_succ,← Nat.mul_assoc];omega
  have e2:(a*10^(j+1)+b)%10=b%10:=by
   rw[Nat.pow_succ,← Nat.mul_assoc];omega
  rw[show k+(j+1)=(k+j)+1 by omega,digL,e1,e2,qeZ k j a (b/10) (by omega),digL,List.append_assoc]
theorem digL_inj:∀ (k a b:Nat),a<10^k→b<10^k→digL k a=digL k b→a=b
 | 0,a,b,ha,hb,_=>by simp at ha hb;omega
 | k+1,a,b,ha,hb,h=>by
  rw[Nat.pow_succ]at ha hb;rw[digL,digL]at h;obtain⟨h1,h2⟩:=List.append_inj' h rfl;have e1:=digL_inj k _ _ (by omega) (by omega) h1;have e2:=congrArg UInt8.toNat (List.singleton_inj.1 h2);rw[UInt8.toNat_ofNat',UInt8.toNat_ofNat']at e2;omega
def timB(n:Nat):ByteArray:=⟨(digL 14 (timV n)++[90]).toArray⟩
def isTm(n:Int):Bool:=decide (0≤n)&&decide (n≤253402300799)
def timX(n:Int):ByteArray:=if isTm n=true then timB n.toNat else ⟨#[]⟩
def timE(n:Int):Int:=if isTm n=true then 0 else 1
theorem qc7(n:Nat):(timB n).data.toList=digL 14 (timV n)++[90]:=rfl
theorem qgh(n:Nat):(timB n).size=15:=by
 show (digL 14 (timV n)++[90]).length=15;rw[List.length_append,qb3]
 rfl
theorem qdN(n:Int):isTm n=true↔0≤n∧n≤253402300799:=by simp[isTm]
theorem ten14:(10:Nat)^14=100000000000000:=by decide
theorem less_snoc:∀ (a b:List UInt8) (x y:UInt8),a.length=b.length→Op.bytesLess (a++[x]) (b++[y])=(Op.bytesLess a b || (a==b&&decide (x<y)))
 | [],[],x,y,_=>by
  show Op.bytesLess [x] [y]=_;rw[Op.bytesLess,Op.bytesLess,Op.bytesLess];simp
 | [],_ :: _,x,y,h=>by cases h
 | _ :: _,[],x,y,h=>by cases h
 | p :: a,q :: b,x,y,h=>by
  rw[List.cons_append,List.cons_append,Op.bytesLess,less_snoc a b x y (by simpa using h),Op.bytesLess];by_cases c:p=q
  ·subst c;simp
  ·have hc:(p==q)=false:=by simpa using c
   have hd:(p :: a==q :: b)=false:=by simp[c]
   rw[hc,hd];simp
theorem less_same:∀ (a b:List UInt8) (x:UInt8),a.length=b.length→Op.bytesLess (a++[x]) (b++[x])=Op.bytesLess a b:=fun a b x h=>by
 rw[less_snoc a b x x h];simp
theorem dig_less:∀ (k a b:Nat),a<10^k→b<10^k→Op.bytesLess (digL k a) (digL k b)=decide (a<b)
 | 0,a,b,ha,hb=>by
  simp at ha hb;subst ha hb
  rfl
 | k+1,a,b,ha,hb=>by
  rw[Nat.pow_succ]at ha hb;rw[digL,digL,less_snoc _ _ _ _ (by rw[qb3,qb3]),dig_less k (a/10) (b/10) (by omega) (by omega)];by_cases c:a/10=b/10
  ·rw[c,decide_eq_false (Nat.lt_irrefl _),Bool.false_or,beq_self_eq_true,Bool.true_and];apply decide_eq_decide.2;rw[UInt8.lt_iff_toNat_lt,UInt8.toNat_ofNat',UInt8.toNat_ofNat'];omega
  ·have z0:(digL k (a/10)==digL k (b/10))=false:=by
    rw[beq_eq_false_iff_ne];exact fun h=>c (digL_inj k _ _ (by omega) (by omega) h)
   rw[z0,Bool.false_and,Bool.or_false];apply decide_eq_decide.2;omega
theorem timB_less(m n:Nat)(hm:m≤253402300799)(hn:n≤253402300799):Op.bytesLess (timB m).data.toList (timB n).data.toList=decide (m<n):=by
 rw[qc7,qc7,less_same _ _ _ (by rw[qb3,qb3]),dig_less 14 _ _ (by rw[ten14];exact qeO m hm) (by rw[ten14];exact qeO n hn)];apply decide_eq_decide.2;constructor
 ·intro h;rcases Nat.lt_trichotomy m n with d|d|d
  ·exact d
  ·subst d;omega
  ·have:=timV_lt n m d hm;omega
 ·exact fun h=>timV_lt m n h hn
def valL(l:List UInt8):Nat:=l.foldl (fun v x=>v*10+(x.toNat-48)) 0
theorem valL_snoc(l:List UInt8)(x:UInt8):valL (l++[x])=valL l*10+(x.toNat-48):=by
 rw[valL,List.foldl_append]
 rfl
theorem valL_dig:∀ (k:Nat) (l:List UInt8),l.length=k→(∀ x ∈ l,48≤x.toNat∧x.toNat≤57)→digL k (valL l)=l∧valL l<10^k
 | 0,l,h,_=>by
  obtain rfl:=List.length_eq_zero_iff.1 h;exact⟨rfl,by decide⟩
 | k+1,l,h,hd=>by
  rcases List.eq_nil_or_concat l with e|⟨i,x,e⟩
  ·subst e;cases h
  ·subst e;rw[List.concat_eq_append]at h hd ⊢;have hi:i.length=k:=by rw[List.length_append]at h;simpa using h
   obtain⟨a,b⟩:=valL_dig k i hi (fun y hy=>hd y (List.mem_append.2 (.inl hy)));have hx:=hd x (List.mem_append.2 (.inr (by simp)));rw[valL_snoc,digL,show (valL i*10+(x.toNat-48))/10=valL i by omega,show (valL i*10+(x.toNat-48))%10=x.toNat-48 by omega,a,Nat.pow_succ];refine⟨?_,by omega⟩;rw[show 48+(x.toNat-48)=x.toNat by omega,UInt8.ofNat_toNat]
theorem valL_of(k n:Nat)(h:n<10^k):valL (digL k n)=n:=by
 obtain⟨a,b⟩:=valL_dig k (digL k n) (qb3 k n) (digL_byte k n);exact digL_inj k _ _ b h a
def isTx(s:ByteArray):Bool:=s.size==15&&(s.data.toList.getD 14 0==90)&&((s.data.toList.take 14).all fun x=>decide (48≤x.toNat)&&decide (x.toNat≤57))
def numT(s:ByteArray):Nat:=valL (s.data.toList.take 14)
def bsF:Nat→Nat→Nat→Nat→Nat
 | 0,low,_,_=>low
 | f+1,low,high,v=>if low<high then (if timV ((low+high)/2)<v then bsF f ((low+high)/2+1) high v else bsF f low ((low+high)/2) v) else low
def atS(s:ByteArray):Int:=if isTx s=true then (if timV (bsF 38 0 253402300799 (numT s))=numT s then ((bsF 38 0 253402300799 (numT s):Nat):Int) else -1) else -1
theorem bsF_finds(n:Nat):∀ (f low z0:Nat),low≤n→n≤z0→z0≤253402300799→z0-low<2^f→bsF f low z0 (timV n)=n
 | 0,low,z0,h1,h2,_,h4=>by
  simp at h4;show low=n;omega
 | f+1,low,z0,h1,h2,h3,h4=>by
  rw[Nat.pow_succ]at h4;rw[bsF];by_cases c:low<z0
  ·rw[if_pos c];by_cases d:(low+z0)/2<n
   ·rw[if_pos (timV_lt _ _ d (by omega))];exact bsF_finds n f _ _ (by omega) h2 h3 (by omega)
   ·have z1:¬ timV ((low+z0)/2)<timV n:=by
     rcases Nat.lt_or_eq_of_le (Nat.le_of_not_lt d)with e|e
     ·have:=timV_lt n ((low+z0)/2) e (by omega);omega
     ·rw[← e];omega
    rw[if_neg z1];exact bsF_finds n f _ _ h1 (by omega) (by omega) (by omega)
  ·rw[if_neg c];omega
theorem bsF_le:∀ (f low z0 v:Nat),low≤z0→bsF f low z0 v≤z0
 | 0,low,z0,v,h=>h
 | f+1,low,z0,v,h=>by
  rw[bsF];split
  ·split
   ·exact bsF_le f _ _ v (by omega)
   ·have:=bsF_le f low ((low+z0)/2) v (by omega);omega
  ·exact h
theorem qgK(s:ByteArray)(h:isTx s=true):s.data.toList=digL 14 (numT s)++[90]∧numT s<10^14∧s.size=15:=by
 rw[isTx,Bool.and_eq_true,Bool.and_eq_true]at h;obtain⟨⟨h1,h2⟩,h3⟩:=h;have hs:s.size=15:=by simpa using h1
 have hl:s.data.toList.length=15:=by rw[← Lib.size_eq];exact hs
 have hd:∀ x ∈ s.data.toList.take 14,48≤x.toNat∧x.toNat≤57:=fun x hx=>by
  have:=List.all_eq_true.1 h3 x hx;simpa using this
 obtain⟨a,b⟩:=valL_dig 14 (s.data.toList.take 14) (by rw[List.length_take];omega) hd;refine⟨?_,b,hs⟩;have e:s.data.toList.drop 14=[90]:=by
  have z0:s.data.toList.getD 14 0=90:=by simpa using h2
  rw[List.drop_eq_getElem_cons (by omega),List.drop_of_length_le (by omega)];rw[List.getD_eq_getElem?_getD,List.getElem?_eq_getElem (by omega),Option.getD_some]at z0;rw[z0]
 rw[numT,a,← e,List.take_append_drop]
theorem isTx_timB(n:Nat)(hn:n≤253402300799):isTx (timB n)=true∧numT (timB n)=timV n:=by
 have hl:=qb3 14 (timV n);have ht:(timB n).data.toList.take 14=digL 14 (timV n):=by
  rw[qc7,List.take_append_of_le_length (by omega),jtl (by omega)]
 constructor
 ·rw[isTx,Bool.and_eq_true,Bool.and_eq_true];refine⟨⟨by rw[qgh];rfl,?_⟩,?_⟩
  ·rw[qc7,List.getD_eq_getElem?_getD,List.getElem?_append_right (by omega),hl]
   rfl
  ·rw[ht,List.all_eq_true];intro x hx;have:=digL_byte 14 (timV n) x hx;simpa using this
 ·rw[numT,ht,valL_of 14 _ (by rw[ten14];exact qeO n hn)]
theorem at_time(n:Nat)(hn:n≤253402300799):atS (timB n)=(n:Int):=by
 obtain⟨a,b⟩:=isTx_timB n hn;have h:=bsF_finds n 38 0 253402300799 (by omega) hn (by omega) (by decide);rw[atS,if_pos a,b,h,if_pos rfl]
theorem at_some(s:ByteArray)(h:atS s≠-1):0≤atS s∧atS s≤253402300799∧timB (atS s).toNat=s:=by
 have hb:=bsF_le 38 0 253402300799 (numT s) (by omega);rw[atS]at h ⊢;by_cases c:isTx s=true
 ·rw[if_pos c]at h ⊢;by_cases d:timV (bsF 38 0 253402300799 (numT s))=numT s
  ·rw[if_pos d]at h ⊢;refine⟨by omega,by omega,?_⟩;rw[Int.toNat_natCast];apply ByteArray.ext;apply Array.toList_inj.1;rw[qc7,d,← (qgK s c).1]
  ·rw[if_neg d]at h;exact absurd rfl h
 ·rw[if_neg c]at h;exact absurd rfl h
theorem at_range(s:ByteArray):-1≤atS s∧atS s≤253402300799:=by
 by_cases c:atS s = -1
 ·omega
 ·obtain⟨a,b,_⟩:=at_some s c;omega
theorem tx_less(n:Nat)(s:ByteArray)(hn:n≤253402300799)(h:isTx s=true):Op.bytesLess (timB n).data.toList s.data.toList=decide (timV n<numT s):=by
 obtain⟨a,b,_⟩:=qgK s h;rw[a,qc7,less_same _ _ _ (by rw[qb3,qb3]),dig_less 14 _ _ (by rw[ten14];exact qeO n hn) b]
theorem try_time0:timB 0=⟨#[49,57,55,48,48,49,48,49,48,48,48,48,48,48,90]⟩:=by decide +kernel
theorem try_time1:timB 951782400=⟨#[50,48,48,48,48,50,50,57,48,48,48,48,48,48,90]⟩:=by decide +kernel
theorem mlen_ge(lp:Bool)(j:Nat)(h:j<12):28≤mlen lp j:=by
 match j,h with
 | 0,_|1,_|2,_|3,_|4,_|5,_|6,_|7,_|8,_|9,_|10,_|11,_=>cases lp<;>decide
 | j+12,h=>omega
def dgB(k:Nat)(z:Int):ByteArray:=⟨(digL k z.toNat).toArray⟩
theorem qbM(k:Nat)(z:Int):(dgB k z).size=k:=qb3 k _
theorem qgQ(n k r j e:Nat)(hn:n≤253402300799)(hy:yrOf (n/86400)=(k,r))(hm:moOf (n/86400)=(j,e)):timB n=dgB 4 ((1970+k:Nat):Int)++dgB 2 ((j:Int)+1)++dgB 2 ((e:Int)+1)++dgB 2 ((n:Int)%86400/3600)++dgB 2 ((n:Int)%86400/60%60)++dgB 2 ((n:Int)%86400%60)++⟨#[90]⟩:=by
 obtain⟨_,q2,q3⟩:=qdS (n/86400) (by omega);obtain⟨_,m2,m3⟩:=qe5 (n/86400) (by omega);have m4:=qdY (qaJ (1970+(yrOf (n/86400)).1)) (moOf (n/86400)).1;have hd:qdB (n/86400)=(1970+k)*10000+(j+1)*100+(e+1):=by rw[qdB,hm,hy]
 rw[hy]at q3;rw[hm]at m3 m2 m4;simp only at q3 m3 m2 m4;have e1:((n:Int)%86400/3600).toNat=n%86400/3600:=by omega
 have e2:((n:Int)%86400/60%60).toNat=n%86400/60%60:=by omega
 have e3:((n:Int)%86400%60).toNat=n%86400%60:=by omega
 have e4:((j:Int)+1).toNat=j+1:=by omega
 have e5:((e:Int)+1).toNat=e+1:=by omega
 have e6:(((1970+k:Nat):Int)).toNat=1970+k:=by omega
 apply ByteArray.ext;apply Array.toList_inj.1;rw[qc7];simp only[ByteArray.data_append,Array.toList_append,dgB,e1,e2,e3,e4,e5,e6];have hv:timV n=((((((1970+k)*10^2+(j+1))*10^2+(e+1))*10^2+n%86400/3600)*10^2+n%86400/60%60)*10^2+n%86400%60):=by
  rw[timV,hd,hms];omega
 rw[hv,show (14:Nat)=((((4+2)+2)+2)+2)+2 from rfl,qeZ _ 2 _ _ (by omega),qeZ _ 2 _ _ (by omega),qeZ _ 2 _ _ (by omega),qeZ _ 2 _ _ (by omega),qeZ _ 2 _ _ (by omega)]
structure CertF where
 ser:Int
 nm:ByteArray
 fr:Int
 to:Int
 key:ByteArray
def isNm(s:ByteArray):Bool:=decide (1≤s.size)&&decide (s.size≤32)&&(s.data.toList.all fun x=>decide (32≤x.toNat)&&decide (x.toNat≤126))
def qbw(c:CertF):Bool:=decide (1≤c.ser)&&isNm c.nm&&isTm c.fr&&isTm c.to&&decide (c.fr≤c.to)
def qbT:ByteArray:=⟨#[]⟩
def qaD:ByteArray:=⟨#[0]⟩
def algB:ByteArray:=wrX 48 (oidX [1,3,101,112])
def qaH(nm:ByteArray):ByteArray:=wrX 48 (wrX 49 (wrX 48 (oidX [2,5,4,3]++wrX 12 nm)))
def valB(c:CertF):ByteArray:=wrX 48 (wrX 24 (timX c.fr)++wrX 24 (timX c.to))
def keyB(c:CertF):ByteArray:=wrX 48 (algB++wrX 3 (qaD++c.key))
def innB(c:CertF):ByteArray:=wrX 48 (wrX 2 (intB c.ser)++algB++qaH c.nm++valB c++qaH c.nm++keyB c)
def whoB(z0 z1:ByteArray):ByteArray:=wrX 48 (z0++algB++wrX 3 (qaD++z1))
def inT(s:ByteArray)(z0:Int):ByteArray×ByteArray:=if qbS s=0∧qc5 s=z0 then (qba s,qbD s) else (qbT,qbT)
theorem qeD(z0:Int)(b r:ByteArray)(h:wrE z0 b=0):inT (wrX z0 b++r) z0=(b,r):=by
 obtain⟨h1,h2,h3,h4⟩:=rd_wr z0 b r h;rw[inT,if_pos ⟨h4,h1⟩,h2,h3]
theorem qfr(z0:Int)(b:ByteArray)(h:wrE z0 b=0):inT (wrX z0 b) z0=(b,qbT):=by
 have:=qeD z0 b qbT h;have e:wrX z0 b++qbT=wrX z0 b:=ByteArray.append_empty;rwa[e]at this
theorem qb1(z0:Int)(b:ByteArray)(h:b.size<65536)(ht:isT z0=true):wrE z0 b=0:=by rw[wrE,if_pos ht,if_pos h]
theorem qcz(n:Int)(b:ByteArray):(wrX n b).size≤b.size+4:=by
 rw[wrX];split
 ·rw[ByteArray.size_append];have:(⟨(wrL n b.size).toArray⟩:ByteArray).size=(wrL n b.size).length:=List.size_toArray;rw[this,wrL,lenL];split
  ·simp;omega
  ·split<;>(simp;omega)
 ·show 0≤_;omega
def qcV(s:ByteArray)(n:Nat):ByteArray:=if s.size=n then s.extract 1 n else qbT
def parT(data:ByteArray):CertF×ByteArray:=
 let all:=(inT data 48).1
 let tbs:=inT all 48
 let r1:=(inT tbs.2 48).2
 let sig:=(inT r1 3).1
 let num:=inT tbs.1 2
 let r2:=(inT num.2 48).2
 let name:=inT r2 48
 let a:=(inT name.1 49).1
 let b:=(inT a 48).1
 let b2:=(inT b 6).2
 let times:=inT name.2 48
 let from':=inT times.1 24
 let r3:=(inT times.2 48).2
 let info:=(inT r3 48).1
 let info2:=(inT info 48).2
 let key:=(inT info2 3).1
 (⟨riV num.1,(inT b2 12).1,atS from'.1,atS (inT from'.2 24).1,qcV key 33⟩,qcV sig 65)
theorem qeY:algB=⟨#[48,5,6,3,43,101,112]⟩:=by decide
theorem oid_name:oidX [2,5,4,3]=wrX 6 ⟨#[85,4,3]⟩:=by decide
theorem qdm(n:Int):(timX n).size≤15:=by
 rw[timX];split
 ·rw[qgh];exact jlr _
 ·show 0≤15;omega
theorem at_timX(n:Int)(h:isTm n=true):atS (timX n)=n:=by
 obtain⟨a,b⟩:=(qdN n).1 h;rw[timX,if_pos h,at_time n.toNat (by omega)];omega
theorem qda(s:ByteArray):(qaD++s).size=s.size+1:=by
 rw[ByteArray.size_append];show 1+s.size=s.size+1;omega
theorem tail_zero(s:ByteArray)(n:Nat)(h:s.size=n):qcV (qaD++s) (n+1)=s:=by
 rw[qcV,if_pos (by rw[qda,h])];apply ByteArray.ext;apply Array.toList_inj.1;rw[Lib.extract_data,ByteArray.data_append,Array.toList_append];show ((0 :: s.data.toList).drop 1).take (n+1-1)=s.data.toList;rw[List.drop_one,List.tail_cons,jtl (by rw[← Lib.size_eq,h];omega)]
theorem qd4(nm:ByteArray):(oidX [2,5,4,3]++wrX 12 nm).size≤nm.size+9∧(wrX 48 (oidX [2,5,4,3]++wrX 12 nm)).size≤nm.size+13∧(wrX 49 (wrX 48 (oidX [2,5,4,3]++wrX 12 nm))).size≤nm.size+17∧(qaH nm).size≤nm.size+21:=by
 have h0:=qcz 12 nm;have e:(oidX [2,5,4,3]).size=5:=by decide
 have h1:(oidX [2,5,4,3]++wrX 12 nm).size≤nm.size+9:=by rw[ByteArray.size_append,e];omega
 have h2:=qcz 48 (oidX [2,5,4,3]++wrX 12 nm);have h3:=qcz 49 (wrX 48 (oidX [2,5,4,3]++wrX 12 nm));have h4:=qcz 48 (wrX 49 (wrX 48 (oidX [2,5,4,3]++wrX 12 nm)));exact⟨h1,by omega,by omega,by rw[qaH];omega⟩
theorem qdt(c:CertF):(wrX 24 (timX c.fr)++wrX 24 (timX c.to)).size≤38∧(valB c).size≤42∧(qaD++c.key).size=c.key.size+1∧(algB++wrX 3 (qaD++c.key)).size≤c.key.size+12∧(keyB c).size≤c.key.size+16∧
  (wrX 2 (intB c.ser)++algB++qaH c.nm++valB c++qaH c.nm++keyB c).size≤2*c.nm.size+c.key.size+119∧(innB c).size≤2*c.nm.size+c.key.size+123:=by
 have t1:=qdm c.fr;have t2:=qdm c.to;have w1:=qcz 24 (timX c.fr);have w2:=qcz 24 (timX c.to);have h1:(wrX 24 (timX c.fr)++wrX 24 (timX c.to)).size≤38:=by rw[ByteArray.size_append];omega
 have h2:=qcz 48 (wrX 24 (timX c.fr)++wrX 24 (timX c.to));have h3:=qda c.key;have h4:=qcz 3 (qaD++c.key);have ha:algB.size=7:=by rw[qeY];rfl
 have h5:(algB++wrX 3 (qaD++c.key)).size≤c.key.size+12:=by rw[ByteArray.size_append,ha];omega
 have h6:=qcz 48 (algB++wrX 3 (qaD++c.key));have h7:=qcz 2 (intB c.ser);have h8:=qga c.ser;have h9:=(qd4 c.nm).2.2.2;have hv:(valB c).size≤42:=by rw[valB];omega
 have hk:(keyB c).size≤c.key.size+16:=by rw[keyB];omega
 have z0:(wrX 2 (intB c.ser)++algB++qaH c.nm++valB c++qaH c.nm++keyB c).size≤2*c.nm.size+c.key.size+119:=by
  rw[ByteArray.size_append,ByteArray.size_append,ByteArray.size_append,ByteArray.size_append,ByteArray.size_append,ha];omega
 have h11:=qcz 48 (wrX 2 (intB c.ser)++algB++qaH c.nm++valB c++qaH c.nm++keyB c);exact⟨h1,hv,h3,h5,hk,z0,by rw[innB];omega⟩
theorem par_who(c:CertF)(z0:ByteArray)(h1:-9223372036854775808≤c.ser)(h2:c.ser≤9223372036854775807)(hn:c.nm.size≤1000)(hf:isTm c.fr=true)(ht:isTm c.to=true)(hk:c.key.size=32)(hs:z0.size=64):parT (whoB (innB c) z0)=(c,z0):=by
 obtain⟨s1,s2,s3,s4,s5,s6,s7⟩:=qdt c;obtain⟨n1,n2,n3,n4⟩:=qd4 c.nm;have ha:algB.size=7:=by rw[qeY];rfl
 have z1:=qda z0;have w1:=qcz 3 (qaD++z0);have T:∀ t:Int,t=48∨t=49∨t=24∨t=12∨t=3∨t=2∨t=6→isT t=true:=fun t h=>by
  rcases h with rfl|rfl|rfl|rfl|rfl|rfl|rfl<;>decide
 have e1:inT (whoB (innB c) z0) 48=(innB c++algB++wrX 3 (qaD++z0),qbT):=qfr 48 _ (qb1 48 _ (by rw[ByteArray.size_append,ByteArray.size_append];omega) (T 48 (by simp)));have e2:inT (innB c++algB++wrX 3 (qaD++z0)) 48=(wrX 2 (intB c.ser)++algB++qaH c.nm++valB c++qaH c.nm++keyB c,algB++wrX 3 (qaD++z0)):=by
  rw[ByteArray.append_assoc];exact qeD 48 _ _ (qb1 48 _ (by omega) (T 48 (by simp)))
 have e3:inT (algB++wrX 3 (qaD++z0)) 48=(oidX [1,3,101,112],wrX 3 (qaD++z0)):=qeD 48 _ _ (by decide);have e4:inT (wrX 3 (qaD++z0)) 3=(qaD++z0,qbT):=qfr 3 _ (qb1 3 _ (by omega) (T 3 (by simp)));have e5:inT (wrX 2 (intB c.ser)++algB++qaH c.nm++valB c++qaH c.nm++keyB c) 2=(intB c.ser,algB++(qaH c.nm++(valB c++(qaH c.nm++keyB c)))):=by
  rw[ByteArray.append_assoc,ByteArray.append_assoc,ByteArray.append_assoc,ByteArray.append_assoc];exact qeD 2 _ _ (int_wr _)
 have e6:inT (algB++(qaH c.nm++(valB c++(qaH c.nm++keyB c)))) 48=(oidX [1,3,101,112],qaH c.nm++(valB c++(qaH c.nm++keyB c))):=qeD 48 _ _ (by decide);have e7:inT (qaH c.nm++(valB c++(qaH c.nm++keyB c))) 48=(wrX 49 (wrX 48 (oidX [2,5,4,3]++wrX 12 c.nm)),valB c++(qaH c.nm++keyB c)):=qeD 48 _ _ (qb1 48 _ (by omega) (T 48 (by simp)));have e8:inT (wrX 49 (wrX 48 (oidX [2,5,4,3]++wrX 12 c.nm))) 49=(wrX 48 (oidX [2,5,4,3]++wrX 12 c.nm),qbT):=qfr 49 _ (qb1 49 _ (by omega) (T 49 (by simp)));have e9:inT (wrX 48 (oidX [2,5,4,3]++wrX 12 c.nm)) 48=(oidX [2,5,4,3]++wrX 12 c.nm,qbT):=qfr 48 _ (qb1 48 _ (by omega) (T 48 (by simp)));have z2:inT (oidX [2,5,4,3]++wrX 12 c.nm) 6=(⟨#[85,4,3]⟩,wrX 12 c.nm):=by
  rw[oid_name];exact qeD 6 _ _ (by decide)
 have z3:inT (wrX 12 c.nm) 12=(c.nm,qbT):=qfr 12 _ (qb1 12 _ (by omega) (T 12 (by simp)));have z4:inT (valB c++(qaH c.nm++keyB c)) 48=(wrX 24 (timX c.fr)++wrX 24 (timX c.to),qaH c.nm++keyB c):=qeD 48 _ _ (qb1 48 _ (by omega) (T 48 (by simp)));have t1:=qdm c.fr;have t2:=qdm c.to;have z5:inT (wrX 24 (timX c.fr)++wrX 24 (timX c.to)) 24=(timX c.fr,wrX 24 (timX c.to)):=qeD 24 _ _ (qb1 24 _ (by omega) (T 24 (by simp)));have z6:inT (wrX 24 (timX c.to)) 24=(timX c.to,qbT):=qfr 24 _ (qb1 24 _ (by omega) (T 24 (by simp)));have z7:inT (qaH c.nm++keyB c) 48=(wrX 49 (wrX 48 (oidX [2,5,4,3]++wrX 12 c.nm)),keyB c):=qeD 48 _ _ (qb1 48 _ (by omega) (T 48 (by simp)));have z8:inT (keyB c) 48=(algB++wrX 3 (qaD++c.key),qbT):=qfr 48 _ (qb1 48 _ (by omega) (T 48 (by simp)));have z9:inT (algB++wrX 3 (qaD++c.key)) 48=(oidX [1,3,101,112],wrX 3 (qaD++c.key)):=qeD 48 _ _ (by decide);have za:inT (wrX 3 (qaD++c.key)) 3=(qaD++c.key,qbT):=qfr 3 _ (qb1 3 _ (by omega) (T 3 (by simp)));simp only[parT,e1,e2,e3,e4,e5,e6,e7,e8,e9,z2,z3,z4,z5,z6,z7,z8,z9,za];rw[tail_zero c.key 32 hk,tail_zero z0 64 hs,at_timX c.fr hf,at_timX c.to ht,(int_back c.ser h1 h2).2]
def okC(data:ByteArray):Bool:=qbw (parT data).1&&decide ((parT data).1.key.size=32)&&decide ((parT data).2.size=64)&&decide (whoB (innB (parT data).1) (parT data).2=data)
theorem qfZ(c:CertF)(h:qbw c=true):1≤c.ser∧isNm c.nm=true∧isTm c.fr=true∧isTm c.to=true∧c.fr≤c.to:=by
 simp only[qbw,Bool.and_eq_true,decide_eq_true_eq]at h;exact⟨h.1.1.1.1,h.1.1.1.2,h.1.1.2,h.1.2,h.2⟩
theorem isNm_size(s:ByteArray)(h:isNm s=true):1≤s.size∧s.size≤32:=by
 simp only[isNm,Bool.and_eq_true,decide_eq_true_eq]at h;exact h.1
theorem ok_iff(data:ByteArray)(c:CertF)(z0:ByteArray)(h1:-9223372036854775808≤c.ser)(h2:c.ser≤9223372036854775807):(qbw c=true∧c.key.size=32∧z0.size=64∧whoB (innB c) z0=data)↔(okC data=true∧parT data=(c,z0)):=by
 constructor
 ·rintro⟨a,b,d,rfl⟩;obtain⟨_,q2,q3,q4,_⟩:=qfZ c a;have hp:=par_who c z0 h1 h2 (by have:=(isNm_size _ q2).2;omega) q3 q4 b d;refine⟨?_,hp⟩;rw[okC,hp];simp[a,b,d]
 ·rintro⟨a,hp⟩;rw[okC,hp]at a;simp only[Bool.and_eq_true,decide_eq_true_eq]at a;exact⟨a.1.1.1,a.1.1.2,a.1.2,a.2⟩
structure SignF where
 pub:ByteArray→ByteArray
 sgn:ByteArray→ByteArray→ByteArray
 ver:ByteArray→ByteArray→ByteArray→Int
 sum:ByteArray→ByteArray
 hp:∀ s,s.size=32→(pub s).size=32
 hg:∀ s t,s.size=32→(sgn s t).size=64
 hz:∀ s,(sum s).size=32
def sdE(s:ByteArray):Int:=if s.size=32 then 0 else 21
def keyOk(F:SignF)(c:CertF)(z0:ByteArray):Bool:=decide (z0.size=32)&&(decide (c.key.size=0) || decide (c.key=F.pub z0))
def makE(F:SignF)(c:CertF)(z0:ByteArray):Int:=if qbw c=true then (if keyOk F c z0=true then 0 else 21) else 1
def qeS(c:CertF)(k:ByteArray):CertF:=⟨c.ser,c.nm,c.fr,c.to,k⟩
def makX(F:SignF)(c:CertF)(z0:ByteArray):ByteArray:=
 if makE F c z0=0 then whoB (innB (qeS c (F.pub z0))) (F.sgn z0 (innB (qeS c (F.pub z0)))) else ⟨#[]⟩
def noC:CertF:=⟨0,⟨#[]⟩,0,0,⟨#[]⟩⟩
def reE(F:SignF)(s:ByteArray):Int:=
 if 1000<s.size then 13 else if okC s=true then (if F.ver (parT s).1.key (innB (parT s).1) (parT s).2=0 then 0 else 22) else 11
def reC(F:SignF)(s:ByteArray):CertF:=if reE F s=0 then (parT s).1 else noC
def alE(F:SignF)(s:ByteArray)(z0:Int)(ps:List ByteArray):Int:=
 if reE F s≠0 then reE F s else if (ps.any fun p=>decide (p=F.sum s))=true then (if z0<(parT s).1.fr∨(parT s).1.to<z0 then 23 else 0) else 24
theorem str_eq(a b:ByteArray):(a.toList==b.toList)=decide (a=b):=by
 rw[Bool.eq_iff_iff,beq_iff_eq,decide_eq_true_eq,Lib.toList_data,Lib.toList_data];exact⟨fun h=>ByteArray.ext (Array.toList_inj.1 h),fun h=>by rw[h]⟩
theorem str_empty(a:ByteArray):a.toList.isEmpty=decide (a.size=0)∧(a.toList==[])=decide (a.size=0):=by
 rw[Lib.toList_data,Lib.size_eq]
 cases a.data.toList with
 | nil=>exact⟨rfl,rfl⟩
 | cons x r=>exact⟨rfl,rfl⟩
theorem re_bad(F:SignF)(s:ByteArray)(e:Int)(h:reE F s=e)(he:e≠0):reC F s=noC∧reE F s=e:=⟨if_neg (by rw[h];exact he),h⟩
theorem re_good(F:SignF)(s:ByteArray)(h:reE F s=0):reC F s=(parT s).1∧reE F s=0:=⟨if_pos h,h⟩
theorem okC_parts(s:ByteArray):okC s=(qbw (parT s).1&&(decide ((parT s).1.key.size=32)&&(decide ((parT s).2.size=64)&&decide (whoB (innB (parT s).1) (parT s).2=s)))):=by
 rw[okC,Bool.and_assoc,Bool.and_assoc]
theorem qbr(s:ByteArray)(t:Int):(inT s t).1.size≤s.size∧(inT s t).2.size≤s.size:=by
 rw[inT];split
 ·rename_i h;obtain⟨h1,h2⟩:=qeq s h.1 |>.2;refine⟨?_,?_⟩
  ·show (qba s).size≤s.size;rw[h1,ByteArray.size_extract];omega
  ·show (qbD s).size≤s.size;rw[h2.1,ByteArray.size_extract];omega
 ·exact⟨Nat.zero_le _,Nat.zero_le _⟩
theorem tail_le(s:ByteArray)(n:Nat):(qcV s n).size≤s.size:=by
 rw[qcV];split
 ·rw[ByteArray.size_extract];omega
 ·exact Nat.zero_le _
theorem par_facts(s:ByteArray):∃ a nm fr to k sg,parT s=(⟨riV a,nm,atS fr,atS to,qcV k 33⟩,qcV sg 65)∧nm.size≤s.size∧k.size≤s.size∧sg.size≤s.size:=by
 obtain⟨u1,zm⟩:∃ u,inT s 48=u:=⟨_,rfl⟩;have zz:=qbr s 48;rw[zm]at zz;obtain⟨u2,zn⟩:∃ u,inT u1.1 48=u:=⟨_,rfl⟩;have zA:=qbr u1.1 48;rw[zn]at zA;obtain⟨u3,zo⟩:∃ u,inT u2.2 48=u:=⟨_,rfl⟩;have zB:=qbr u2.2 48;rw[zo]at zB;obtain⟨u4,zp⟩:∃ u,inT u3.2 3=u:=⟨_,rfl⟩;have zC:=qbr u3.2 3;rw[zp]at zC;obtain⟨u5,zq⟩:∃ u,inT u2.1 2=u:=⟨_,rfl⟩;have zD:=qbr u2.1 2;rw[zq]at zD;obtain⟨u7,zr⟩:∃ u,inT u5.2 48=u:=⟨_,rfl⟩;have zE:=qbr u5.2 48;rw[zr]at zE;obtain⟨u8,zs⟩:∃ u,inT u7.2 48=u:=⟨_,rfl⟩;have zF:=qbr u7.2 48;rw[zs]at zF;obtain⟨u9,zt⟩:∃ u,inT u8.1 49=u:=⟨_,rfl⟩;have zG:=qbr u8.1 49;rw[zt]at zG;obtain⟨zu,z0⟩:∃ u,inT u9.1 48=u:=⟨_,rfl⟩;have zb:=qbr u9.1 48;rw[z0]at zb;obtain⟨zv,z1⟩:∃ u,inT zu.1 6=u:=⟨_,rfl⟩;have zc:=qbr zu.1 6;rw[z1]at zc;obtain⟨zH,z2⟩:∃ u,inT zv.2 12=u:=⟨_,rfl⟩;have zd:=qbr zv.2 12;rw[z2]at zd;obtain⟨za,z3⟩:∃ u,inT u8.2 48=u:=⟨_,rfl⟩;have ze:=qbr u8.2 48;rw[z3]at ze;obtain⟨zl,z4⟩:∃ u,inT za.1 24=u:=⟨_,rfl⟩;have zf:=qbr za.1 24;rw[z4]at zf;obtain⟨zI,z5⟩:∃ u,inT zl.2 24=u:=⟨_,rfl⟩;have zg:=qbr zl.2 24;rw[z5]at zg;obtain⟨zw,z6⟩:∃ u,inT za.2 48=u:=⟨_,rfl⟩;have zh:=qbr za.2 48;rw[z6]at zh;obtain⟨zx,z7⟩:∃ u,inT zw.2 48=u:=⟨_,rfl⟩;have zi:=qbr zw.2 48;rw[z7]at zi;obtain⟨zy,z8⟩:∃ u,inT zx.1 48=u:=⟨_,rfl⟩;have zj:=qbr zx.1 48;rw[z8]at zj;obtain⟨zJ,z9⟩:∃ u,inT zy.2 3=u:=⟨_,rfl⟩;have zk:=qbr zy.2 3;rw[z9]at zk;refine⟨u5.1,zH.1,zl.1,zI.1,zJ.1,u4.1,by simp only[parT,zm,zn,zo,zp,zq,zr,zs,zt,z0,z1,z2,z3,z4,z5,z6,z7,z8,z9],by omega,by omega,by omega⟩
theorem qgM(s:ByteArray):-9223372036854775808≤(parT s).1.ser∧(parT s).1.ser≤9223372036854775807∧-1≤(parT s).1.fr∧(parT s).1.fr≤253402300799∧-1≤(parT s).1.to∧(parT s).1.to≤253402300799:=by
 obtain⟨a,nm,fr,to,k,sg,h,_⟩:=par_facts s;rw[h];exact⟨(ri_range a).1,(ri_range a).2,(at_range fr).1,(at_range fr).2,(at_range to).1,(at_range to).2⟩
theorem par_sizes(s:ByteArray):(parT s).1.nm.size≤s.size∧(parT s).1.key.size≤s.size∧(parT s).2.size≤s.size:=by
 obtain⟨a,nm,fr,to,k,sg,h,h1,h2,h3⟩:=par_facts s;rw[h];exact⟨h1,jlt (tail_le k 33) h2,jlt (tail_le sg 65) h3⟩
structure Made (F:SignF) (c:CertF) (z0 s:ByteArray):Prop where
 seed32:z0.size=32
 right:qbw c=true
 name:c.nm.size≤32
 par:parT s=(qeS c (F.pub z0),F.sgn z0 (innB (qeS c (F.pub z0))))
 ok:okC s=true
 size:s.size≤400
 big:64≤s.size
 first:rdB s.data.toList 0=48
 more:∀ r:ByteArray,r.size≠0→okC (s++r)=false
theorem Made.read{F:SignF}{c:CertF}{z0 s:ByteArray}(h:Made F c z0 s):(F.ver (F.pub z0) (innB (qeS c (F.pub z0))) (F.sgn z0 (innB (qeS c (F.pub z0))))=0→reE F s=0∧reC F s=qeS c (F.pub z0))∧
  (F.ver (F.pub z0) (innB (qeS c (F.pub z0))) (F.sgn z0 (innB (qeS c (F.pub z0))))≠0→reE F s=22∧reC F s=noC):=by
 have e:reE F s=if F.ver (F.pub z0) (innB (qeS c (F.pub z0))) (F.sgn z0 (innB (qeS c (F.pub z0))))=0 then 0 else 22:=by
  rw[reE,if_neg (by have:=h.size;omega),if_pos h.ok,h.par];rfl
 refine⟨fun hv=>?_,fun hv=>?_⟩
 ·rw[if_pos hv]at e;exact⟨e,by rw[(re_good F s e).1,h.par]⟩
 ·rw[if_neg hv]at e;exact⟨e,(re_bad F s 22 e (by decide)).1⟩
theorem Made.let{F:SignF}{c:CertF}{z2 s:ByteArray}(h:Made F c z2 s)(z0:Int):(reE F s≠0→∀ ps,alE F s z0 ps=reE F s)∧
  (reE F s=0→alE F s z0 []=24∧alE F s z0 [⟨#[120]⟩,s]=24∧alE F s z0 [⟨#[120]⟩,F.sum s]=if z0<c.fr∨c.to<z0 then 23 else 0):=by
 refine⟨fun hq ps=>if_pos hq,fun hq=>?_⟩;have hz:=F.hz s;have n1:(⟨#[120]⟩:ByteArray)≠F.sum s:=fun e=>by rw[← e]at hz;cases hz
 have n2:s≠F.sum s:=fun e=>by have hb:=h.big;rw[e]at hb;omega
 have z1:¬ reE F s≠0:=by simp[hq]
 refine⟨?_,?_,?_⟩
 ·rw[alE,if_neg z1];simp
 ·rw[alE,if_neg z1];simp[n1,n2]
 ·rw[alE,if_neg z1,if_pos (by simp),h.par];rfl
end
end Go.Proofs.YteomfleofeeofaaGreatDoor
