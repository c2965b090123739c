/- Numbers of sixteen digits of sixteen bits, modulo 2^255 less 19. -/
import Derived.Test.YteomfleofeeofaaGreatDoorRows
namespace Go.Proofs.YteomfleofeeofaaGreatDoor
set_option maxRecDepth 100000
set_option linter.unusedSimpArgs false
set_option linter.unusedVariables false
section
def pF:Nat:=57896044618658097711785492504343953926634992332820282019728792003956564819949
def mF:Nat:=115792089237316195423570985008687907853269984665640564039457584007913129639936
theorem mF_pow:65536^16=mF:=by decide
theorem mF_pF:mF=2*pF+38:=by decide
theorem qdx:0<pF:=by decide
theorem qcb(l:List Nat)(j i x:Nat)(hj:j<l.length):(l.set j x).getD i 0=if i=j then x else l.getD i 0:=by
 rw[List.getD_eq_getElem?_getD,List.getElem?_set];by_cases h:j=i
 ·subst h;simp[hj]
 ·rw[if_neg h,if_neg (fun e=>h e.symm),← List.getD_eq_getElem?_getD]
theorem qdd(f:Nat→Nat)(n i:Nat)(h:i<n):((List.range n).map f).getD i 0=f i:=by simp[List.getD_eq_getElem?_getD,h]
theorem qbU{l m:List Nat}{n:Nat}(hl:l.length=n)(hm:m.length=n)(h:∀ i,i<n→l.getD i 0=m.getD i 0):l=m:=by
 apply List.ext_getElem (by omega);intro i h1 h2;have:=h i (by omega);simpa[List.getD_eq_getElem?_getD,h1,h2]using this
def dS(v:List Nat):Nat→Nat
 | 0=>0
 | n+1=>dS v n+v.getD n 0*65536^n
theorem qfR(u v:List Nat):∀ n,(∀ j,j<n→u.getD j 0=v.getD j 0)→dS u n=dS v n
 | 0,_=>rfl
 | n+1,h=>by rw[dS,dS,qfR u v n (fun j hj=>h j (by omega)),h n (by omega)]
theorem dS_set_out(v:List Nat)(i x n:Nat)(h:n≤i)(hl:i<v.length):dS (v.set i x) n=dS v n:=qfR _ _ _ fun j hj=>by rw[qcb _ _ _ _ hl,if_neg (by omega)]
theorem dS_set(v:List Nat)(i x:Nat)(hl:i<v.length):∀ n,i<n→dS (v.set i x) n+v.getD i 0*65536^i=dS v n+x*65536^i
 | n+1,h=>by
  rw[dS,dS,qcb _ _ _ _ hl];by_cases e:n=i
  ·subst e;rw[if_pos rfl,dS_set_out _ _ _ _ (Nat.le_refl _) hl];omega
  ·rw[if_neg e];have:=dS_set v i x hl n (by omega);omega
theorem dS_lt(v:List Nat):∀ n,(∀ j,j<n→v.getD j 0<65536)→dS v n<65536^n
 | 0,_=>by simp[dS]
 | n+1,h=>by
  have h1:=dS_lt v n (fun j hj=>h j (by omega));have h2:v.getD n 0*65536^n≤65535*65536^n:=Nat.mul_le_mul_right _ (by have:=h n (by omega);omega);rw[dS,Nat.pow_succ];omega
theorem dS_le(v:List Nat)(X:Nat):∀ n,(∀ j,j<n→v.getD j 0≤X)→dS v n≤X*65536^n
 | 0,_=>by simp[dS]
 | n+1,h=>by
  have h1:=dS_le v X n (fun j hj=>h j (by omega));have h2:v.getD n 0*65536^n≤X*65536^n:=Nat.mul_le_mul_right _ (h n (by omega));rw[dS,Nat.pow_succ,← Nat.mul_assoc];omega
theorem dS_app(l m:List Nat)(n:Nat)(h:n≤l.length):dS (l++m) n=dS l n:=qfR _ _ _ fun j hj=>by
 rw[List.getD_eq_getElem?_getD,List.getElem?_append_left (by omega),← List.getD_eq_getElem?_getD]
theorem dS_snoc(l:List Nat)(x n:Nat)(h:l.length=n):dS (l++[x]) (n+1)=dS l n+x*65536^n:=by
 rw[dS,dS_app _ _ _ (by omega),List.getD_eq_getElem?_getD,List.getElem?_append_right (by omega),h,Nat.sub_self];rfl
theorem dS_parts(v:List Nat)(j:Nat):∀ n,j<n→∃ K,dS v n=dS v j+v.getD j 0*65536^j+65536^(j+1)*K
 | n+1,h=>by
  by_cases e:n=j
  ·subst e;exact⟨0,by rw[dS];omega⟩
  ·obtain⟨K,hK⟩:=dS_parts v j n (by omega);refine⟨K+v.getD n 0*65536^(n-(j+1)),?_⟩;rw[dS,hK,Nat.mul_add];have:65536^(j+1)*(v.getD n 0*65536^(n-(j+1)))=v.getD n 0*65536^n:=by
    rw[Nat.mul_left_comm,← Nat.pow_add,show j+1+(n-(j+1))=n by omega]
   omega
theorem dS_digit(v:List Nat)(n j:Nat)(h:∀ j,j<n→v.getD j 0<65536)(hj:j<n):dS v n/65536^j%65536=v.getD j 0:=by
 obtain⟨K,hK⟩:=dS_parts v j n hj;have h1:=dS_lt v j (fun i hi=>h i (by omega));have h2:=h j hj;have hp:0<65536^j:=Nat.pow_pos (by decide);rw[hK,Nat.pow_succ,show dS v j+v.getD j 0*65536^j+65536^j*65536*K=dS v j+65536^j*(v.getD j 0+65536*K) by rw[Nat.mul_add,Nat.mul_comm (v.getD j 0),Nat.mul_assoc];omega];rw[Nat.add_mul_div_left _ _ hp,Nat.div_eq_of_lt h1,Nat.zero_add];omega
def digN(x:Nat):List Nat:=(List.range 16).map fun j=>x/65536^j%65536
theorem qaG(x:Nat):(digN x).length=16:=by simp[digN]
theorem qbC(x j:Nat)(h:j<16):(digN x).getD j 0=x/65536^j%65536:=by rw[digN,qdd _ _ _ h]
theorem qa2(x j:Nat)(h:j<16):(digN x).getD j 0<65536:=by rw[qbC _ _ h];exact Nat.mod_lt _ (by decide)
theorem eq_digN(v:List Nat)(hl:v.length=16)(h:∀ j,j<16→v.getD j 0<65536):v=digN (dS v 16):=qbU hl (qaG _) fun j hj=>by rw[qbC _ _ hj,dS_digit v 16 j h hj]
theorem digN_part(x:Nat):∀ n,n≤16→dS (digN x) n=x%65536^n
 | 0,_=>by simp[dS,Nat.mod_one]
 | n+1,h=>by
  rw[dS,digN_part x n (by omega),qbC x n (by omega),Nat.pow_succ,Nat.mod_mul,Nat.mul_comm (65536^n)]
theorem qbY(x:Nat)(h:x<mF):dS (digN x) 16=x:=by rw[digN_part x 16 (Nat.le_refl _),mF_pow];exact Nat.mod_eq_of_lt h
def rnd(v:List Nat):Nat→List Nat×Nat
 | 0=>(v,0)
 | i+1=>((rnd v i).1.set i (((rnd v i).1.getD i 0+(rnd v i).2)%65536),((rnd v i).1.getD i 0+(rnd v i).2)/65536)
theorem qct(v:List Nat):∀ i,(rnd v i).1.length=v.length
 | 0=>rfl
 | i+1=>by rw[rnd,List.length_set];exact qct v i
theorem rnd_late(v:List Nat):∀ i,i≤v.length→∀ j,i≤j→(rnd v i).1.getD j 0=v.getD j 0
 | 0,_,_,_=>rfl
 | i+1,h,j,hj=>by
  rw[rnd,qcb _ _ _ _ (by rw[qct];omega),if_neg (by omega)];exact rnd_late v i (by omega) j (by omega)
theorem qfK(v:List Nat):∀ i,i≤v.length→∀ j,j<i→(rnd v i).1.getD j 0<65536
 | i+1,h,j,hj=>by
  rw[rnd,qcb _ _ _ _ (by rw[qct];omega)];split
  ·exact Nat.mod_lt _ (by decide)
  ·exact qfK v i (by omega) j (by omega)
theorem rnd_carry(v:List Nat)(X:Nat)(hX:∀ j,v.getD j 0≤X):∀ i,i≤v.length→(rnd v i).2≤X
 | 0,_=>by simp[rnd]
 | i+1,h=>by
  have h1:=rnd_carry v X hX i (by omega);have h2:=rnd_late v i (by omega) i (Nat.le_refl _);have h3:=hX i;rw[rnd,h2];show (v.getD i 0+(rnd v i).2)/65536≤X;omega
theorem rnd_val(v:List Nat)(n:Nat)(hl:v.length=n):∀ i,i≤n→dS (rnd v i).1 n+(rnd v i).2*65536^i=dS v n:=by
 intro i
 induction i with
 | zero=>intro _;rw[show (rnd v 0).1=v from rfl,show (rnd v 0).2=0 from rfl,Nat.zero_mul,Nat.add_zero]
 | succ i ih=>
  intro h;have ih:=ih (by omega);have hs:=dS_set (rnd v i).1 i (((rnd v i).1.getD i 0+(rnd v i).2)%65536) (by rw[qct];omega) n (by omega);have e1:(rnd v (i+1)).1=(rnd v i).1.set i (((rnd v i).1.getD i 0+(rnd v i).2)%65536):=rfl;have e2:(rnd v (i+1)).2=((rnd v i).1.getD i 0+(rnd v i).2)/65536:=rfl;rw[e1,e2];clear e1 e2;generalize (rnd v i).1=u at *;generalize (rnd v i).2=c at *;have hx:(u.getD i 0+c)%65536*65536^i+(u.getD i 0+c)/65536*65536^(i+1)=u.getD i 0*65536^i+c*65536^i:=by
   rw[Nat.pow_succ,Nat.mul_comm (65536^i) 65536,← Nat.mul_assoc,← Nat.add_mul,← Nat.add_mul];congr 1;omega
  generalize dS (u.set i ((u.getD i 0+c)%65536)) n=D1 at *;generalize dS u n=D0 at *;generalize dS v n=Dv at *;omega
theorem rnd_parts(v:List Nat)(hl:v.length=16):dS (rnd v 16).1 16=dS v 16%mF∧(rnd v 16).2=dS v 16/mF:=by
 have h:=rnd_val v 16 hl 16 (Nat.le_refl _);have z0:=dS_lt (rnd v 16).1 16 (fun j hj=>qfK v 16 (by omega) j hj);rw[mF_pow]at h z0;rw[← h,Nat.add_mul_mod_self_right,Nat.mod_eq_of_lt z0,Nat.add_mul_div_right _ _ (by decide),Nat.div_eq_of_lt z0,Nat.zero_add];exact⟨rfl,rfl⟩
def qbe(v:List Nat):List Nat:=(rnd v 16).1.set 0 ((rnd v 16).1.getD 0 0+38*(rnd v 16).2)
theorem qbu(v:List Nat):(qbe v).length=v.length:=by rw[qbe,List.length_set,qct]
theorem foldR_val(v:List Nat)(hl:v.length=16):dS (qbe v) 16=dS v 16%mF+38*(dS v 16/mF):=by
 obtain⟨h1,h2⟩:=rnd_parts v hl;have hs:=dS_set (rnd v 16).1 0 ((rnd v 16).1.getD 0 0+38*(rnd v 16).2) (by rw[qct];omega) 16 (by omega);rw[← h1,← h2,qbe];rw[Nat.pow_zero,Nat.mul_one,Nat.mul_one]at hs;generalize (rnd v 16).1=u at *;generalize (rnd v 16).2=c at *;generalize dS (u.set 0 (u.getD 0 0+38*c)) 16=D1 at *;generalize dS u 16=D0 at *;omega
theorem fold_mod(T:Nat):(T%mF+38*(T/mF))%pF=T%pF:=by
 have h:=Nat.mod_add_div T mF;have e:T=T%mF+38*(T/mF)+pF*(2*(T/mF)):=by
  have h2:mF*(T/mF)=pF*(2*(T/mF))+38*(T/mF):=by
   rw[← Nat.mul_assoc,Nat.mul_comm pF 2,← Nat.add_mul,← mF_pF]
  omega
 conv=>rhs;rw[e]
 rw[Nat.add_mul_mod_self_left]
theorem qem(v:List Nat)(hl:v.length=16):dS (qbe v) 16%pF=dS v 16%pF:=by
 rw[foldR_val v hl];exact fold_mod (dS v 16)
theorem foldR_low(v:List Nat)(hl:v.length=16)(h:(rnd v 16).2=0):∀ j,j<16→(qbe v).getD j 0<65536:=fun j hj=>by
 rw[qbe,qcb _ _ _ _ (by rw[qct];omega),h,Nat.mul_zero,Nat.add_zero];split
 ·exact qfK v 16 (by omega) 0 (by omega)
 ·exact qfK v 16 (by omega) j hj
def qcr(v:List Nat):List Nat:=if (rnd v 16).2=0 then qbe v else if (rnd (qbe v) 16).2=0 then qbe (qbe v) else qbe (qbe (qbe v))
theorem foldD_length(v:List Nat):(qcr v).length=v.length:=by
 unfold qcr;split
 ·exact qbu _
 ·split
  ·rw[qbu,qbu]
  ·rw[qbu,qbu,qbu]
theorem foldD_mod(v:List Nat)(hl:v.length=16):dS (qcr v) 16%pF=dS v 16%pF:=by
 have l1:(qbe v).length=16:=by rw[qbu,hl]
 have l2:(qbe (qbe v)).length=16:=by rw[qbu,l1]
 unfold qcr;split
 ·exact qem v hl
 ·split
  ·rw[qem _ l1,qem v hl]
  ·rw[qem _ l2,qem _ l1,qem v hl]
theorem fold_last(T1 T2 r1 c1:Nat)(hr:r1<mF)(hc:c1<2^100)(h1:T1=r1+38*c1)(h2:T1/mF≠0)(h3:T2=T1%mF+38*(T1/mF)):T2/mF=0:=by
 have hm:(2^100:Nat)=1267650600228229401496703205376:=by decide
 have em:mF=115792089237316195423570985008687907853269984665640564039457584007913129639936:=rfl;rw[hm]at hc;rw[em]at hr h2 h3 ⊢;have hq:T1/115792089237316195423570985008687907853269984665640564039457584007913129639936=1:=by omega
 rw[hq]at h3;omega
theorem foldD_last(v:List Nat)(hl:v.length=16)(hv:dS v 16<mF*2^100)(h1:(rnd v 16).2≠0)(h2:(rnd (qbe v) 16).2≠0):(rnd (qbe (qbe v)) 16).2=0:=by
 have l1:(qbe v).length=16:=by rw[qbu,hl]
 have l2:(qbe (qbe v)).length=16:=by rw[qbu,l1]
 have v1:=foldR_val v hl;have v2:=foldR_val (qbe v) l1;have z0:=(rnd_parts (qbe v) l1).2;have z1:=(rnd_parts (qbe (qbe v)) l2).2;rw[z0]at h2;rw[z1];clear z0 z1 h1 l1 l2;have q1:dS v 16/mF<2^100:=Nat.div_lt_of_lt_mul hv;have q2:dS v 16%mF<mF:=Nat.mod_lt _ (by decide);generalize dS (qbe (qbe v)) 16=T2 at *;generalize dS (qbe v) 16=T1 at *;generalize dS v 16/mF=c1 at *;generalize dS v 16%mF=r1 at *;clear hv hl;exact fold_last T1 T2 r1 c1 q2 q1 v1 h2 v2
theorem foldD_low(v:List Nat)(hl:v.length=16)(hv:dS v 16<mF*2^100):∀ j,j<16→(qcr v).getD j 0<65536:=by
 have l1:(qbe v).length=16:=by rw[qbu,hl]
 have l2:(qbe (qbe v)).length=16:=by rw[qbu,l1]
 unfold qcr;split
 ·rename_i h;exact foldR_low v hl h
 ·rename_i h1;split
  ·rename_i h;exact foldR_low _ l1 h
  ·rename_i h2;exact foldR_low _ l2 (foldD_last v hl hv h1 h2)
theorem qdh(v:List Nat)(n:Nat):dS v (n+1)=dS v n+v.getD n 0*65536^n:=rfl
theorem dS_top(v:List Nat):dS v 16=dS v 15+v.getD 15 0*65536^15:=qdh v 15
def addW(v:List Nat):Nat→List Nat×Nat
 | 0=>([],19)
 | i+1=>((addW v i).1++[((addW v i).2+v.getD i 0)%65536],((addW v i).2+v.getD i 0)/65536)
theorem qcG(v:List Nat):∀ i,(addW v i).1.length=i
 | 0=>rfl
 | i+1=>by rw[addW,List.length_append,qcG v i];rfl
theorem addW_low(v:List Nat):∀ i j,j<i→(addW v i).1.getD j 0<65536
 | i+1,j,h=>by
  rw[addW,List.getD_eq_getElem?_getD];by_cases e:j=i
  ·rw[List.getElem?_append_right (by rw[qcG];omega),qcG,e,Nat.sub_self];exact Nat.mod_lt _ (by decide)
  ·rw[List.getElem?_append_left (by rw[qcG];omega),← List.getD_eq_getElem?_getD];exact addW_low v i j (by omega)
theorem addW_val(v:List Nat):∀ i,dS (addW v i).1 i+(addW v i).2*65536^i=dS v i+19
 | 0=>by simp[addW,dS]
 | i+1=>by
  have ih:=addW_val v i;have e1:(addW v (i+1)).1=(addW v i).1++[((addW v i).2+v.getD i 0)%65536]:=rfl;have e2:(addW v (i+1)).2=((addW v i).2+v.getD i 0)/65536:=rfl;have e3:dS v (i+1)=dS v i+v.getD i 0*65536^i:=rfl;rw[e1,e2,e3,dS_snoc _ _ _ (qcG v i)];clear e1 e2 e3;generalize (addW v i).1=u at *;generalize (addW v i).2=c at *;have hx:(c+v.getD i 0)%65536*65536^i+(c+v.getD i 0)/65536*65536^(i+1)=c*65536^i+v.getD i 0*65536^i:=by
   rw[Nat.pow_succ,Nat.mul_comm (65536^i) 65536,← Nat.mul_assoc,← Nat.add_mul,← Nat.add_mul];congr 1;omega
  omega
def subP(v:List Nat):List Nat:=if 32768≤(addW v 16).1.getD 15 0∨0<(addW v 16).2 then (addW v 16).1.set 15 ((addW v 16).1.getD 15 0+65536*(addW v 16).2-32768) else v
theorem subP_spec(v:List Nat)(hl:v.length=16)(h:∀ j,j<16→v.getD j 0<65536):(subP v).length=16∧(∀ j,j<16→(subP v).getD j 0<65536)∧dS (subP v) 16=if pF≤dS v 16 then dS v 16-pF else dS v 16:=by
 have hv:=dS_lt v 16 h;have hw:=addW_val v 16;have z0:=addW_low v 16;have z1:=qcG v 16;have z3:=dS_lt (addW v 16).1 16 (fun j hj=>z0 j hj);have z5:=dS_lt (addW v 16).1 15 (fun j hj=>z0 j (by omega));have ht:=z0 15 (by omega);have z8:=dS_top (addW v 16).1;rw[mF_pow]at hv hw z3;unfold subP;have em:mF=115792089237316195423570985008687907853269984665640564039457584007913129639936:=rfl;have ep:pF=57896044618658097711785492504343953926634992332820282019728792003956564819949:=rfl;have z4:65536^15=1766847064778384329583297500742918515827483896875618958121606201292619776:=by decide
 have z2:=dS_set (addW v 16).1 15 ((addW v 16).1.getD 15 0+65536*(addW v 16).2-32768) (by omega) 16 (by omega);rw[z4]at z8 z5 z2;rw[em]at hv hw z3;rw[ep];generalize (addW v 16).1=w at *;generalize (addW v 16).2=c at *;generalize w.getD 15 0=t at *;generalize z6:dS (w.set 15 (t+65536*c-32768)) 16=D1 at *;generalize dS w 16=Dw at *;generalize dS w 15=D15 at *;generalize z7:dS v 16=Dv at *;have hc:c≤1:=by omega
 split
 ·rename_i hcond;refine⟨by rw[List.length_set,z1],fun j hj=>?_,?_⟩
  ·rw[qcb _ _ _ _ (by omega)];split
   ·omega
   ·exact z0 j hj
  ·rw[z6,if_pos (by omega)];omega
 ·rename_i hcond;refine⟨hl,h,?_⟩;rw[z7,if_neg (by omega)]
def qdw(v:List Nat):List Nat:=if v.getD 15 0<32767 then v else subP (subP v)
theorem below_mod(V:Nat)(h:V<mF):(if pF≤(if pF≤V then V-pF else V) then (if pF≤V then V-pF else V)-pF else (if pF≤V then V-pF else V))=V%pF:=by
 have em:mF=115792089237316195423570985008687907853269984665640564039457584007913129639936:=rfl;have ep:pF=57896044618658097711785492504343953926634992332820282019728792003956564819949:=rfl;rw[em]at h;rw[ep];by_cases h1:57896044618658097711785492504343953926634992332820282019728792003956564819949≤V
 ·rw[if_pos h1];by_cases h2:57896044618658097711785492504343953926634992332820282019728792003956564819949≤V-57896044618658097711785492504343953926634992332820282019728792003956564819949
  ·rw[if_pos h2];omega
  ·rw[if_neg h2];omega
 ·rw[if_neg h1,if_neg h1];omega
theorem qgl(v:List Nat)(hl:v.length=16)(h:∀ j,j<16→v.getD j 0<65536):qdw v=digN (dS v 16%pF):=by
 have hv:=dS_lt v 16 h;rw[mF_pow]at hv;obtain⟨a1,a2,a3⟩:=subP_spec v hl h;obtain⟨b1,b2,b3⟩:=subP_spec (subP v) a1 a2;have em:mF=115792089237316195423570985008687907853269984665640564039457584007913129639936:=rfl;have ep:pF=57896044618658097711785492504343953926634992332820282019728792003956564819949:=rfl;unfold qdw;split
 ·rename_i h15;have z1:=dS_lt v 15 (fun j hj=>h j (by omega));have z3:=dS_top v;have z0:65536^15=1766847064778384329583297500742918515827483896875618958121606201292619776:=by decide
  rw[z0]at z3 z1;have z2:dS v 16<pF:=by
   rw[ep];generalize dS v 16=D at *;generalize dS v 15=D15 at *;omega
  rw[Nat.mod_eq_of_lt z2];exact eq_digN v hl h
 ·have hval:dS (subP (subP v)) 16=dS v 16%pF:=by
   rw[b3,a3];exact below_mod (dS v 16) hv
  rw[← hval];exact eq_digN _ b1 b2
theorem qgH(v:List Nat)(hl:v.length=16)(hv:dS v 16<mF*2^100):qdw (qcr v)=digN (dS v 16%pF):=by
 rw[qgl _ (by rw[foldD_length,hl]) (foldD_low v hl hv),foldD_mod v hl]
theorem dS_small(v:List Nat)(X:Nat)(hX:X≤2^60)(h:∀ j,j<16→v.getD j 0≤X):dS v 16<mF*2^100:=by
 have h1:=dS_le v X 16 h;rw[mF_pow]at h1;have h2:X*mF≤2^60*mF:=Nat.mul_le_mul_right _ hX;have h3:2^60*mF<mF*2^100:=by decide
 exact Nat.lt_of_le_of_lt (Nat.le_trans h1 h2) h3
def mkD(f:Nat→Nat):List Nat:=(List.range 16).map f
theorem qbp(f:Nat→Nat):(mkD f).length=16:=by simp[mkD]
theorem qbs(f:Nat→Nat)(j:Nat)(h:j<16):(mkD f).getD j 0=f j:=qdd _ _ _ h
theorem mkD_set(f g:Nat→Nat)(i:Nat)(hi:i<16)(h:∀ j,j<16→j≠i→f j=g j):(mkD f).set i (g i)=mkD g:=qbU (by rw[List.length_set,qbp]) (qbp _) fun j hj=>by
 rw[qcb _ _ _ _ (by rw[qbp];exact hi),qbs g j hj];by_cases e:j=i
 ·rw[if_pos e,e]
 ·rw[if_neg e,qbs f j hj,h j hj e]
theorem dS_add(u v w:List Nat):∀ n,(∀ j,j<n→w.getD j 0=u.getD j 0+v.getD j 0)→dS w n=dS u n+dS v n
 | 0,_=>rfl
 | n+1,h=>by
  rw[qdh,qdh,qdh,dS_add u v w n (fun j hj=>h j (by omega)),h n (by omega),Nat.add_mul];generalize u.getD n 0*65536^n=a;generalize v.getD n 0*65536^n=b;omega
def addD(a b:List Nat):List Nat:=mkD fun i=>a.getD i 0+b.getD i 0
theorem addD_val(a b:List Nat):dS (addD a b) 16=dS a 16+dS b 16:=dS_add _ _ _ 16 fun j hj=>qbs _ _ hj
theorem add_ref(x y:Nat)(hx:x<pF)(hy:y<pF):qdw (qcr (addD (digN x) (digN y)))=digN ((x+y)%pF):=by
 have hm:pF<mF:=by decide
 have h:=qgH (addD (digN x) (digN y)) (qbp _) (dS_small _ 131072 (by decide) fun j hj=>by
  rw[addD,qbs _ _ hj];have:=qa2 x j hj;have:=qa2 y j hj;omega)
 rw[addD_val,qbY x (by omega),qbY y (by omega)]at h;exact h
theorem pF_digits:∀ j,j<16→(digN pF).getD j 0=if j=0 then 65517 else if j=15 then 32767 else 65535:=by decide +kernel
theorem top_le(x:Nat)(hx:x<pF):(digN x).getD 15 0≤32767:=by
 rw[qbC _ _ (by decide)];have z0:65536^15=1766847064778384329583297500742918515827483896875618958121606201292619776:=by decide
 have ep:pF=57896044618658097711785492504343953926634992332820282019728792003956564819949:=rfl;rw[z0];rw[ep]at hx;omega
def subD(a b:List Nat):List Nat:=mkD fun i=>a.getD i 0+2*(digN pF).getD i 0-b.getD i 0
theorem subD_ok(x j:Nat)(hx:x<pF)(hj:j<16):(digN x).getD j 0≤2*(digN pF).getD j 0:=by
 rw[pF_digits j hj];have h1:=qa2 x j hj;by_cases h0:j=0
 ·rw[if_pos h0];omega
 ·rw[if_neg h0];by_cases z0:j=15
  ·rw[if_pos z0];subst z0;have:=top_le x hx;omega
  ·rw[if_neg z0];omega
theorem dS_twice(v w:List Nat):∀ n,(∀ j,j<n→w.getD j 0=2*v.getD j 0)→dS w n=2*dS v n
 | 0,_=>rfl
 | n+1,h=>by
  rw[qdh,qdh,dS_twice v w n (fun j hj=>h j (by omega)),h n (by omega),Nat.mul_assoc,Nat.mul_add]
theorem sub_ref(x y:Nat)(hx:x<pF)(hy:y<pF):qdw (qcr (subD (digN x) (digN y)))=digN ((x+(pF-y))%pF):=by
 have hm:pF<mF:=by decide
 have h:=qgH (subD (digN x) (digN y)) (qbp _) (dS_small _ 262144 (by decide) fun j hj=>by
  rw[subD,qbs _ _ hj];have:=qa2 x j hj;have:=qa2 pF j hj;omega)
 have hp:dS (digN pF) 16=pF:=qbY pF (by decide);have h1:dS (mkD fun i=>(digN x).getD i 0+2*(digN pF).getD i 0) 16=x+2*pF:=by
  rw[dS_add (digN x) (mkD fun i=>2*(digN pF).getD i 0) _ 16 (fun j hj=>by rw[qbs _ _ hj,qbs _ _ hj]),qbY x (by omega),dS_twice (digN pF) _ 16 (fun j hj=>qbs _ _ hj),hp]
 have h2:dS (subD (digN x) (digN y)) 16+y=x+2*pF:=by
  have h3:=dS_add (subD (digN x) (digN y)) (digN y) (mkD fun i=>(digN x).getD i 0+2*(digN pF).getD i 0) 16 (fun j hj=>by
   rw[qbs _ _ hj,subD,qbs _ _ hj];have:=subD_ok y j hy hj;omega)
  rw[h1,qbY y (by omega)]at h3;exact h3.symm
 have h4:dS (subD (digN x) (digN y)) 16=(x+(pF-y))+pF:=by
  generalize dS (subD (digN x) (digN y)) 16=D at *;omega
 rw[h,h4,Nat.add_mod_right]
def mulK(a b:List Nat)(i:Nat)(v:List Nat):Nat→List Nat
 | 0=>v
 | k+1=>if i+k<16 then (mulK a b i v k).set (i+k) ((mulK a b i v k).getD (i+k) 0+a.getD i 0*b.getD k 0) else (mulK a b i v k).set (i+k-16) ((mulK a b i v k).getD (i+k-16) 0+38*a.getD i 0*b.getD k 0)
theorem qdc(a b:List Nat)(i:Nat)(v:List Nat):∀ k,(mulK a b i v k).length=v.length
 | 0=>rfl
 | k+1=>by
  rw[mulK];split
  ·rw[List.length_set];exact qdc a b i v k
  ·rw[List.length_set];exact qdc a b i v k
theorem mulK_le(a b:List Nat)(i:Nat)(v:List Nat)(X:Nat)(hl:v.length=16)(hi:i<16)(ha:a.getD i 0<65536)(hb:∀ k,k<16→b.getD k 0<65536)(hv:∀ j,j<16→v.getD j 0≤X):∀ k,k≤16→∀ j,j<16→(mulK a b i v k).getD j 0≤X+k*163203907584
 | 0,_,j,hj=>by rw[mulK];have:=hv j hj;omega
 | k+1,h,j,hj=>by
  have ih:=mulK_le a b i v X hl hi ha hb hv k (by omega);have hbk:=hb k (by omega);have hab:a.getD i 0*b.getD k 0≤65535*65535:=Nat.mul_le_mul (by omega) (by omega);have hab2:38*a.getD i 0*b.getD k 0≤163203907584:=by rw[Nat.mul_assoc];omega
  rw[mulK];split
  ·rw[qcb _ _ _ _ (by rw[qdc];omega)];split
   ·have:=ih (i+k) (by omega);omega
   ·exact Nat.le_trans (ih j hj) (Nat.add_le_add_left (Nat.mul_le_mul_right _ (Nat.le_succ k)) X)
  ·rw[qcb _ _ _ _ (by rw[qdc];omega)];split
   ·have:=ih (i+k-16) (by omega);omega
   ·exact Nat.le_trans (ih j hj) (Nat.add_le_add_left (Nat.mul_le_mul_right _ (Nat.le_succ k)) X)
theorem mF_mod(q:Nat):(38*q)%pF=(q*mF)%pF:=by
 rw[mF_pF,Nat.mul_add,show q*(2*pF)=pF*(2*q) by rw[Nat.mul_comm 2 pF,← Nat.mul_assoc,Nat.mul_comm q pF,Nat.mul_assoc,Nat.mul_comm q 2],Nat.mul_add_mod,Nat.mul_comm q 38]
theorem qgC{a b c d p:Nat}(h1:a%p=b%p)(h2:c%p=d%p):(a+c)%p=(b+d)%p:=by
 rw[Nat.add_mod,h1,h2,← Nat.add_mod]
theorem mulK_val(a b:List Nat)(i N:Nat)(hN:N=16)(v:List Nat)(hl:v.length=N)(hi:i<N):∀ k,k≤N→dS (mulK a b i v k) N%pF=(dS v N+a.getD i 0*65536^i*dS b k)%pF:=by
 intro k
 induction k with
 | zero=>intro _;rw[show mulK a b i v 0=v from rfl,show dS b 0=0 from rfl,Nat.mul_zero,Nat.add_zero]
 | succ k ih=>
  intro h;have ih:=ih (by omega);rw[qdh b k];have hlen:=qdc a b i v k;have e0:mulK a b i v (k+1)=if i+k<16 then (mulK a b i v k).set (i+k) ((mulK a b i v k).getD (i+k) 0+a.getD i 0*b.getD k 0) else (mulK a b i v k).set (i+k-16) ((mulK a b i v k).getD (i+k-16) 0+38*a.getD i 0*b.getD k 0):=rfl;rw[e0];clear e0;generalize mulK a b i v k=u at *;have ht:a.getD i 0*65536^i*(dS b k+b.getD k 0*65536^k)=a.getD i 0*65536^i*dS b k+a.getD i 0*b.getD k 0*65536^(i+k):=by
   rw[Nat.mul_add,Nat.pow_add];congr 1;rw[Nat.mul_assoc,Nat.mul_assoc,Nat.mul_left_comm (65536^i)]
  rw[ht,← Nat.add_assoc];split
  ·rename_i hlt;have hs:=dS_set u (i+k) (u.getD (i+k) 0+a.getD i 0*b.getD k 0) (by omega) N (by omega);rw[Nat.add_mul]at hs;have hv:dS (u.set (i+k) (u.getD (i+k) 0+a.getD i 0*b.getD k 0)) N=dS u N+a.getD i 0*b.getD k 0*65536^(i+k):=by
    generalize dS (u.set (i+k) (u.getD (i+k) 0+a.getD i 0*b.getD k 0)) N=D1 at *;generalize dS u N=D0 at *;generalize u.getD (i+k) 0*65536^(i+k)=z1 at *;omega
   rw[hv];exact qgC ih rfl
  ·rename_i hlt;have hs:=dS_set u (i+k-16) (u.getD (i+k-16) 0+38*a.getD i 0*b.getD k 0) (by omega) N (by omega);rw[Nat.add_mul]at hs;have hv:dS (u.set (i+k-16) (u.getD (i+k-16) 0+38*a.getD i 0*b.getD k 0)) N=dS u N+38*a.getD i 0*b.getD k 0*65536^(i+k-16):=by
    generalize dS (u.set (i+k-16) (u.getD (i+k-16) 0+38*a.getD i 0*b.getD k 0)) N=D1 at *;generalize dS u N=D0 at *;generalize u.getD (i+k-16) 0*65536^(i+k-16)=z1 at *;omega
   rw[hv];refine qgC ih ?_;have hp:65536^(i+k)=65536^(i+k-16)*mF:=by rw[← mF_pow,← Nat.pow_add,show i+k-16+16=i+k by omega]
   rw[hp,← Nat.mul_assoc,← mF_mod];rw[Nat.mul_assoc 38,Nat.mul_assoc 38]
def mulI(a b:List Nat):Nat→List Nat
 | 0=>mkD fun _=>0
 | i+1=>mulK a b i (mulI a b i) 16
theorem qdA(a b:List Nat):∀ i,(mulI a b i).length=16
 | 0=>qbp _
 | i+1=>by rw[mulI,qdc];exact qdA a b i
theorem mulI_le(a b:List Nat)(ha:∀ k,k<16→a.getD k 0<65536)(hb:∀ k,k<16→b.getD k 0<65536):∀ i,i≤16→∀ j,j<16→(mulI a b i).getD j 0≤i*2611262521344
 | 0,_,j,hj=>by rw[mulI,qbs _ _ hj];omega
 | i+1,h,j,hj=>by
  have:=mulK_le a b i (mulI a b i) _ (qdA a b i) (by omega) (ha i (by omega)) hb (mulI_le a b ha hb i (by omega)) 16 (Nat.le_refl _) j hj;rw[mulI];omega
theorem mulI_val(a b:List Nat)(N:Nat)(hN:N=16):∀ i,i≤N→dS (mulI a b i) N%pF=(dS a i*dS b N)%pF:=by
 intro i
 induction i with
 | zero=>
  intro _;rw[show dS a 0=0 from rfl,Nat.zero_mul];have:dS (mulI a b 0) N=0:=by
   have h:=dS_le (mulI a b 0) 0 N (fun j hj=>by rw[mulI,qbs _ _ (by omega)];exact Nat.le_refl _);omega
  rw[this]
 | succ i ih=>
  intro h;have e0:mulI a b (i+1)=mulK a b i (mulI a b i) 16:=rfl;have hk:=mulK_val a b i N hN (mulI a b i) (by rw[qdA,hN]) (by omega) N (Nat.le_refl _);rw[e0,← hN,hk,qdh a i,Nat.add_mul];exact qgC (ih (by omega)) rfl
theorem mul_ref(x y:Nat)(hx:x<pF)(hy:y<pF):qdw (qcr (mulI (digN x) (digN y) 16))=digN (x*y%pF):=by
 have hm:pF<mF:=by decide
 have h:=qgH (mulI (digN x) (digN y) 16) (qdA _ _ _) (dS_small _ 41780200341504 (by decide) fun j hj=>by
  have:=mulI_le (digN x) (digN y) (fun k hk=>qa2 x k hk) (fun k hk=>qa2 y k hk) 16 (Nat.le_refl _) j hj;omega)
 have hv:=mulI_val (digN x) (digN y) 16 rfl 16 (Nat.le_refl _);rw[qbY x (by omega),qbY y (by omega)]at hv;rw[h,hv]
def pwF(a n:Nat)(m:Nat):Nat:=a^(n/2^(256-m))%pF
theorem pwF_zero(a n:Nat)(h:n<2^256):pwF a n 0=1:=by
 rw[pwF,Nat.sub_zero,Nat.div_eq_of_lt h,Nat.pow_zero];rfl
theorem pwF_last(a n:Nat):pwF a n 256=a^n%pF:=by rw[pwF,Nat.sub_self,Nat.pow_zero,Nat.div_one]
theorem pwF_lt(a n m:Nat):pwF a n m<pF:=Nat.mod_lt _ qdx
theorem pwF_step(a n m:Nat)(h:m<256):pwF a n (m+1)=if n.testBit (255-m) then (pwF a n m*pwF a n m%pF)*a%pF else pwF a n m*pwF a n m%pF:=by
 have e:n/2^(256-(m+1))=2*(n/2^(256-m))+n/2^(255-m)%2:=by
  rw[show 256-(m+1)=255-m by omega,show 256-m=255-m+1 by omega,Nat.pow_succ,← Nat.div_div_eq_div_mul];omega
 rw[pwF,e,pwF,Nat.testBit_eq_decide_div_mod_eq];generalize n/2^(256-m)=q;have h2:n/2^(255-m)%2=0∨n/2^(255-m)%2=1:=by omega
 rcases h2 with h2|h2
 ·rw[h2,Nat.add_zero,if_neg (by simp),← Nat.mul_mod,← Nat.pow_add,show q+q=2*q by omega]
 ·rw[h2,if_pos (by simp),Nat.pow_succ,← Nat.mul_mod,← Nat.pow_add,show q+q=2*q by omega,Nat.mod_mul_mod]
theorem digN_bit(n i:Nat)(hi:i<256):(digN n).getD (i/16) 0/2^(i%16)%2=n/2^i%2:=by
 rw[qbC _ _ (by omega),show 65536^(i/16)=2^(16*(i/16)) by rw[Nat.pow_mul]];have h1:(n/2^(16*(i/16))%65536)/2^(i%16)%2=n/2^(16*(i/16))/2^(i%16)%2:=by
  have hb:=Nat.testBit_mod_two_pow (n/2^(16*(i/16))) 16 (i%16);rw[Nat.testBit_eq_decide_div_mod_eq,Nat.testBit_eq_decide_div_mod_eq,decide_eq_true (show i%16<16 from Nat.mod_lt _ (by decide)),Bool.true_and]at hb;have z0:=decide_eq_decide.1 hb;rw[show (2:Nat)^16=65536 from rfl]at z0;omega
 rw[h1,Nat.div_div_eq_div_mul,← Nat.pow_add,show 16*(i/16)+i%16=i by omega]
def leF(x n:Nat):List UInt8:=(List.range n).map fun i=>UInt8.ofNat (x/256^i)
theorem qbb(x n:Nat):(leF x n).length=n:=by simp[leF]
theorem leF_get(x n i:Nat)(h:i<n):(leF x n).getD i 0=UInt8.ofNat (x/256^i):=by simp[leF,List.getD_eq_getElem?_getD,h]
theorem leF_two(x n:Nat):leF x (2*n)++[UInt8.ofNat (x/65536^n%65536),UInt8.ofNat (x/65536^n%65536/256)]=leF x (2*(n+1)):=by
 have e1:UInt8.ofNat (x/65536^n%65536)=UInt8.ofNat (x/256^(2*n)):=by
  apply UInt8.toNat_inj.1;rw[UInt8.toNat_ofNat',UInt8.toNat_ofNat',Nat.pow_mul];show x/65536^n%65536%256=x/65536^n%256;omega
 have e2:UInt8.ofNat (x/65536^n%65536/256)=UInt8.ofNat (x/256^(2*n+1)):=by
  apply UInt8.toNat_inj.1;rw[UInt8.toNat_ofNat',UInt8.toNat_ofNat',show 256^(2*n+1)=65536^n*256 by rw[Nat.pow_succ,Nat.pow_mul],← Nat.div_div_eq_div_mul];show x/65536^n%65536/256%256=x/65536^n/256%256;omega
 rw[e1,e2,leF,leF,show 2*(n+1)=2*n+1+1 by omega,List.range_succ,List.range_succ,List.map_append,List.map_append,List.append_assoc]
 rfl
def leV(l:List UInt8):Nat→Nat
 | 0=>0
 | n+1=>leV l n+(l.getD n 0).toNat*256^n
theorem leV_lt(l:List UInt8):∀ n,leV l n<256^n
 | 0=>by simp[leV]
 | n+1=>by
  have h1:=leV_lt l n;have h2:(l.getD n 0).toNat*256^n≤255*256^n:=Nat.mul_le_mul_right _ (by have:=UInt8.toNat_lt (l.getD n 0);omega);rw[leV,Nat.pow_succ];omega
theorem qgL(l:List UInt8)(v:List Nat):∀ n,(∀ j,j<n→v.getD j 0=(l.getD (2*j) 0).toNat+256*(l.getD (2*j+1) 0).toNat)→dS v n=leV l (2*n)
 | 0,_=>rfl
 | n+1,h=>by
  rw[qdh,qgL l v n (fun j hj=>h j (by omega)),h n (by omega),show 2*(n+1)=2*n+1+1 by omega,leV,leV,Nat.pow_succ,Nat.pow_mul,show (256:Nat)^2=65536 from rfl,Nat.add_mul];rw[show 256*(l.getD (2*n+1) 0).toNat*65536^n=(l.getD (2*n+1) 0).toNat*(65536^n*256) by rw[Nat.mul_comm 256,Nat.mul_assoc,Nat.mul_comm 256]];omega
theorem of_ref(l:List UInt8):qdw (mkD fun j=>(l.getD (2*j) 0).toNat+256*(l.getD (2*j+1) 0).toNat)=digN (leV l 32%pF):=by
 rw[qgl _ (qbp _) (fun j hj=>by
  rw[qbs _ _ hj];have:=UInt8.toNat_lt (l.getD (2*j) 0);have:=UInt8.toNat_lt (l.getD (2*j+1) 0);omega),qgL l _ 16 (fun j hj=>qbs _ _ hj)]
theorem half_ref(x j:Nat)(hj:j<16)(hx:x<mF):(digN (x/2)).getD j 0=(digN x).getD j 0/2 ||| (if j<15 then (digN x).getD (j+1) 0%2*32768 else 0):=by
 rw[qbC _ _ hj,qbC _ _ hj];have z1:x/65536^j%65536/2<2^15:=by omega
 have z2:∀ b,b<2→x/65536^j%65536/2 ||| b*32768=x/65536^j%65536/2+b*32768:=fun b hb=>by
  rw[Nat.or_comm,show b*32768=2^15*b by omega,← Nat.two_pow_add_eq_or_of_lt z1];omega
 have hd:x/2/65536^j=x/65536^j/2:=by rw[Nat.div_div_eq_div_mul,Nat.div_div_eq_div_mul,Nat.mul_comm]
 rw[hd];by_cases h:j<15
 ·rw[if_pos h,qbC _ _ (by omega),z2 _ (by omega),Nat.pow_succ,← Nat.div_div_eq_div_mul];generalize x/65536^j=q;omega
 ·obtain rfl:j=15:=by omega
  rw[if_neg h,Nat.or_zero];have z0:65536^15=1766847064778384329583297500742918515827483896875618958121606201292619776:=by decide
  have em:mF=115792089237316195423570985008687907853269984665640564039457584007913129639936:=rfl;rw[z0];rw[em]at hx;omega
def addF(a b:Nat):Nat:=(a+b)%pF
def subF(a b:Nat):Nat:=(a+(pF-b))%pF
def mulF(a b:Nat):Nat:=a*b%pF
def powF(a n:Nat):Nat:=a^n%pF
def invF(a:Nat):Nat:=powF a (pF-2)
theorem qb7(a b:Nat):addF a b<pF:=Nat.mod_lt _ qdx
theorem qbt(a b:Nat):subF a b<pF:=Nat.mod_lt _ qdx
theorem qaT(a b:Nat):mulF a b<pF:=Nat.mod_lt _ qdx
theorem qa4(a n:Nat):powF a n<pF:=Nat.mod_lt _ qdx
theorem addF_comm(a b:Nat):addF a b=addF b a:=by rw[addF,addF,Nat.add_comm]
theorem mulF_comm(a b:Nat):mulF a b=mulF b a:=by rw[mulF,mulF,Nat.mul_comm]
theorem sub_self(a:Nat)(ha:a<pF):subF a a=0:=by rw[subF,show a+(pF-a)=pF by omega,Nat.mod_self]
theorem mul_one(a:Nat)(ha:a<pF):mulF a 1=a:=by rw[mulF,Nat.mul_one,Nat.mod_eq_of_lt ha]
theorem mul_zero(a:Nat):mulF a 0=0:=by rw[mulF,Nat.mul_zero,Nat.zero_mod]
def pwC(a n:Nat):Nat→Nat
 | 0=>1
 | m+1=>if n.testBit (255-m) then (pwC a n m*pwC a n m%pF)*a%pF else pwC a n m*pwC a n m%pF
def pwQ(a n:Nat):Nat→Nat
 | 0=>1
 | m+1=>(fun x=>if n.testBit (255-m) then (x*x%pF)*a%pF else x*x%pF) (pwQ a n m)
theorem pwQ_eq(a n:Nat):∀ m,pwQ a n m=pwC a n m
 | 0=>rfl
 | m+1=>by rw[pwC,← pwQ_eq a n m];rfl
theorem pwC_eq(a n:Nat)(h:n<2^256):∀ m,m≤256→pwC a n m=pwF a n m
 | 0,_=>by rw[pwF_zero a n h];rfl
 | m+1,hm=>by rw[pwC,pwF_step a n m (by omega),pwC_eq a n h m (by omega)]
theorem powF_reckoned(a n:Nat)(h:n<2^256):powF a n=pwQ a n 256:=by
 rw[pwQ_eq,pwC_eq a n h 256 (Nat.le_refl _),pwF_last];rfl
def qbl(a:Nat):Nat:=powF a ((pF+3)/8)
def qbm(a:Nat):Nat:=if mulF (qbl a) (qbl a)=a then qbl a else mulF (qbl a) (powF 2 ((pF-1)/4))
def qbj(a:Nat):Nat×Bool:=if mulF (qbm a) (qbm a)=a then (if qbm a%2=1 then subF 0 (qbm a) else qbm a,true) else (0,false)
theorem rootY_lt(a:Nat):qbm a<pF:=by
 unfold qbm;split
 ·exact qa4 _ _
 ·exact qaT _ _
theorem rootF_lt(a:Nat):(qbj a).1<pF:=by
 unfold qbj;split
 ·show (if qbm a%2=1 then subF 0 (qbm a) else qbm a)<pF;split
  ·exact qbt _ _
  ·exact rootY_lt a
 ·exact qdx
def qcT(n:Int):Nat:=(n%(pF:Int)).toNat
theorem smallF_lt(n:Int):qcT n<pF:=by
 have h1:=Int.emod_nonneg n (show (pF:Int)≠0 by decide);have h2:=Int.emod_lt_of_pos n (show (0:Int)<(pF:Int) by decide);rw[qcT];omega
theorem smallF_neg(n:Int)(h0:n<0)(h:-9223372036854775808≤n):qcT n=pF-(-n).toNat:=by
 have hp:9223372036854775808<pF:=by decide
 rw[qcT];have:n%(pF:Int)=n+pF:=by
  rw[← Int.add_emod_right,Int.emod_eq_of_lt (by omega) (by omega)]
 rw[this];omega
def cyF(P E i:Nat):Nat:=(P%65536^i+E%65536^i)/65536^i
theorem cyF_zero(P E:Nat):cyF P E 0=0:=by simp[cyF,Nat.mod_one]
theorem cyF_step(P E i:Nat):(P/65536^i%65536+E/65536^i%65536+cyF P E i)%65536=(P+E)/65536^i%65536∧(P/65536^i%65536+E/65536^i%65536+cyF P E i)/65536=cyF P E (i+1):=by
 have hp:0<65536^i:=Nat.pow_pos (by decide);have hS:(P%65536^(i+1)+E%65536^(i+1))/65536^i=P/65536^i%65536+E/65536^i%65536+cyF P E i:=by
  rw[cyF,Nat.pow_succ,Nat.mod_mul,Nat.mod_mul];rw[show P%65536^i+65536^i*(P/65536^i%65536)+(E%65536^i+65536^i*(E/65536^i%65536))=P%65536^i+E%65536^i+65536^i*(P/65536^i%65536+E/65536^i%65536) by rw[Nat.mul_add];omega];rw[Nat.add_mul_div_left _ _ hp];omega
 constructor
 ·rw[← hS,← Nat.mod_mul_right_div_self,← Nat.pow_succ,← Nat.add_mod,Nat.pow_succ,Nat.mod_mul_right_div_self]
 ·rw[← hS,Nat.div_div_eq_div_mul,← Nat.pow_succ];rfl
def negE(n:Int):Nat:=mF-(-n).toNat
theorem negE_digit(n:Int)(h0:n<0)(h:-9223372036854775808≤n)(i:Nat)(hi:i<16):((negE n/65536^i%65536:Nat):Int)=if i>3 then 65535 else n/65536^i%65536:=by
 have em:mF=115792089237316195423570985008687907853269984665640564039457584007913129639936:=rfl;have hE:((negE n:Nat):Int)=(mF:Int)+n:=by
  rw[negE];have:(-n).toNat≤mF:=by rw[em];omega
  omega
 have hc:((negE n/65536^i%65536:Nat):Int)=((mF:Int)+n)/65536^i%65536:=by rw[← hE];simp
 rw[hc,em];rcases (show i=0∨i=1∨i=2∨i=3∨i=4∨i=5∨i=6∨i=7∨i=8∨i=9∨i=10∨i=11∨i=12∨i=13∨i=14∨i=15 by omega)with rfl|rfl|rfl|rfl|rfl|rfl|rfl|rfl|rfl|rfl|rfl|rfl|rfl|rfl|rfl|rfl<;>first|(rw[if_pos (by decide)];omega)|(rw[if_neg (by decide)];omega)
theorem small_neg_ref(n:Int)(h0:n<0)(h:-9223372036854775808≤n):mkD (fun j=>(pF+negE n)/65536^j%65536)=digN (qcT n):=by
 have em:mF=115792089237316195423570985008687907853269984665640564039457584007913129639936:=rfl;have ep:pF=57896044618658097711785492504343953926634992332820282019728792003956564819949:=rfl;have h1:pF+negE n=qcT n+mF:=by
  rw[smallF_neg n h0 h,negE];rw[em,ep];omega
 have h2:=eq_digN (mkD fun j=>(qcT n+mF)/65536^j%65536) (qbp _) (fun j hj=>by rw[qbs _ _ hj];exact Nat.mod_lt _ (by decide));rw[h1];refine qbU (qbp _) (qaG _) fun j hj=>?_;rw[qbs _ _ hj,qbC _ _ hj];have hd:mF=65536^j*65536^(16-j):=by rw[← Nat.pow_add,show j+(16-j)=16 by omega];exact mF_pow.symm
 rw[hd,Nat.add_mul_div_left _ _ (Nat.pow_pos (by decide))];obtain⟨k,hk⟩:∃ k,16-j=k+1:=⟨15-j,by omega⟩;rw[hk,Nat.pow_succ,Nat.add_mul_mod_self_right]
def bw(k:Nat):Nat:=18446744073709551616^k
theorem qdI(k:Nat):0<bw k:=Nat.pow_pos (by decide)
theorem bw_succ(k:Nat):bw (k+1)=bw k*18446744073709551616:=Nat.pow_succ ..
theorem bw_add(i j:Nat):bw (i+j)=bw i*bw j:=Nat.pow_add ..
def dg(x k:Nat):Nat:=x/bw k%18446744073709551616
theorem dg_lt(x k:Nat):dg x k<18446744073709551616:=Nat.mod_lt _ (by decide)
def mixN(N x z k:Nat):List Nat:=(List.range N).map fun j=>if j<k then dg z j else dg x j
def limN(N x:Nat):List Nat:=(List.range N).map fun j=>dg x j
theorem qbF(N x z k:Nat):(mixN N x z k).length=N:=by simp[mixN]
theorem qae(N x:Nat):(limN N x).length=N:=by simp[limN]
theorem qbn(N x j:Nat)(h:j<N):(limN N x).getD j 0=dg x j:=qdd _ _ _ h
theorem qdo(N x z k j:Nat)(h:j<N)(hk:k≤j):(mixN N x z k).getD j 0=dg x j:=by rw[mixN,qdd _ _ _ h,if_neg (by omega)]
theorem qe3(N x z k j:Nat)(h:j<N)(hk:j<k):(mixN N x z k).getD j 0=dg z j:=by rw[mixN,qdd _ _ _ h,if_pos hk]
theorem qcn(N x z:Nat):mixN N x z 0=limN N x:=by simp[mixN,limN]
theorem qgc(N x z k:Nat)(h:N≤k):mixN N x z k=limN N z:=qbU (qbF ..) (qae ..) fun i hi=>by rw[qe3 _ _ _ _ _ hi (by omega),qbn _ _ _ hi]
theorem qe4(N x z k:Nat)(h:k<N):(mixN N x z k).set k (dg z k)=mixN N x z (k+1):=qbU (by rw[List.length_set,qbF]) (qbF ..) fun i hi=>by
 rw[qcb _ _ _ _ (by rw[qbF];exact h)];by_cases e:i=k
 ·rw[if_pos e,e,qe3 _ _ _ _ _ h (by omega)]
 ·rw[if_neg e];by_cases z0:i<k
  ·rw[qe3 _ _ _ _ _ hi z0,qe3 _ _ _ _ _ hi (by omega)]
  ·rw[qdo _ _ _ _ _ hi (by omega),qdo _ _ _ _ _ hi (by omega)]
theorem mixN_same(N x z k:Nat)(h:∀ j,j<k→dg z j=dg x j):mixN N x z k=limN N x:=qbU (qbF ..) (qae ..) fun i hi=>by
 rw[qbn _ _ _ hi];by_cases z0:i<k
 ·rw[qe3 _ _ _ _ _ hi z0,h i z0]
 ·rw[qdo _ _ _ _ _ hi (by omega)]
theorem mixN_rest(N x z k:Nat)(h:∀ j,k≤j→j<N→dg x j=dg z j):mixN N x z k=limN N z:=qbU (qbF ..) (qae ..) fun i hi=>by
 rw[qbn _ _ _ hi];by_cases z0:i<k
 ·rw[qe3 _ _ _ _ _ hi z0]
 ·rw[qdo _ _ _ _ _ hi (by omega),h i (by omega) hi]
theorem qfJ(x k:Nat):x%bw (k+1)=x%bw k+bw k*dg x k:=by rw[bw_succ,Nat.mod_mul];rfl
theorem dg_small(x k:Nat)(h:x<bw k):dg x k=0:=by rw[dg,Nat.div_eq_of_lt h]
theorem bw_le(i j:Nat)(h:i≤j):bw i≤bw j:=Nat.pow_le_pow_right (by decide) h
theorem qdL(x k j:Nat)(h:x<bw k)(hj:k≤j):dg x j=0:=dg_small _ _ (Nat.lt_of_lt_of_le h (bw_le _ _ hj))
theorem qf7(x y k:Nat)(h:x%bw (k+1)=y%bw (k+1)):dg x k=dg y k:=by
 have e:∀ x,dg x k=x%bw (k+1)/bw k:=fun x=>by rw[bw_succ,Nat.mod_mul_right_div_self];rfl
 rw[e,e,h]
theorem dg_mod(x k n:Nat)(h:k<n):dg (x%bw n) k=dg x k:=qf7 _ _ _ (Nat.mod_mod_of_dvd _ (Nat.pow_dvd_pow _ h))
theorem sum_step(S S' d k:Nat)(z:Nat)(h:S'=S+bw k*d)(hz:z%bw (k+1)=S'%bw (k+1)):(S/bw k+d)%18446744073709551616=dg z k∧(S/bw k+d)/18446744073709551616=S' / bw (k+1):=by
 have e:S' / bw k=S/bw k+d:=by rw[h,Nat.add_mul_div_left _ _ (qdI k)]
 constructor
 ·rw[qf7 z S' k hz,dg,e]
 ·rw[bw_succ,← Nat.div_div_eq_div_mul,e]
def cyN(x y v k:Nat):Nat:=(x%bw k+y%bw k*v)/bw k
theorem cyN_zero(x y v:Nat):cyN x y v 0=0:=by simp[cyN,bw,Nat.mod_one]
theorem cyN_step(x y v k:Nat):(cyN x y v k+(dg x k+dg y k*v))%18446744073709551616=dg (x+y*v) k∧(cyN x y v k+(dg x k+dg y k*v))/18446744073709551616=cyN x y v (k+1):=by
 refine sum_step (x%bw k+y%bw k*v) (x%bw (k+1)+y%bw (k+1)*v) _ k (x+y*v) ?_ ?_
 ·rw[qfJ,qfJ,Nat.add_mul,Nat.mul_add,Nat.mul_assoc];omega
 ·rw[Nat.mod_add_mod,Nat.add_mod x (y*v),Nat.add_mod x (y%bw (k+1)*v),Nat.mod_mul_mod]
theorem cyN_lt(x y v k:Nat)(hv:v≤18446744073709551615):cyN x y v k<18446744073709551616:=by
 rw[cyN];apply Nat.div_lt_of_lt_mul;have h1:=Nat.mod_lt x (qdI k);have h2:=Nat.mod_lt y (qdI k);have h3:y%bw k*v≤y%bw k*18446744073709551615:=Nat.mul_le_mul_left _ hv;rw[Nat.mul_comm (bw k)];omega
theorem cyN_one(x y k:Nat):cyN x y 1 k≤1:=by
 rw[cyN,Nat.mul_one];have h1:=Nat.mod_lt x (qdI k);have h2:=Nat.mod_lt y (qdI k);have:(x%bw k+y%bw k)/bw k<2:=Nat.div_lt_of_lt_mul (by omega);omega
theorem cyN_last(x y v k:Nat)(hx:x<bw k)(hy:y<bw k):cyN x y v k=(x+y*v)/bw k:=by rw[cyN,Nat.mod_eq_of_lt hx,Nat.mod_eq_of_lt hy]
theorem add_step(x y k:Nat):(dg x k+dg y k+cyN x y 1 k)%18446744073709551616=dg (x+y) k∧(dg x k+dg y k+cyN x y 1 k)/18446744073709551616=cyN x y 1 (k+1):=by
 have h:=cyN_step x y 1 k;rw[Nat.mul_one,Nat.mul_one,Nat.add_comm (cyN x y 1 k)]at h;exact h
theorem sub_step(x y k:Nat)(h:y≤x):(dg x k+18446744073709551616-dg y k-cyN (x-y) y 1 k)%18446744073709551616=dg (x-y) k∧(if dg x k<dg y k+cyN (x-y) y 1 k then 1 else 0)=cyN (x-y) y 1 (k+1):=by
 obtain⟨h1,h2⟩:=add_step (x-y) y k;rw[Nat.sub_add_cancel h]at h1;have h3:=dg_lt (x-y) k;have h4:=dg_lt y k;have h5:=cyN_one (x-y) y k;have h6:=cyN_one (x-y) y (k+1);generalize cyN (x-y) y 1 (k+1)=c' at *;generalize cyN (x-y) y 1 k=c at *;generalize dg (x-y) k=z at *;generalize dg y k=b at *;generalize dg x k=a at *;constructor
 ·omega
 ·split<;>omega
def cwN(x v k:Nat):Nat:=(x%bw k+v)/bw k
theorem cwN_zero(x v:Nat):cwN x v 0=v:=by simp[cwN,bw,Nat.mod_one]
theorem cwN_step(x v k:Nat):(dg x k+cwN x v k)%18446744073709551616=dg (x+v) k∧(dg x k+cwN x v k)/18446744073709551616=cwN x v (k+1):=by
 rw[Nat.add_comm (dg x k)];refine sum_step (x%bw k+v) (x%bw (k+1)+v) _ k (x+v) ?_ ?_
 ·rw[qfJ];omega
 ·rw[Nat.mod_add_mod]
def rowW(x y i:Nat):Nat:=x*(y%bw i)
theorem rowW_zero(x y:Nat):rowW x y 0=0:=by simp[rowW,bw,Nat.mod_one]
theorem rowW_next(x y i:Nat):rowW x y (i+1)=rowW x y i+bw i*(x*dg y i):=by
 rw[rowW,rowW,qfJ,Nat.mul_add,Nat.mul_left_comm]
theorem rowW_lt(x y i:Nat)(hx:x<bw 4):rowW x y i<bw (4+i):=by
 rw[rowW,bw_add];have h1:=Nat.mod_lt y (qdI i);exact Nat.lt_of_le_of_lt (Nat.mul_le_mul_left x (Nat.le_of_lt h1)) (Nat.mul_lt_mul_of_pos_right hx (qdI i))
theorem rowW_last(x y:Nat)(hy:y<bw 4):rowW x y 4=x*y:=by rw[rowW,Nat.mod_eq_of_lt hy]
theorem dg_shift(W i j:Nat):dg W (i+j)=dg (W/bw i) j:=by rw[dg,dg,bw_add,← Nat.div_div_eq_div_mul]
theorem dg_low_same(W D i j:Nat)(h:j<i):dg (W+bw i*D) j=dg W j:=qf7 _ _ _ (by
 have e:bw i=bw (j+1)*bw (i-(j+1)):=by rw[← bw_add,show j+1+(i-(j+1))=i by omega]
 rw[e,Nat.mul_assoc,Nat.add_mul_mod_self_left])
def cyR(x y i j:Nat):Nat:=cyN (rowW x y i/bw i) x (dg y i) j
theorem row_step(x y i j:Nat):(dg (rowW x y i) (i+j)+cyR x y i j+dg x j*dg y i)%18446744073709551616=dg (rowW x y (i+1)) (i+j)∧(dg (rowW x y i) (i+j)+cyR x y i j+dg x j*dg y i)/18446744073709551616=cyR x y i (j+1):=by
 have h:=cyN_step (rowW x y i/bw i) x (dg y i) j;have e:rowW x y i/bw i+x*dg y i=rowW x y (i+1)/bw i:=by rw[rowW_next,Nat.add_mul_div_left _ _ (qdI i)]
 rw[e,← dg_shift,← dg_shift]at h;rw[show dg (rowW x y i) (i+j)+cyR x y i j+dg x j*dg y i=cyN (rowW x y i/bw i) x (dg y i) j+(dg (rowW x y i) (i+j)+dg x j*dg y i) by rw[cyR];omega];exact h
theorem row_last(x y i:Nat)(hx:x<bw 4):cyR x y i 4=dg (rowW x y (i+1)) (i+4):=by
 have h1:=rowW_lt x y i hx;have h2:=rowW_lt x y (i+1) hx;rw[bw_add,Nat.mul_comm]at h1;rw[cyR,cyN_last _ _ _ _ (Nat.div_lt_of_lt_mul h1) hx];have e:rowW x y i/bw i+x*dg y i=rowW x y (i+1)/bw i:=by rw[rowW_next,Nat.add_mul_div_left _ _ (qdI i)]
 rw[e,Nat.div_div_eq_div_mul,← bw_add,dg,Nat.mod_eq_of_lt];refine Nat.div_lt_of_lt_mul ?_;rw[← bw_succ,show i+4+1=4+(i+1) by omega];exact h2
theorem row_begin(N x y i:Nat):mixN N (rowW x y i) (rowW x y (i+1)) i=limN N (rowW x y i):=mixN_same _ _ _ _ fun j hj=>by rw[rowW_next,dg_low_same _ _ _ _ hj]
theorem row_end(N x y i:Nat)(hx:x<bw 4):mixN N (rowW x y i) (rowW x y (i+1)) (i+5)=limN N (rowW x y (i+1)):=mixN_rest _ _ _ _ fun j h1 h2=>by
 rw[qdL _ (4+i) _ (rowW_lt x y i hx) (by omega),qdL _ (4+(i+1)) _ (rowW_lt x y (i+1) hx) (by omega)]
def hF:Nat:=57896044618658097711785492504343953926634992332820282019728792003956564819968
theorem bw3:bw 3=6277101735386680763835789423207666416102355444464034512896:=by decide
theorem qfq:bw 4=mF:=by decide
theorem top_bit(x:Nat)(h:x<mF):dg x 3/9223372036854775808=x/hF:=by
 rw[dg,bw3,hF];rw[mF]at h;omega
theorem top_cut(x:Nat)(h:x<mF):(limN 4 x).set 3 (dg x 3%9223372036854775808)=limN 4 (x%hF):=by
 have e3:dg (x%hF) 3=dg x 3%9223372036854775808:=by
  rw[dg,dg,bw3,hF];rw[mF]at h;omega
 refine qbU (by rw[List.length_set,qae]) (qae ..) fun i hi=>?_;rw[qcb _ _ _ _ (by rw[qae];decide),qbn _ _ _ hi,qbn _ _ _ hi];by_cases e:i=3
 ·rw[if_pos e,e,e3]
 ·rw[if_neg e];refine (qf7 _ _ _ ?_).symm;have hd:hF=bw (i+1)*(hF/bw (i+1)):=by
   rcases (show i=0∨i=1∨i=2 by omega)with rfl|rfl|rfl<;>decide
  exact Nat.mod_mod_of_dvd _ ⟨_,hd⟩
def redT(x:Nat):Nat:=x%hF
def redN(x o:Nat):Nat:=2*o+x/hF
def redM(x o:Nat):Nat:=redN x o+(redT x+19*(redN x o+1))/hF
theorem red_fits(x o:Nat)(hx:x<mF)(ho:o≤38):redN x o≤77∧redM x o≤78∧redT x+19*(redN x o+1)<mF∧redT x+19*redM x o<mF:=by
 have h1:redN x o≤77:=by rw[redN,hF];rw[mF]at hx;omega
 have h2:redT x<hF:=Nat.mod_lt _ (by decide);rw[hF]at h2;have h3:redM x o≤78:=by rw[redM,hF];omega
 exact⟨h1,h3,by rw[mF];omega,by rw[mF];omega⟩
theorem red_done(x o:Nat)(hx:x<mF)(ho:o≤38):(redT x+19*redM x o)%hF=(x+o*mF)%pF:=by
 have em:mF=115792089237316195423570985008687907853269984665640564039457584007913129639936:=rfl;have ep:pF=57896044618658097711785492504343953926634992332820282019728792003956564819949:=rfl;have eh:hF=57896044618658097711785492504343953926634992332820282019728792003956564819968:=rfl;have h1:=(red_fits x o hx ho).1;have h2:redT x<hF:=Nat.mod_lt _ (by decide);have h3:x+o*mF=pF*redN x o+(redT x+19*redN x o):=by
  rw[redT,redN,em,ep,eh];omega
 rw[h3,Nat.mul_add_mod];have h4:redM x o=redN x o+(redT x+19*(redN x o+1))/hF:=rfl;generalize redM x o=m at *;generalize redN x o=n at *;generalize redT x=t at *;clear h3 hx;rw[eh]at *;rw[ep];obtain⟨s,hs⟩:∃ s,s=t+19*n:=⟨_,rfl⟩;rw[show t+19*(n+1)=s+19 by omega]at h4;rw[← hs];rcases (show (s+19)/57896044618658097711785492504343953926634992332820282019728792003956564819968=0∨(s+19)/57896044618658097711785492504343953926634992332820282019728792003956564819968=1 by omega)with h5|h5
 ·rw[h5,Nat.add_zero]at h4;rw[h4,← hs];clear h4 hs;rw[Nat.mod_eq_of_lt (by omega),Nat.mod_eq_of_lt (by omega)]
 ·rw[h5]at h4;rw[show t+19*m=s+19 by omega];clear h4;omega
theorem mul_parts(x y:Nat):(x*y%mF+38*(x*y/mF))%pF=mulF x y:=fold_mod (x*y)
theorem limN_mod(x:Nat):limN 4 (x%mF)=limN 4 x:=qbU (qae ..) (qae ..) fun i hi=>by rw[qbn _ _ _ hi,qbn _ _ _ hi,← qfq,dg_mod _ _ _ hi]
theorem limN_halves(x:Nat):limN 8 x=limN 4 (x%mF)++limN 4 (x/mF):=by
 rw[limN_mod];refine qbU (n:=8) (qae ..) (by simp[qae]) fun i hi=>?_;rw[qbn _ _ _ hi];by_cases h:i<4
 ·rw[List.getD_eq_getElem?_getD,List.getElem?_append_left (by rw[qae];exact h),← List.getD_eq_getElem?_getD,qbn _ _ _ h]
 ·rw[List.getD_eq_getElem?_getD,List.getElem?_append_right (by rw[qae];omega),← List.getD_eq_getElem?_getD,qae,qbn _ _ _ (by omega),← qfq,← dg_shift,show 4+(i-4)=i by omega]
theorem limN_inj(x y:Nat)(hx:x<mF)(hy:y<mF)(h:limN 4 x=limN 4 y):x=y:=by
 have hk:∀ k,k≤4→x%bw k=y%bw k:=by
  intro k
  induction k with
  | zero=>intro _;simp[bw,Nat.mod_one]
  | succ k ih=>
   intro hk;rw[qfJ,qfJ,ih (by omega)];have:=congrArg (fun l=>l.getD k 0) h;simp only[qbn 4 _ k (by omega)]at this;rw[this]
 have:=hk 4 (Nat.le_refl _);rw[qfq,Nat.mod_eq_of_lt hx,Nat.mod_eq_of_lt hy]at this;exact this
theorem dg_odd(x:Nat):dg x 0%2=x%2:=by rw[dg,show bw 0=1 from rfl,Nat.div_one];omega
end
end Go.Proofs.YteomfleofeeofaaGreatDoor
