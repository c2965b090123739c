/- The number of bytes, the lowest first. No program. -/
import Derived.Test.YteomfleofeeofaaGreatDoorFldA
namespace Go.Proofs.YteomfleofeeofaaGreatDoor
set_option maxRecDepth 100000
set_option linter.unusedSimpArgs false
set_option linter.unusedVariables false
section
def nV:List UInt8→Nat
 | []=>0
 | b :: l=>b.toNat+256*nV l
theorem leV_cons(b:UInt8)(l:List UInt8):∀ n,leV (b :: l) (n+1)=b.toNat+256*leV l n
 | 0=>by simp[leV]
 | n+1=>by
  have ih:=leV_cons b l n;rw[leV,ih,leV,Nat.pow_succ,Nat.mul_add,show (b :: l).getD (n+1) 0=l.getD n 0 from rfl];have:(l.getD n 0).toNat*(256^n*256)=256*((l.getD n 0).toNat*256^n):=by rw[← Nat.mul_assoc,Nat.mul_comm _ 256]
  omega
theorem nV_leV:∀ l:List UInt8,leV l l.length=nV l
 | []=>rfl
 | b :: l=>by rw[List.length_cons,leV_cons,nV_leV l,nV]
theorem nV_drop(l:List UInt8)(i:Nat)(h:i<l.length):nV (l.drop i)=(l.getD i 0).toNat+256*nV (l.drop (i+1)):=by
 rw[List.drop_eq_getElem_cons h,nV,List.getD_eq_getElem?_getD,List.getElem?_eq_getElem h,Option.getD_some]
theorem nV_lt(l:List UInt8):nV l<256^l.length:=by rw[← nV_leV];exact leV_lt l _
theorem nV_leF:∀ (n x:Nat),nV (leF x n)=x%256^n
 | 0,x=>by simp[leF,nV,Nat.mod_one]
 | n+1,x=>by
  have h:leF x (n+1)=UInt8.ofNat x :: leF (x/256) n:=by
   rw[leF,leF,List.range_succ_eq_map,List.map_cons,List.map_map,Nat.pow_zero,Nat.div_one];congr 1;apply List.map_congr_left;intro i _;show UInt8.ofNat (x/256^(i+1))=UInt8.ofNat (x/256/256^i);rw[Nat.div_div_eq_div_mul,Nat.pow_succ,Nat.mul_comm 256]
  rw[h,nV,nV_leF n,UInt8.toNat_ofNat',show (256:Nat)^(n+1)=256*256^n by rw[Nat.pow_succ,Nat.mul_comm],Nat.mod_mul]
theorem nV_inj:∀ (a b:List UInt8),a.length=b.length→nV a=nV b→a=b
 | [],[],_,_=>rfl
 | x :: a,y :: b,hl,h=>by
  rw[nV,nV]at h;have hx:=UInt8.toNat_lt x;have hy:=UInt8.toNat_lt y;have h1:x=y:=UInt8.toNat_inj.1 (by omega);rw[h1,nV_inj a b (by simpa using hl) (by omega)]
theorem low_same(l:List UInt8)(m:Nat)(h:l.length=32)(hm:0<m)(z1:m<256^32):(leF (nV l%m) 32==l)=decide (nV l<m):=by
 have z0:nV l%m<256^32:=Nat.lt_trans (Nat.mod_lt _ hm) z1;have hv:=nV_leF 32 (nV l%m);rw[Nat.mod_eq_of_lt z0]at hv;rw[Bool.eq_iff_iff,beq_iff_eq,decide_eq_true_eq];constructor
 ·intro e;rw[e]at hv;rw[hv];exact Nat.mod_lt _ hm
 ·intro e;refine nV_inj _ _ (by rw[qbb,h]) ?_;rw[hv,Nat.mod_eq_of_lt e]
end
end Go.Proofs.YteomfleofeeofaaGreatDoor
