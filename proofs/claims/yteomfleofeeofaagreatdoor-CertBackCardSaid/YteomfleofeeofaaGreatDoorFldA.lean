/- Numbers of sixteen digits of sixteen bits, modulo 2^255 less 19: the arithmetic of the reference's field. No program; The reference's sums, differences, products, powers, bytes and halves of numbers modulo 2^255 less 19, on digits. No program; The field of the document on numbers: sums, products, powers reckoned, roots, small numbers; its laws and the chapter's examples. No program; Numbers of four or eight limbs of 64 bits: sums, differences and products, limb by limb, and what is left of 2^255 brought below p. No program. -/
import Derived.Test.YteomfleofeeofaaGreatDoorRows
namespace Go.Proofs.YteomfleofeeofaaGreatDoor
set_option maxRecDepth 100000
set_option linter.unusedSimpArgs false
set_option linter.unusedVariables false
section
def pF:Nat:=57896044618658097711785492504343953926634992332820282019728792003956564819949
def mF:Nat:=115792089237316195423570985008687907853269984665640564039457584007913129639936
theorem mF_pF:mF=2*pF+38:=by decide
theorem qc0:0<pF:=by decide
theorem nset_getD (l:List Nat) (j i x:Nat) (hj:j<l.length):(l.set j x).getD i 0=if i=j then x else l.getD i 0:=by
 rw [List.getD_eq_getElem?_getD,List.getElem?_set]
 by_cases h:j=i
 ·subst h;simp [hj]
 ·rw [if_neg h,if_neg (fun e=>h e.symm),← List.getD_eq_getElem?_getD]
theorem qeV (f:Nat→Nat) (n i:Nat) (h:i<n):((List.range n).map f).getD i 0=f i:=by simp [List.getD_eq_getElem?_getD,h]
theorem qcr {l m:List Nat} {n:Nat} (hl:l.length=n) (hm:m.length=n) (h:∀ i,i<n→l.getD i 0=m.getD i 0):l=m:=by
 apply List.ext_getElem (by omega)
 intro i h1 h2
 have:=h i (by omega)
 simpa [List.getD_eq_getElem?_getD,h1,h2] using this
theorem fold_mod (T:Nat):(T%mF+38*(T / mF))%pF=T%pF:=by
 have h:=Nat.mod_add_div T mF
 have e:T=T%mF+38*(T / mF)+pF*(2*(T / mF)):=by
  have h2:mF*(T / mF)=pF*(2*(T / mF))+38*(T / mF):=by
   rw [← Nat.mul_assoc,Nat.mul_comm pF 2,← Nat.add_mul,← mF_pF]
  omega
 conv=>rhs;rw [e]
 rw [Nat.add_mul_mod_self_left]
end
section
def pwF (a n:Nat) (m:Nat):Nat:=a^(n / 2^(256-m))%pF
theorem pwF_zero (a n:Nat) (h:n<2^256):pwF a n 0=1:=by
 rw [pwF,Nat.sub_zero,Nat.div_eq_of_lt h,Nat.pow_zero];rfl
theorem pwF_last (a n:Nat):pwF a n 256=a^n%pF:=by rw [pwF,Nat.sub_self,Nat.pow_zero,Nat.div_one]
theorem pwF_step (a n m:Nat) (h:m<256):pwF a n (m+1)=if n.testBit (255-m) then (pwF a n m*pwF a n m%pF)*a%pF else pwF a n m*pwF a n m%pF:=by
 have e:n / 2^(256-(m+1))=2*(n / 2^(256-m))+n / 2^(255-m)%2:=by
  rw [show 256-(m+1)=255-m by omega,show 256-m=255-m+1 by omega,Nat.pow_succ,← Nat.div_div_eq_div_mul]
  omega
 rw [pwF,e,pwF,Nat.testBit_eq_decide_div_mod_eq];generalize n / 2^(256-m)=q
 have h2:n / 2^(255-m)%2=0∨n / 2^(255-m)%2=1:=by omega
 rcases h2 with h2 | h2
 ·rw [h2,Nat.add_zero,if_neg (by simp),← Nat.mul_mod,← Nat.pow_add,show q+q=2*q by omega]
 ·rw [h2,if_pos (by simp),Nat.pow_succ,← Nat.mul_mod,← Nat.pow_add,show q+q=2*q by omega,Nat.mod_mul_mod]
def leF (x n:Nat):List UInt8:=(List.range n).map fun i=>UInt8.ofNat (x / 256^i)
theorem qbf (x n:Nat):(leF x n).length=n:=by simp [leF]
theorem leF_get (x n i:Nat) (h:i<n):(leF x n).getD i 0=UInt8.ofNat (x / 256^i):=by simp [leF,List.getD_eq_getElem?_getD,h]
def leV (l:List UInt8):Nat→Nat
 | 0=>0
 | n+1=>leV l n+(l.getD n 0).toNat*256^n
theorem leV_lt (l:List UInt8):∀ n,leV l n<256^n
 | 0=>by simp [leV]
 | n+1=>by
  have h1:=leV_lt l n
  have h2:(l.getD n 0).toNat*256^n≤255*256^n:=Nat.mul_le_mul_right _ (by have:=UInt8.toNat_lt (l.getD n 0);omega)
  rw [leV,Nat.pow_succ]
  omega
end
section
def addF (a b:Nat):Nat:=(a+b)%pF
def subF (a b:Nat):Nat:=(a+(pF-b))%pF
def mulF (a b:Nat):Nat:=a*b%pF
def powF (a n:Nat):Nat:=a^n%pF
def invF (a:Nat):Nat:=powF a (pF-2)
theorem qco (a b:Nat):addF a b<pF:=Nat.mod_lt _ qc0
theorem qbp (a b:Nat):subF a b<pF:=Nat.mod_lt _ qc0
theorem qba (a b:Nat):mulF a b<pF:=Nat.mod_lt _ qc0
theorem qaY (a n:Nat):powF a n<pF:=Nat.mod_lt _ qc0
theorem addF_comm (a b:Nat):addF a b=addF b a:=by rw [addF,addF,Nat.add_comm]
theorem mulF_comm (a b:Nat):mulF a b=mulF b a:=by rw [mulF,mulF,Nat.mul_comm]
theorem sub_self (a:Nat) (ha:a<pF):subF a a=0:=by rw [subF,show a+(pF-a)=pF by omega,Nat.mod_self]
def pwC (a n:Nat):Nat→Nat
 | 0=>1
 | m+1=>if n.testBit (255-m) then (pwC a n m*pwC a n m%pF)*a%pF else pwC a n m*pwC a n m%pF
def pwQ (a n:Nat):Nat→Nat
 | 0=>1
 | m+1=>(fun x=>if n.testBit (255-m) then (x*x%pF)*a%pF else x*x%pF) (pwQ a n m)
theorem pwQ_eq (a n:Nat):∀ m,pwQ a n m=pwC a n m
 | 0=>rfl
 | m+1=>by rw [pwC,← pwQ_eq a n m];rfl
theorem pwC_eq (a n:Nat) (h:n<2^256):∀ m,m≤256→pwC a n m=pwF a n m
 | 0,_=>by rw [pwF_zero a n h];rfl
 | m+1,hm=>by rw [pwC,pwF_step a n m (by omega),pwC_eq a n h m (by omega)]
theorem powF_reckoned (a n:Nat) (h:n<2^256):powF a n=pwQ a n 256:=by
 rw [pwQ_eq,pwC_eq a n h 256 (Nat.le_refl _),pwF_last];rfl
def qbl (a:Nat):Nat:=powF a ((pF+3) / 8)
def qbi (a:Nat):Nat:=if mulF (qbl a) (qbl a)=a then qbl a else mulF (qbl a) (powF 2 ((pF-1) / 4))
def qbv (a:Nat):Nat×Bool:=if mulF (qbi a) (qbi a)=a then (if qbi a%2=1 then subF 0 (qbi a) else qbi a,true) else (0,false)
theorem rootY_lt (a:Nat):qbi a<pF:=by
 unfold qbi
 split
 ·exact qaY _ _
 ·exact qba _ _
theorem rootF_lt (a:Nat):(qbv a).1<pF:=by
 unfold qbv
 split
 ·show (if qbi a%2=1 then subF 0 (qbi a) else qbi a)<pF
  split
  ·exact qbp _ _
  ·exact rootY_lt a
 ·exact qc0
def smallF (n:Int):Nat:=(n%(pF:Int)).toNat
end
section
def bw (k:Nat):Nat:=18446744073709551616^k
theorem qcL (k:Nat):0<bw k:=Nat.pow_pos (by decide)
theorem bw_succ (k:Nat):bw (k+1)=bw k*18446744073709551616:=Nat.pow_succ ..
theorem bw_add (i j:Nat):bw (i+j)=bw i*bw j:=Nat.pow_add ..
def dg (x k:Nat):Nat:=x / bw k%18446744073709551616
theorem dg_lt (x k:Nat):dg x k<18446744073709551616:=Nat.mod_lt _ (by decide)
def mixN (N x z k:Nat):List Nat:=(List.range N).map fun j=>if j<k then dg z j else dg x j
def limN (N x:Nat):List Nat:=(List.range N).map fun j=>dg x j
theorem qbc (N x z k:Nat):(mixN N x z k).length=N:=by simp [mixN]
theorem qad (N x:Nat):(limN N x).length=N:=by simp [limN]
theorem qa0 (N x j:Nat) (h:j<N):(limN N x).getD j 0=dg x j:=qeV _ _ _ h
theorem qcs (N x z k j:Nat) (h:j<N) (hk:k≤j):(mixN N x z k).getD j 0=dg x j:=by rw [mixN,qeV _ _ _ h,if_neg (by omega)]
theorem qdM (N x z k j:Nat) (h:j<N) (hk:j<k):(mixN N x z k).getD j 0=dg z j:=by rw [mixN,qeV _ _ _ h,if_pos hk]
theorem qbI (N x z:Nat):mixN N x z 0=limN N x:=by simp [mixN,limN]
theorem qeM (N x z k:Nat) (h:N≤k):mixN N x z k=limN N z:=qcr (qbc ..) (qad ..) fun i hi=>by rw [qdM _ _ _ _ _ hi (by omega),qa0 _ _ _ hi]
theorem qdN (N x z k:Nat) (h:k<N):(mixN N x z k).set k (dg z k)=mixN N x z (k+1):=qcr (by rw [List.length_set,qbc]) (qbc ..) fun i hi=>by
 rw [nset_getD _ _ _ _ (by rw [qbc];exact h)]
 by_cases e:i=k
 ·rw [if_pos e,e,qdM _ _ _ _ _ h (by omega)]
 ·rw [if_neg e]
  by_cases hlt:i<k
  ·rw [qdM _ _ _ _ _ hi hlt,qdM _ _ _ _ _ hi (by omega)]
  ·rw [qcs _ _ _ _ _ hi (by omega),qcs _ _ _ _ _ hi (by omega)]
theorem mixN_same (N x z k:Nat) (h:∀ j,j<k→dg z j=dg x j):mixN N x z k=limN N x:=qcr (qbc ..) (qad ..) fun i hi=>by
 rw [qa0 _ _ _ hi]
 by_cases hlt:i<k
 ·rw [qdM _ _ _ _ _ hi hlt,h i hlt]
 ·rw [qcs _ _ _ _ _ hi (by omega)]
theorem mixN_rest (N x z k:Nat) (h:∀ j,k≤j→j<N→dg x j=dg z j):mixN N x z k=limN N z:=qcr (qbc ..) (qad ..) fun i hi=>by
 rw [qa0 _ _ _ hi]
 by_cases hlt:i<k
 ·rw [qdM _ _ _ _ _ hi hlt]
 ·rw [qcs _ _ _ _ _ hi (by omega),h i (by omega) hi]
theorem qel (x k:Nat):x%bw (k+1)=x%bw k+bw k*dg x k:=by rw [bw_succ,Nat.mod_mul];rfl
theorem dg_small (x k:Nat) (h:x<bw k):dg x k=0:=by rw [dg,Nat.div_eq_of_lt h]
theorem bw_le (i j:Nat) (h:i≤j):bw i≤bw j:=Nat.pow_le_pow_right (by decide) h
theorem qcM (x k j:Nat) (h:x<bw k) (hj:k≤j):dg x j=0:=dg_small _ _ (Nat.lt_of_lt_of_le h (bw_le _ _ hj))
theorem qeN (x y k:Nat) (h:x%bw (k+1)=y%bw (k+1)):dg x k=dg y k:=by
 have e:∀ x,dg x k=x%bw (k+1) / bw k:=fun x=>by rw [bw_succ,Nat.mod_mul_right_div_self];rfl
 rw [e,e,h]
theorem dg_mod (x k n:Nat) (h:k<n):dg (x%bw n) k=dg x k:=qeN _ _ _ (Nat.mod_mod_of_dvd _ (Nat.pow_dvd_pow _ h))
theorem sum_step (S S' d k:Nat) (z:Nat) (h:S'=S+bw k*d) (hz:z%bw (k+1)=S'%bw (k+1)):(S / bw k+d)%18446744073709551616=dg z k∧(S / bw k+d) / 18446744073709551616=S' / bw (k+1):=by
 have e:S' / bw k=S / bw k+d:=by rw [h,Nat.add_mul_div_left _ _ (qcL k)]
 constructor
 ·rw [qeN z S' k hz,dg,e]
 ·rw [bw_succ,← Nat.div_div_eq_div_mul,e]
def cyN (x y v k:Nat):Nat:=(x%bw k+y%bw k*v) / bw k
theorem cyN_zero (x y v:Nat):cyN x y v 0=0:=by simp [cyN,bw,Nat.mod_one]
theorem cyN_step (x y v k:Nat):(cyN x y v k+(dg x k+dg y k*v))%18446744073709551616=dg (x+y*v) k∧(cyN x y v k+(dg x k+dg y k*v)) / 18446744073709551616=cyN x y v (k+1):=by
 refine sum_step (x%bw k+y%bw k*v) (x%bw (k+1)+y%bw (k+1)*v) _ k (x+y*v) ?_ ?_
 ·rw [qel,qel,Nat.add_mul,Nat.mul_add,Nat.mul_assoc];omega
 ·rw [Nat.mod_add_mod,Nat.add_mod x (y*v),Nat.add_mod x (y%bw (k+1)*v),Nat.mod_mul_mod]
theorem cyN_lt (x y v k:Nat) (hv:v≤18446744073709551615):cyN x y v k<18446744073709551616:=by
 rw [cyN]
 apply Nat.div_lt_of_lt_mul
 have h1:=Nat.mod_lt x (qcL k);have h2:=Nat.mod_lt y (qcL k);have h3:y%bw k*v≤y%bw k*18446744073709551615:=Nat.mul_le_mul_left _ hv;rw [Nat.mul_comm (bw k)]
 omega
theorem cyN_one (x y k:Nat):cyN x y 1 k≤1:=by
 rw [cyN,Nat.mul_one];have h1:=Nat.mod_lt x (qcL k);have h2:=Nat.mod_lt y (qcL k)
 have:(x%bw k+y%bw k) / bw k<2:=Nat.div_lt_of_lt_mul (by omega)
 omega
theorem cyN_last (x y v k:Nat) (hx:x<bw k) (hy:y<bw k):cyN x y v k=(x+y*v) / bw k:=by rw [cyN,Nat.mod_eq_of_lt hx,Nat.mod_eq_of_lt hy]
theorem add_step (x y k:Nat):(dg x k+dg y k+cyN x y 1 k)%18446744073709551616=dg (x+y) k∧(dg x k+dg y k+cyN x y 1 k) / 18446744073709551616=cyN x y 1 (k+1):=by
 have h:=cyN_step x y 1 k;rw [Nat.mul_one,Nat.mul_one,Nat.add_comm (cyN x y 1 k)] at h;exact h
theorem sub_step (x y k:Nat) (h:y≤x):(dg x k+18446744073709551616-dg y k-cyN (x-y) y 1 k)%18446744073709551616=dg (x-y) k∧(if dg x k<dg y k+cyN (x-y) y 1 k then 1 else 0)=cyN (x-y) y 1 (k+1):=by
 obtain ⟨h1,h2⟩:=add_step (x-y) y k;rw [Nat.sub_add_cancel h] at h1;have h3:=dg_lt (x-y) k;have h4:=dg_lt y k;have h5:=cyN_one (x-y) y k;have h6:=cyN_one (x-y) y (k+1);generalize cyN (x-y) y 1 (k+1)=c' at *;generalize cyN (x-y) y 1 k=c at *;generalize dg (x-y) k=z at *;generalize dg y k=b at *;generalize dg x k=a at *
 constructor
 ·omega
 ·split <;> omega
def cwN (x v k:Nat):Nat:=(x%bw k+v) / bw k
theorem cwN_zero (x v:Nat):cwN x v 0=v:=by simp [cwN,bw,Nat.mod_one]
theorem cwN_step (x v k:Nat):(dg x k+cwN x v k)%18446744073709551616=dg (x+v) k∧(dg x k+cwN x v k) / 18446744073709551616=cwN x v (k+1):=by
 rw [Nat.add_comm (dg x k)]
 refine sum_step (x%bw k+v) (x%bw (k+1)+v) _ k (x+v) ?_ ?_
 ·rw [qel];omega
 ·rw [Nat.mod_add_mod]
def rowW (x y i:Nat):Nat:=x*(y%bw i)
theorem rowW_zero (x y:Nat):rowW x y 0=0:=by simp [rowW,bw,Nat.mod_one]
theorem rowW_next (x y i:Nat):rowW x y (i+1)=rowW x y i+bw i*(x*dg y i):=by
 rw [rowW,rowW,qel,Nat.mul_add,Nat.mul_left_comm]
theorem rowW_lt (x y i:Nat) (hx:x<bw 4):rowW x y i<bw (4+i):=by
 rw [rowW,bw_add];have h1:=Nat.mod_lt y (qcL i);exact Nat.lt_of_le_of_lt (Nat.mul_le_mul_left x (Nat.le_of_lt h1)) (Nat.mul_lt_mul_of_pos_right hx (qcL i))
theorem rowW_last (x y:Nat) (hy:y<bw 4):rowW x y 4=x*y:=by rw [rowW,Nat.mod_eq_of_lt hy]
theorem dg_shift (W i j:Nat):dg W (i+j)=dg (W / bw i) j:=by rw [dg,dg,bw_add,← Nat.div_div_eq_div_mul]
theorem dg_low_same (W D i j:Nat) (h:j<i):dg (W+bw i*D) j=dg W j:=qeN _ _ _ (by
 have e:bw i=bw (j+1)*bw (i-(j+1)):=by rw [← bw_add,show j+1+(i-(j+1))=i by omega]
 rw [e,Nat.mul_assoc,Nat.add_mul_mod_self_left])
def cyR (x y i j:Nat):Nat:=cyN (rowW x y i / bw i) x (dg y i) j
theorem row_step (x y i j:Nat):(dg (rowW x y i) (i+j)+cyR x y i j+dg x j*dg y i)%18446744073709551616=dg (rowW x y (i+1)) (i+j)∧(dg (rowW x y i) (i+j)+cyR x y i j+dg x j*dg y i) / 18446744073709551616=cyR x y i (j+1):=by
 have h:=cyN_step (rowW x y i / bw i) x (dg y i) j
 have e:rowW x y i / bw i+x*dg y i=rowW x y (i+1) / bw i:=by rw [rowW_next,Nat.add_mul_div_left _ _ (qcL i)]
 rw [e,← dg_shift,← dg_shift] at h
 rw [show dg (rowW x y i) (i+j)+cyR x y i j+dg x j*dg y i=cyN (rowW x y i / bw i) x (dg y i) j+(dg (rowW x y i) (i+j)+dg x j*dg y i) by rw [cyR];omega]
 exact h
theorem row_last (x y i:Nat) (hx:x<bw 4):cyR x y i 4=dg (rowW x y (i+1)) (i+4):=by
 have h1:=rowW_lt x y i hx;have h2:=rowW_lt x y (i+1) hx;rw [bw_add,Nat.mul_comm] at h1;rw [cyR,cyN_last _ _ _ _ (Nat.div_lt_of_lt_mul h1) hx]
 have e:rowW x y i / bw i+x*dg y i=rowW x y (i+1) / bw i:=by rw [rowW_next,Nat.add_mul_div_left _ _ (qcL i)]
 rw [e,Nat.div_div_eq_div_mul,← bw_add,dg,Nat.mod_eq_of_lt]
 refine Nat.div_lt_of_lt_mul ?_
 rw [← bw_succ,show i+4+1=4+(i+1) by omega]
 exact h2
theorem row_begin (N x y i:Nat):mixN N (rowW x y i) (rowW x y (i+1)) i=limN N (rowW x y i):=mixN_same _ _ _ _ fun j hj=>by rw [rowW_next,dg_low_same _ _ _ _ hj]
theorem row_end (N x y i:Nat) (hx:x<bw 4):mixN N (rowW x y i) (rowW x y (i+1)) (i+5)=limN N (rowW x y (i+1)):=mixN_rest _ _ _ _ fun j h1 h2=>by
 rw [qcM _ (4+i) _ (rowW_lt x y i hx) (by omega),qcM _ (4+(i+1)) _ (rowW_lt x y (i+1) hx) (by omega)]
def hF:Nat:=57896044618658097711785492504343953926634992332820282019728792003956564819968
theorem bw3:bw 3=6277101735386680763835789423207666416102355444464034512896:=by decide
theorem qd5:bw 4=mF:=by decide
theorem top_bit (x:Nat) (h:x<mF):dg x 3 / 9223372036854775808=x / hF:=by
 rw [dg,bw3,hF];rw [mF] at h
 omega
theorem top_cut (x:Nat) (h:x<mF):(limN 4 x).set 3 (dg x 3%9223372036854775808)=limN 4 (x%hF):=by
 have e3:dg (x%hF) 3=dg x 3%9223372036854775808:=by
  rw [dg,dg,bw3,hF];rw [mF] at h;omega
 refine qcr (by rw [List.length_set,qad]) (qad ..) fun i hi=>?_
 rw [nset_getD _ _ _ _ (by rw [qad];decide),qa0 _ _ _ hi,qa0 _ _ _ hi]
 by_cases e:i=3
 ·rw [if_pos e,e,e3]
 ·rw [if_neg e]
  refine (qeN _ _ _ ?_).symm
  have hd:hF=bw (i+1)*(hF / bw (i+1)):=by
   rcases (show i=0∨i=1∨i=2 by omega) with rfl | rfl | rfl <;> decide
  exact Nat.mod_mod_of_dvd _ ⟨_,hd⟩
def redT (x:Nat):Nat:=x%hF
def redN (x o:Nat):Nat:=2*o+x / hF
def redM (x o:Nat):Nat:=redN x o+(redT x+19*(redN x o+1)) / hF
theorem red_fits (x o:Nat) (hx:x<mF) (ho:o≤38):redN x o≤77∧redM x o≤78∧redT x+19*(redN x o+1)<mF∧redT x+19*redM x o<mF:=by
 have h1:redN x o≤77:=by rw [redN,hF];rw [mF] at hx;omega
 have h2:redT x<hF:=Nat.mod_lt _ (by decide)
 rw [hF] at h2
 have h3:redM x o≤78:=by rw [redM,hF];omega
 exact ⟨h1,h3,by rw [mF];omega,by rw [mF];omega⟩
theorem red_done (x o:Nat) (hx:x<mF) (ho:o≤38):(redT x+19*redM x o)%hF=(x+o*mF)%pF:=by
 have em:mF=115792089237316195423570985008687907853269984665640564039457584007913129639936:=rfl;have ep:pF=57896044618658097711785492504343953926634992332820282019728792003956564819949:=rfl;have eh:hF=57896044618658097711785492504343953926634992332820282019728792003956564819968:=rfl;have h1:=(red_fits x o hx ho).1
 have h2:redT x<hF:=Nat.mod_lt _ (by decide)
 have h3:x+o*mF=pF*redN x o+(redT x+19*redN x o):=by
  rw [redT,redN,em,ep,eh]
  omega
 rw [h3,Nat.mul_add_mod];have h4:redM x o=redN x o+(redT x+19*(redN x o+1)) / hF:=rfl;generalize redM x o=m at *;generalize redN x o=n at *;generalize redT x=t at *;clear h3 hx;rw [eh] at *;rw [ep];obtain ⟨s,hs⟩:∃ s,s=t+19*n:=⟨_,rfl⟩
 rw [show t+19*(n+1)=s+19 by omega] at h4
 rw [← hs]
 rcases (show (s+19) / 57896044618658097711785492504343953926634992332820282019728792003956564819968=0∨(s+19) / 57896044618658097711785492504343953926634992332820282019728792003956564819968=1 by omega) with h5 | h5
 ·rw [h5,Nat.add_zero] at h4
  rw [h4,← hs];clear h4 hs
  rw [Nat.mod_eq_of_lt (by omega),Nat.mod_eq_of_lt (by omega)]
 ·rw [h5] at h4
  rw [show t+19*m=s+19 by omega]
  clear h4
  omega
theorem mul_parts (x y:Nat):(x*y%mF+38*(x*y / mF))%pF=mulF x y:=fold_mod (x*y)
theorem limN_mod (x:Nat):limN 4 (x%mF)=limN 4 x:=qcr (qad ..) (qad ..) fun i hi=>by rw [qa0 _ _ _ hi,qa0 _ _ _ hi,← qd5,dg_mod _ _ _ hi]
theorem limN_halves (x:Nat):limN 8 x=limN 4 (x%mF)++limN 4 (x / mF):=by
 rw [limN_mod]
 refine qcr (n:=8) (qad ..) (by simp [qad]) fun i hi=>?_
 rw [qa0 _ _ _ hi]
 by_cases h:i<4
 ·rw [List.getD_eq_getElem?_getD,List.getElem?_append_left (by rw [qad];exact h),← List.getD_eq_getElem?_getD,qa0 _ _ _ h]
 ·rw [List.getD_eq_getElem?_getD,List.getElem?_append_right (by rw [qad];omega),← List.getD_eq_getElem?_getD,qad,qa0 _ _ _ (by omega),← qd5,← dg_shift,show 4+(i-4)=i by omega]
theorem limN_inj (x y:Nat) (hx:x<mF) (hy:y<mF) (h:limN 4 x=limN 4 y):x=y:=by
 have hk:∀ k,k≤4→x%bw k=y%bw k:=by
  intro k
  induction k with
  | zero=>intro _;simp [bw,Nat.mod_one]
  | succ k ih=>
   intro hk
   rw [qel,qel,ih (by omega)]
   have:=congrArg (fun l=>l.getD k 0) h
   simp only [qa0 4 _ k (by omega)] at this
   rw [this]
 have:=hk 4 (Nat.le_refl _)
 rw [qd5,Nat.mod_eq_of_lt hx,Nat.mod_eq_of_lt hy] at this;exact this
theorem dg_odd (x:Nat):dg x 0%2=x%2:=by rw [dg,show bw 0=1 from rfl,Nat.div_one];omega
end
end Go.Proofs.YteomfleofeeofaaGreatDoor
