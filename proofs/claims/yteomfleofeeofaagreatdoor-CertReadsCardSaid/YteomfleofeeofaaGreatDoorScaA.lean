/- Numbers modulo the order L on digits of sixteen bits. -/
import Derived.Test.YteomfleofeeofaaGreatDoorByteN
namespace Go.Proofs.YteomfleofeeofaaGreatDoor
set_option maxRecDepth 100000
set_option linter.unusedSimpArgs false
set_option linter.unusedVariables false
section
def lF:Nat:=7237005577332262213973186563042994240857116359379907606001950938285454250989
theorem lF_pos:0<lF:=by decide
theorem lF_lt:lF<mF:=by decide
theorem lF_digits:digN lF=[54253,23797,25370,22546,40150,41719,63966,5342,0,0,0,0,0,0,0,4096]:=by decide +kernel
theorem dS_less(a b:List Nat)(i n:Nat)(hi:i<n)(h:a.getD i 0<b.getD i 0)(ha:∀ j,j<n→a.getD j 0<65536)(z0:∀ j,i<j→j<n→a.getD j 0=b.getD j 0):dS a n<dS b n:=by
 induction n with
 | zero=>omega
 | succ n ih=>
  rw[qdh,qdh];by_cases e:i=n
  ·subst e;have h1:=dS_lt a i (fun j hj=>ha j (by omega));have h2:(a.getD i 0+1)*65536^i≤b.getD i 0*65536^i:=Nat.mul_le_mul_right _ h;rw[Nat.add_mul,Nat.one_mul]at h2;omega
  ·have:=ih (by omega) (fun j hj=>ha j (by omega)) (fun j h1 h2=>z0 j h1 (by omega));rw[z0 n (by omega) (by omega)];omega
theorem digN_less(x y i:Nat)(hi:i<16)(hx:x<mF)(hy:y<mF)(z0:∀ j,i<j→j<16→(digN x).getD j 0=(digN y).getD j 0)(hne:(digN x).getD i 0≠(digN y).getD i 0):((digN x).getD i 0<(digN y).getD i 0)↔x<y:=by
 constructor
 ·intro h;have:=dS_less (digN x) (digN y) i 16 hi h (fun j hj=>qa2 x j hj) z0;rwa[qbY x hx,qbY y hy]at this
 ·intro h;rcases Nat.lt_or_ge ((digN x).getD i 0) ((digN y).getD i 0)with h1|h1
  ·exact h1
  ·exfalso;have:=dS_less (digN y) (digN x) i 16 hi (by omega) (fun j hj=>qa2 y j hj) (fun j h2 h3=>(z0 j h2 h3).symm);rw[qbY x hx,qbY y hy]at this;omega
theorem digN_same(x y:Nat)(hx:x<mF)(hy:y<mF)(h:∀ j,j<16→(digN x).getD j 0=(digN y).getD j 0):x=y:=by
 have:=qfR (digN x) (digN y) 16 h;rwa[qbY x hx,qbY y hy]at this
def cy2(x b i:Nat):Nat:=(2*(x%65536^i)+b)/65536^i
theorem cy2_zero(x b:Nat):cy2 x b 0=b:=by simp[cy2,Nat.mod_one]
theorem cy2_step(x b i:Nat)(hb:b<2):(cy2 x b i+2*(x/65536^i%65536))%65536=(2*x+b)/65536^i%65536∧(cy2 x b i+2*(x/65536^i%65536))/65536=cy2 x b (i+1):=by
 have hp:0<65536^i:=Nat.pow_pos (by decide);have hS:(2*(x%65536^(i+1))+b)/65536^i=cy2 x b i+2*(x/65536^i%65536):=by
  rw[cy2,Nat.pow_succ,Nat.mod_mul];rw[show 2*(x%65536^i+65536^i*(x/65536^i%65536))+b=2*(x%65536^i)+b+65536^i*(2*(x/65536^i%65536)) by rw[Nat.mul_add,Nat.mul_left_comm 2];omega];rw[Nat.add_mul_div_left _ _ hp]
 have hm:(2*(x%65536^(i+1))+b)%65536^(i+1)=(2*x+b)%65536^(i+1):=by
  rw[Nat.add_mod,Nat.mul_mod,Nat.mod_mod,← Nat.mul_mod,← Nat.add_mod]
 constructor
 ·rw[← hS,← Nat.mod_mul_right_div_self,← Nat.pow_succ,hm,Nat.pow_succ,Nat.mod_mul_right_div_self]
 ·rw[← hS,Nat.div_div_eq_div_mul,← Nat.pow_succ];rfl
def brF(x y i:Nat):Nat:=if x%65536^i<y%65536^i then 1 else 0
theorem brF_zero(x y:Nat):brF x y 0=0:=by simp[brF,Nat.mod_one]
theorem brF_step(x y i:Nat)(h:y≤x):(((x/65536^i%65536:Nat):Int)-((y/65536^i%65536:Nat):Int)-((brF x y i:Nat):Int))%65536=(((x-y)/65536^i%65536:Nat):Int)∧(((x/65536^i%65536:Nat):Int)-((y/65536^i%65536:Nat):Int)-((brF x y i:Nat):Int))/65536 = -((brF x y (i+1):Nat):Int):=by
 obtain⟨P,hP⟩:∃ P,P=65536^i:=⟨_,rfl⟩;have hp:0<P:=by rw[hP];exact Nat.pow_pos (by decide)
 rw[brF,brF,Nat.pow_succ,Nat.mod_mul,Nat.mod_mul,← hP];have hx:=Nat.mod_add_div x P;have hy:=Nat.mod_add_div y P;have hx1:=Nat.mod_lt x hp;have hy1:=Nat.mod_lt y hp
 -- the quotient of the difference
 have hq:(x-y)/P=x/P-y/P-(if x%P<y%P then 1 else 0):=by
  have z1:y/P≤x/P:=Nat.div_le_div_right h;by_cases hc:x%P<y%P
  ·rw[if_pos hc];have hlt:y/P<x/P:=by
    rcases Nat.lt_or_ge (y/P) (x/P)with h1|h1
    ·exact h1
    ·exfalso;have:x/P=y/P:=by omega
     rw[this]at hx;omega
   have:x-y=P*(x/P-y/P-1)+(P+x%P-y%P):=by
    obtain⟨k,hk⟩:∃ k,x/P=y/P+k+1:=⟨x/P-y/P-1,by omega⟩;rw[hk]at hx ⊢;rw[show y/P+k+1-y/P-1=k by omega];rw[Nat.mul_add,Nat.mul_add,Nat.mul_one]at hx;omega
   rw[this,Nat.mul_add_div hp,Nat.div_eq_of_lt (show P+x%P-y%P<P by omega),Nat.add_zero]
  ·rw[if_neg hc,Nat.sub_zero];have:x-y=P*(x/P-y/P)+(x%P-y%P):=by
    obtain⟨k,hk⟩:∃ k,x/P=y/P+k:=⟨x/P-y/P,by omega⟩;rw[hk]at hx ⊢;rw[show y/P+k-y/P=k by omega];rw[Nat.mul_add]at hx;omega
   rw[this,Nat.mul_add_div hp,Nat.div_eq_of_lt (show x%P-y%P<P by omega),Nat.add_zero]
 have z1:y/P+(if x%P<y%P then 1 else 0)≤x/P:=by
  by_cases hc:x%P<y%P
  ·rw[if_pos hc];rcases Nat.lt_or_ge (y/P) (x/P)with h1|h1
   ·omega
   ·exfalso;have h2:x/P=y/P:=Nat.le_antisymm h1 (Nat.div_le_div_right h);rw[h2]at hx;omega
  ·rw[if_neg hc];exact Nat.div_le_div_right h
 have z0:(x%P+P*(x/P%65536)<y%P+P*(y/P%65536))↔(x/P%65536<y/P%65536+(if x%P<y%P then 1 else 0)):=by
  by_cases hc:x%P<y%P
  ·rw[if_pos hc];constructor
   ·intro h1;rcases Nat.lt_or_ge (x/P%65536) (y/P%65536+1)with h2|h2
    ·exact h2
    ·exfalso;have:P*(y/P%65536+1)≤P*(x/P%65536):=Nat.mul_le_mul_left _ h2;rw[Nat.mul_add,Nat.mul_one]at this;omega
   ·intro h1;have:P*(x/P%65536)≤P*(y/P%65536):=Nat.mul_le_mul_left _ (by omega);omega
  ·rw[if_neg hc];constructor
   ·intro h1;rcases Nat.lt_or_ge (x/P%65536) (y/P%65536)with h2|h2
    ·omega
    ·exfalso;have:P*(y/P%65536)≤P*(x/P%65536):=Nat.mul_le_mul_left _ h2;omega
   ·intro h1;have:P*(x/P%65536+1)≤P*(y/P%65536):=Nat.mul_le_mul_left _ (by omega);rw[Nat.mul_add,Nat.mul_one]at this;omega
 rw[hq];simp only[z0];clear z0 hq hx hy;by_cases hc:x%P<y%P
 ·simp only[if_pos hc]at *;split<;>constructor<;>omega
 ·simp only[if_neg hc]at *;split<;>constructor<;>omega
theorem twice_mod(x b:Nat)(hx:x<lF)(hb:b<2):(2*x+b)%lF=if 2*x+b<lF then 2*x+b else 2*x+b-lF:=by
 split
 ·rename_i h;exact Nat.mod_eq_of_lt h
 ·rename_i h;rw[Nat.mod_eq_sub_mod (by omega),Nat.mod_eq_of_lt (by omega)]
theorem rest_step(n m:Nat):(2*(n/2^(m+1)%lF)+n/2^m%2)%lF=n/2^m%lF:=by
 have h:n/2^m=2*(n/2^(m+1))+n/2^m%2:=by
  rw[Nat.pow_succ,← Nat.div_div_eq_div_mul];omega
 conv=>rhs;rw[h]
 rw[Nat.add_mod,Nat.mul_mod_mod,← Nat.add_mod]
theorem dS_bit(v:List Nat)(n i k:Nat)(h:∀ j,j<n→v.getD j 0<65536)(hi:i<n)(hk:k<16):v.getD i 0/2^k%2=dS v n/2^(16*i+k)%2:=by
 rw[← dS_digit v n i h hi,Nat.pow_add,Nat.pow_mul,← Nat.div_div_eq_div_mul];show dS v n/65536^i%65536/2^k%2=dS v n/65536^i/2^k%2;generalize dS v n/65536^i=q;have hb:=Nat.testBit_mod_two_pow q 16 k;rw[Nat.testBit_eq_decide_div_mod_eq,Nat.testBit_eq_decide_div_mod_eq,decide_eq_true hk,Bool.true_and]at hb;have z0:=decide_eq_decide.1 hb;rw[show (2:Nat)^16=65536 from rfl]at z0;omega
def vI:List Int→Int
 | []=>0
 | x :: l=>x+68719476736*vI l
def limI:Nat→Int→List Int
 | 0,X=>[X]
 | n+1,X=>X%68719476736 :: limI n (X/68719476736)
theorem qbq:∀ n X,(limI n X).length=n+1
 | 0,_=>rfl
 | n+1,X=>by rw[limI,List.length_cons,qbq n]
theorem limI_val:∀ n X,vI (limI n X)=X
 | 0,X=>by simp[limI,vI]
 | n+1,X=>by rw[limI,vI,limI_val n];omega
theorem limI_low:∀ n X i,i<n→0≤(limI n X).getD i 0∧(limI n X).getD i 0<68719476736
 | n+1,X,0,_=>by
  show 0≤X%68719476736∧X%68719476736<68719476736;omega
 | n+1,X,i+1,h=>by
  show 0≤(limI n (X/68719476736)).getD i 0∧(limI n (X/68719476736)).getD i 0<68719476736;exact limI_low n _ i (by omega)
theorem limI_get:∀ n X i,i<n→(limI n X).getD i 0=X/68719476736^i%68719476736
 | n+1,X,0,_=>by
  show X%68719476736=X/68719476736^0%68719476736;rw[Int.pow_zero,Int.ediv_one]
 | n+1,X,i+1,h=>by
  show (limI n (X/68719476736)).getD i 0=_;rw[limI_get n _ i (by omega),Int.ediv_ediv_of_nonneg (by decide),Int.pow_succ,Int.mul_comm (68719476736^i)]
theorem limI_top:∀ n X,(limI n X).getD n 0=X/68719476736^n
 | 0,X=>by
  show X=X/68719476736^0;rw[Int.pow_zero,Int.ediv_one]
 | n+1,X=>by
  show (limI n (X/68719476736)).getD n 0=_;rw[limI_top n,Int.ediv_ediv_of_nonneg (by decide),Int.pow_succ,Int.mul_comm (68719476736^n)]
theorem limI_end(X:Int):(limI 7 X).getD 7 0=X/7237005577332262213973186563042994240829374041602535252466099000494570602496:=by rw[limI_top];rfl
def carI:Nat→List Int→List Int
 | 0,l=>l
 | _+1,[]=>[]
 | _+1,[x]=>[x]
 | k+1,x :: y :: l=>x%68719476736 :: carI k ((y+x/68719476736)::l)
theorem carI_length:∀ k l,(carI k l).length=l.length
 | 0,_=>rfl
 | _+1,[]=>rfl
 | _+1,[_]=>rfl
 | k+1,x :: y :: l=>by rw[carI,List.length_cons,carI_length k];rfl
theorem carI_full:∀ n l,l.length=n+1→carI n l=limI n (vI l)
 | 0,[x],_=>by simp[carI,limI,vI]
 | n+1,x :: y :: l,h=>by
  rw[carI,limI,carI_full n _ (by simpa using h),vI,vI,vI];congr 1
  ·omega
  ·congr 1;omega
theorem carI_step:∀ k l,k+1<l.length→((carI k l).set (k+1) ((carI k l).getD (k+1) 0+(carI k l).getD k 0/68719476736)).set k ((carI k l).getD k 0%68719476736)=carI (k+1) l
 | 0,x :: y :: l,_=>rfl
 | k+1,x :: y :: l,h=>by
  have ih:=carI_step k ((y+x/68719476736)::l) (by simpa using h);rw[carI,carI,← ih]
  rfl
theorem carI_le:∀ k x l,-4611686018427387904≤x∧x≤4611686018427387904→(∀ j,-2305843009213693952≤l.getD j 0∧l.getD j 0≤2305843009213693952)→∀ j,-4611686018427387904≤(carI k (x :: l)).getD j 0∧(carI k (x :: l)).getD j 0≤4611686018427387904
 | 0,x,l,hx,hl,0=>hx
 | 0,x,l,hx,hl,j+1=>by
  show -4611686018427387904≤l.getD j 0∧l.getD j 0≤4611686018427387904;have:=hl j;omega
 | k+1,x,[],hx,hl,0=>hx
 | k+1,x,[],hx,hl,j+1=>by
  show -4611686018427387904≤([]:List Int).getD j 0∧([]:List Int).getD j 0≤4611686018427387904;have:=hl j;omega
 | k+1,x,y :: l,hx,hl,0=>by
  show -4611686018427387904≤x%68719476736∧x%68719476736≤4611686018427387904;omega
 | k+1,x,y :: l,hx,hl,j+1=>by
  show -4611686018427387904≤(carI k ((y+x/68719476736)::l)).getD j 0∧(carI k ((y+x/68719476736)::l)).getD j 0≤4611686018427387904;have h0:-2305843009213693952≤y∧y≤2305843009213693952:=hl 0;exact carI_le k _ l (by omega) (fun i=>hl (i+1)) j
theorem carI_bound(l:List Int)(k:Nat)(hl:l.length=8)(h:∀ j,j<8→-2305843009213693952≤l.getD j 0∧l.getD j 0≤2305843009213693952)(j:Nat):-4611686018427387904≤(carI k l).getD j 0∧(carI k l).getD j 0≤4611686018427387904:=by
 have z0:∀ j,-2305843009213693952≤l.getD j 0∧l.getD j 0≤2305843009213693952:=fun j=>by
  by_cases hj:j<8
  ·exact h j hj
  ·rw[List.getD_eq_getElem?_getD,List.getElem?_eq_none (by omega)];simp
 match l,hl with
 | x :: l,_=>
  have h0:-2305843009213693952≤x∧x≤2305843009213693952:=z0 0;exact carI_le k x l (by omega) (fun i=>z0 (i+1)) j
def adI(a b:List Int):List Int:=List.zipWith (fun x y=>x+y) a b
def tmI(a:List Int)(v:Int):List Int:=a.map fun x=>x*v
theorem qgA(a b:List Int)(n:Nat)(ha:a.length=n)(hb:b.length=n):(adI a b).length=n:=by simp[adI,ha,hb]
theorem qdv(a:List Int)(v:Int):(tmI a v).length=a.length:=by simp[tmI]
theorem adI_get(a b:List Int)(j:Nat)(ha:j<a.length)(hb:j<b.length):(adI a b).getD j 0=a.getD j 0+b.getD j 0:=by
 rw[adI,List.getD_eq_getElem?_getD,List.getElem?_zipWith,List.getElem?_eq_getElem ha,List.getElem?_eq_getElem hb,List.getD_eq_getElem?_getD,List.getElem?_eq_getElem ha,List.getD_eq_getElem?_getD,List.getElem?_eq_getElem hb];rfl
theorem tmI_get(a:List Int)(v:Int)(j:Nat):(tmI a v).getD j 0=a.getD j 0*v:=by
 by_cases h:j<a.length
 ·simp[tmI,List.getD_eq_getElem?_getD,h]
 ·simp[tmI,List.getD_eq_getElem?_getD,h]
theorem adI_val:∀ a b:List Int,a.length=b.length→vI (adI a b)=vI a+vI b
 | [],[],_=>rfl
 | x :: a,y :: b,h=>by
  have:=adI_val a b (by simpa using h);show x+y+68719476736*vI (adI a b)=(x+68719476736*vI a)+(y+68719476736*vI b);omega
theorem tmI_val:∀ (a:List Int) (v:Int),vI (tmI a v)=vI a*v
 | [],v=>by simp[tmI,vI]
 | x :: a,v=>by
  have:=tmI_val a v;show x*v+68719476736*vI (tmI a v)=(x+68719476736*vI a)*v;rw[this,Int.add_mul,Int.mul_assoc]
def mixI(a b:List Int)(k:Nat):List Int:=b.take k++a.drop k
theorem mixI_length(a b:List Int)(k n:Nat)(ha:a.length=n)(hb:b.length=n)(hk:k≤n):(mixI a b k).length=n:=by simp[mixI,ha,hb];omega
theorem mixI_zero(a b:List Int):mixI a b 0=a:=by simp[mixI]
theorem mixI_full(a b:List Int)(n:Nat)(ha:a.length=n)(hb:b.length=n):mixI a b n=b:=by
 rw[mixI,List.take_of_length_le (by omega),List.drop_of_length_le (by omega),List.append_nil]
theorem mixI_get(a b:List Int)(k n:Nat)(ha:a.length=n)(hb:b.length=n)(hk:k<n):(mixI a b k).getD k 0=a.getD k 0:=by
 rw[mixI,List.getD_eq_getElem?_getD,List.getElem?_append_right (by rw[List.length_take];omega),List.length_take,Nat.min_eq_left (by omega),Nat.sub_self,List.getElem?_drop,Nat.add_zero,← List.getD_eq_getElem?_getD]
theorem mixI_set(a b:List Int)(k n:Nat)(ha:a.length=n)(hb:b.length=n)(hk:k<n):(mixI a b k).set k (b.getD k 0)=mixI a b (k+1):=by
 have h1:a.drop k=a[k]'(by omega)::a.drop (k+1):=List.drop_eq_getElem_cons (by omega);have h2:b.take (k+1)=b.take k++[b[k]'(by omega)]:=(List.take_append_getElem (by omega)).symm;have h3:b.getD k 0=b[k]'(by omega):=by simp[List.getD_eq_getElem?_getD,show k<b.length by omega]
 rw[mixI,mixI,h1,h2,h3,List.set_append,if_neg (by rw[List.length_take];omega),List.length_take,Nat.min_eq_left (by omega),Nat.sub_self,List.set_cons_zero,List.append_assoc]
 rfl
def ordI:List Int:=[44509287405,57537537585,42389927836,85487,0,0,0,1]
theorem ordI_val:vI ordI=(lF:Int):=by decide +kernel
theorem ordI_low:∀ j,0≤ordI.getD j 0∧ordI.getD j 0<68719476736
 | 0=>by decide
 | 1=>by decide
 | 2=>by decide
 | 3=>by decide
 | 4=>by decide
 | 5=>by decide
 | 6=>by decide
 | 7=>by decide
 | n+8=>by show (0:Int)≤0∧(0:Int)<68719476736;decide
def lesI(X:Int):Int:=X-(lF:Int)*(X/7237005577332262213973186563042994240829374041602535252466099000494570602496)
theorem lesI_two(X:Int)(h0:0≤X)(h1:X<511*(lF:Int)):lesI (lesI X)=X%(lF:Int):=by
 have e:(lF:Int)=7237005577332262213973186563042994240857116359379907606001950938285454250989:=rfl;unfold lesI;rw[e]at h1 ⊢;omega
theorem lesI_small(X:Int)(h0:0≤X)(h1:X<511*(lF:Int)):-1≤lesI X/7237005577332262213973186563042994240829374041602535252466099000494570602496∧lesI X/7237005577332262213973186563042994240829374041602535252466099000494570602496≤0:=by
 have e:(lF:Int)=7237005577332262213973186563042994240857116359379907606001950938285454250989:=rfl;unfold lesI;rw[e]at h1 ⊢;omega
theorem less_val(X:Int):vI (adI (limI 7 X) (tmI ordI (-(X/7237005577332262213973186563042994240829374041602535252466099000494570602496))))=lesI X:=by
 rw[adI_val _ _ (by rw[qbq,qdv];rfl),limI_val,tmI_val,ordI_val,lesI,Int.mul_neg];omega
theorem nV_more(A v b:Nat):(256*(A*v%lF)+b*A)%lF=A*(b+256*v)%lF:=by
 rw[Nat.add_mod,Nat.mul_mod_mod,← Nat.add_mod];congr 1;rw[Nat.mul_add,Nat.mul_left_comm,Nat.mul_comm b];omega
theorem limb36(q a:Nat)(z0:Nat)(h:z0=0∨z0=4∨z0=8∨z0=12∨z0=16∨z0=20∨z0=24∨z0=28∨z0=32)(ha:a%16=q/68719476736%16):(q%68719476736/2^z0+a*2^(36-z0))%256=q/2^z0%256:=by
 rcases h with rfl|rfl|rfl|rfl|rfl|rfl|rfl|rfl|rfl<;>simp only[Nat.reducePow,Nat.reduceSub]<;>omega
def txtN(x:Nat):ByteArray:=⟨(leF x 32).toArray⟩
theorem txtN_size(x:Nat):(txtN x).size=32:=qbb x 32
theorem lF_256:lF<256^32:=by decide
theorem right_same(l:List UInt8)(h:l.length=32):(leF (nV l%lF) 32==l)=decide (nV l<lF):=by
 have z0:nV l%lF<256^32:=Nat.lt_trans (Nat.mod_lt _ lF_pos) lF_256;have hv:=nV_leF 32 (nV l%lF);rw[Nat.mod_eq_of_lt z0]at hv;rw[Bool.eq_iff_iff,beq_iff_eq,decide_eq_true_eq];constructor
 ·intro e;rw[e]at hv;rw[hv];exact Nat.mod_lt _ lF_pos
 ·intro e;refine nV_inj _ _ (by rw[qbb,h]) ?_;rw[hv,Nat.mod_eq_of_lt e]
def qdF(s:ByteArray):ByteArray:=if s.size=64 then txtN (nV s.data.toList%lF) else ⟨#[]⟩
def qef(s:ByteArray):Int:=if s.size=64 then 0 else 1
def okR(s:ByteArray):Bool:=decide (s.size=32)&&decide (nV s.data.toList<lF)
def okM(a b c:ByteArray):Prop:=a.size=32∧b.size=32∧c.size=32
instance (a b c:ByteArray):Decidable (okM a b c):=by unfold okM;infer_instance
def maX(a b c:ByteArray):ByteArray:=if okM a b c then txtN ((nV a.data.toList*nV b.data.toList+nV c.data.toList)%lF) else ⟨#[]⟩
end
end Go.Proofs.YteomfleofeeofaaGreatDoor
