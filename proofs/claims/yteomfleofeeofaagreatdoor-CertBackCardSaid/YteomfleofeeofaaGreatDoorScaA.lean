/- Numbers modulo the order L on digits of sixteen bits: the arithmetic of the reference's scalar. No program; Numbers in limbs of 36 bits, of either sign until they are carried: the arithmetic of the program's scalar. No program; What the three calls answer: the number of 64 bytes, whether 32 bytes are a number as it is, a product and a sum. No program. -/
import Derived.Test.YteomfleofeeofaaGreatDoorFldA
import Derived.Test.YteomfleofeeofaaGreatDoorByteN
namespace Go.Proofs.YteomfleofeeofaaGreatDoor
set_option maxRecDepth 100000
set_option linter.unusedSimpArgs false
set_option linter.unusedVariables false
section
def lF:Nat:=7237005577332262213973186563042994240857116359379907606001950938285454250989
theorem lF_pos:0<lF:=by decide
end
section
def vI:List Int→Int
 | []=>0
 | x :: l=>x+68719476736*vI l
def limI:Nat→Int→List Int
 | 0,X=>[X]
 | n+1,X=>X%68719476736 :: limI n (X / 68719476736)
theorem qaL:∀ n X,(limI n X).length=n+1
 | 0,_=>rfl
 | n+1,X=>by rw [limI,List.length_cons,qaL n]
theorem qdO:∀ n X,vI (limI n X)=X
 | 0,X=>by simp [limI,vI]
 | n+1,X=>by rw [limI,vI,qdO n];omega
theorem limI_low:∀ n X i,i<n→0≤(limI n X).getD i 0∧(limI n X).getD i 0<68719476736
 | n+1,X,0,_=>by
  show 0≤X%68719476736∧X%68719476736<68719476736
  omega
 | n+1,X,i+1,h=>by
  show 0≤(limI n (X / 68719476736)).getD i 0∧(limI n (X / 68719476736)).getD i 0<68719476736
  exact limI_low n _ i (by omega)
theorem limI_get:∀ n X i,i<n→(limI n X).getD i 0=X / 68719476736^i%68719476736
 | n+1,X,0,_=>by
  show X%68719476736=X / 68719476736^0%68719476736
  rw [Int.pow_zero,Int.ediv_one]
 | n+1,X,i+1,h=>by
  show (limI n (X / 68719476736)).getD i 0=_
  rw [limI_get n _ i (by omega),Int.ediv_ediv_of_nonneg (by decide),Int.pow_succ,Int.mul_comm (68719476736^i)]
theorem limI_top:∀ n X,(limI n X).getD n 0=X / 68719476736^n
 | 0,X=>by
  show X=X / 68719476736^0
  rw [Int.pow_zero,Int.ediv_one]
 | n+1,X=>by
  show (limI n (X / 68719476736)).getD n 0=_
  rw [limI_top n,Int.ediv_ediv_of_nonneg (by decide),Int.pow_succ,Int.mul_comm (68719476736^n)]
theorem limI_end (X:Int):(limI 7 X).getD 7 0=X / 7237005577332262213973186563042994240829374041602535252466099000494570602496:=by rw [limI_top];rfl
def carI:Nat→List Int→List Int
 | 0,l=>l
 | _+1,[]=>[]
 | _+1,[x]=>[x]
 | k+1,x :: y :: l=>x%68719476736 :: carI k ((y+x / 68719476736) :: l)
theorem carI_length:∀ k l,(carI k l).length=l.length
 | 0,_=>rfl
 | _+1,[]=>rfl
 | _+1,[_]=>rfl
 | k+1,x :: y :: l=>by rw [carI,List.length_cons,carI_length k];rfl
theorem carI_full:∀ n l,l.length=n+1→carI n l=limI n (vI l)
 | 0,[x],_=>by simp [carI,limI,vI]
 | n+1,x :: y :: l,h=>by
  rw [carI,limI,carI_full n _ (by simpa using h),vI,vI,vI]
  congr 1
  ·omega
  ·congr 1
   omega
theorem carI_step:∀ k l,k+1<l.length→((carI k l).set (k+1) ((carI k l).getD (k+1) 0+(carI k l).getD k 0 / 68719476736)).set k ((carI k l).getD k 0%68719476736)=carI (k+1) l
 | 0,x :: y :: l,_=>rfl
 | k+1,x :: y :: l,h=>by
  have ih:=carI_step k ((y+x / 68719476736) :: l) (by simpa using h)
  rw [carI,carI,← ih]
  rfl
theorem carI_le:∀ k x l,-4611686018427387904≤x∧x≤4611686018427387904→(∀ j,-2305843009213693952≤l.getD j 0∧l.getD j 0≤2305843009213693952)→∀ j,-4611686018427387904≤(carI k (x :: l)).getD j 0∧(carI k (x :: l)).getD j 0≤4611686018427387904
 | 0,x,l,hx,hl,0=>hx
 | 0,x,l,hx,hl,j+1=>by
  show -4611686018427387904≤l.getD j 0∧l.getD j 0≤4611686018427387904
  have:=hl j
  omega
 | k+1,x,[],hx,hl,0=>hx
 | k+1,x,[],hx,hl,j+1=>by
  show -4611686018427387904≤([]:List Int).getD j 0∧([]:List Int).getD j 0≤4611686018427387904
  have:=hl j
  omega
 | k+1,x,y :: l,hx,hl,0=>by
  show -4611686018427387904≤x%68719476736∧x%68719476736≤4611686018427387904
  omega
 | k+1,x,y :: l,hx,hl,j+1=>by
  show -4611686018427387904≤(carI k ((y+x / 68719476736) :: l)).getD j 0∧(carI k ((y+x / 68719476736) :: l)).getD j 0≤4611686018427387904
  have h0:-2305843009213693952≤y∧y≤2305843009213693952:=hl 0
  exact carI_le k _ l (by omega) (fun i=>hl (i+1)) j
theorem carI_bound (l:List Int) (k:Nat) (hl:l.length=8) (h:∀ j,j<8→-2305843009213693952≤l.getD j 0∧l.getD j 0≤2305843009213693952) (j:Nat):-4611686018427387904≤(carI k l).getD j 0∧(carI k l).getD j 0≤4611686018427387904:=by
 have hall:∀ j,-2305843009213693952≤l.getD j 0∧l.getD j 0≤2305843009213693952:=fun j=>by
  by_cases hj:j<8
  ·exact h j hj
  ·rw [List.getD_eq_getElem?_getD,List.getElem?_eq_none (by omega)]
   simp
 match l,hl with
 | x :: l,_=>
  have h0:-2305843009213693952≤x∧x≤2305843009213693952:=hall 0
  exact carI_le k x l (by omega) (fun i=>hall (i+1)) j
def adI (a b:List Int):List Int:=List.zipWith (fun x y=>x+y) a b
def tmI (a:List Int) (v:Int):List Int:=a.map fun x=>x*v
theorem qee (a b:List Int) (n:Nat) (ha:a.length=n) (hb:b.length=n):(adI a b).length=n:=by simp [adI,ha,hb]
theorem qct (a:List Int) (v:Int):(tmI a v).length=a.length:=by simp [tmI]
theorem adI_get (a b:List Int) (j:Nat) (ha:j<a.length) (hb:j<b.length):(adI a b).getD j 0=a.getD j 0+b.getD j 0:=by
 rw [adI,List.getD_eq_getElem?_getD,List.getElem?_zipWith,List.getElem?_eq_getElem ha,List.getElem?_eq_getElem hb,List.getD_eq_getElem?_getD,List.getElem?_eq_getElem ha,List.getD_eq_getElem?_getD,List.getElem?_eq_getElem hb];rfl
theorem tmI_get (a:List Int) (v:Int) (j:Nat):(tmI a v).getD j 0=a.getD j 0*v:=by
 by_cases h:j<a.length
 ·simp [tmI,List.getD_eq_getElem?_getD,h]
 ·simp [tmI,List.getD_eq_getElem?_getD,h]
theorem adI_val:∀ a b:List Int,a.length=b.length→vI (adI a b)=vI a+vI b
 | [],[],_=>rfl
 | x :: a,y :: b,h=>by
  have:=adI_val a b (by simpa using h)
  show x+y+68719476736*vI (adI a b)=(x+68719476736*vI a)+(y+68719476736*vI b)
  omega
theorem tmI_val:∀ (a:List Int) (v:Int),vI (tmI a v)=vI a*v
 | [],v=>by simp [tmI,vI]
 | x :: a,v=>by
  have:=tmI_val a v
  show x*v+68719476736*vI (tmI a v)=(x+68719476736*vI a)*v
  rw [this,Int.add_mul,Int.mul_assoc]
def mixI (a b:List Int) (k:Nat):List Int:=b.take k++a.drop k
theorem mixI_length (a b:List Int) (k n:Nat) (ha:a.length=n) (hb:b.length=n) (hk:k≤n):(mixI a b k).length=n:=by simp [mixI,ha,hb];omega
theorem mixI_zero (a b:List Int):mixI a b 0=a:=by simp [mixI]
theorem mixI_full (a b:List Int) (n:Nat) (ha:a.length=n) (hb:b.length=n):mixI a b n=b:=by
 rw [mixI,List.take_of_length_le (by omega),List.drop_of_length_le (by omega),List.append_nil]
theorem mixI_get (a b:List Int) (k n:Nat) (ha:a.length=n) (hb:b.length=n) (hk:k<n):(mixI a b k).getD k 0=a.getD k 0:=by
 rw [mixI,List.getD_eq_getElem?_getD,List.getElem?_append_right (by rw [List.length_take];omega),List.length_take,Nat.min_eq_left (by omega),Nat.sub_self,List.getElem?_drop,Nat.add_zero,← List.getD_eq_getElem?_getD]
theorem mixI_set (a b:List Int) (k n:Nat) (ha:a.length=n) (hb:b.length=n) (hk:k<n):(mixI a b k).set k (b.getD k 0)=mixI a b (k+1):=by
 have h1:a.drop k=a[k]'(by omega) :: a.drop (k+1):=List.drop_eq_getElem_cons (by omega)
 have h2:b.take (k+1)=b.take k++[b[k]'(by omega)]:=(List.take_append_getElem (by omega)).symm
 have h3:b.getD k 0=b[k]'(by omega):=by simp [List.getD_eq_getElem?_getD,show k<b.length by omega]
 rw [mixI,mixI,h1,h2,h3,List.set_append,if_neg (by rw [List.length_take];omega),List.length_take,Nat.min_eq_left (by omega),Nat.sub_self,List.set_cons_zero,List.append_assoc]
 rfl
def ordI:List Int:=[44509287405,57537537585,42389927836,85487,0,0,0,1]
theorem ordI_val:vI ordI=(lF:Int):=by decide +kernel
theorem ordI_low:∀ j,0≤ordI.getD j 0∧ordI.getD j 0<68719476736
 | 0=>by decide
 | 1=>by decide
 | 2=>by decide
 | 3=>by decide
 | 4=>by decide
 | 5=>by decide
 | 6=>by decide
 | 7=>by decide
 | n+8=>by show (0:Int)≤0∧(0:Int)<68719476736;decide
def lesI (X:Int):Int:=X-(lF:Int)*(X / 7237005577332262213973186563042994240829374041602535252466099000494570602496)
theorem lesI_two (X:Int) (h0:0≤X) (h1:X<511*(lF:Int)):lesI (lesI X)=X%(lF:Int):=by
 have e:(lF:Int)=7237005577332262213973186563042994240857116359379907606001950938285454250989:=rfl;unfold lesI;rw [e] at h1 ⊢
 omega
theorem lesI_small (X:Int) (h0:0≤X) (h1:X<511*(lF:Int)):-1≤lesI X / 7237005577332262213973186563042994240829374041602535252466099000494570602496∧lesI X / 7237005577332262213973186563042994240829374041602535252466099000494570602496≤0:=by
 have e:(lF:Int)=7237005577332262213973186563042994240857116359379907606001950938285454250989:=rfl;unfold lesI;rw [e] at h1 ⊢
 omega
theorem less_val (X:Int):vI (adI (limI 7 X) (tmI ordI (-(X / 7237005577332262213973186563042994240829374041602535252466099000494570602496))))=lesI X:=by
 rw [adI_val _ _ (by rw [qaL,qct];rfl),qdO,tmI_val,ordI_val,lesI,Int.mul_neg]
 omega
theorem nV_more (A v b:Nat):(256*(A*v%lF)+b*A)%lF=A*(b+256*v)%lF:=by
 rw [Nat.add_mod,Nat.mul_mod_mod,← Nat.add_mod]
 congr 1
 rw [Nat.mul_add,Nat.mul_left_comm,Nat.mul_comm b]
 omega
theorem limb36 (q a:Nat) (at':Nat) (h:at'=0∨at'=4∨at'=8∨at'=12∨at'=16∨at'=20∨at'=24∨at'=28∨at'=32) (ha:a%16=q / 68719476736%16):(q%68719476736 / 2^at'+a*2^(36-at'))%256=q / 2^at'%256:=by
 rcases h with rfl | rfl | rfl | rfl | rfl | rfl | rfl | rfl | rfl <;> simp only [Nat.reducePow,Nat.reduceSub] <;> omega
end
section
def txtN (x:Nat):ByteArray:=⟨(leF x 32).toArray⟩
theorem txtN_size (x:Nat):(txtN x).size=32:=qbf x 32
theorem lF_256:lF<256^32:=by decide
theorem right_same (l:List UInt8) (h:l.length=32):(leF (nV l%lF) 32==l)=decide (nV l<lF):=by
 have hlt:nV l%lF<256^32:=Nat.lt_trans (Nat.mod_lt _ lF_pos) lF_256;have hv:=nV_leF 32 (nV l%lF);rw [Nat.mod_eq_of_lt hlt] at hv;rw [Bool.eq_iff_iff,beq_iff_eq,decide_eq_true_eq]
 constructor
 ·intro e
  rw [e] at hv;rw [hv];exact Nat.mod_lt _ lF_pos
 ·intro e
  refine nV_inj _ _ (by rw [qbf,h]) ?_
  rw [hv,Nat.mod_eq_of_lt e]
def wideX (s:ByteArray):ByteArray:=if s.size=64 then txtN (nV s.data.toList%lF) else ⟨#[]⟩
def wideE (s:ByteArray):Int:=if s.size=64 then 0 else 1
def okR (s:ByteArray):Bool:=decide (s.size=32)&&decide (nV s.data.toList<lF)
def okM (a b c:ByteArray):Prop:=a.size=32∧b.size=32∧c.size=32
instance (a b c:ByteArray):Decidable (okM a b c):=by unfold okM;infer_instance
def maX (a b c:ByteArray):ByteArray:=if okM a b c then txtN ((nV a.data.toList*nV b.data.toList+nV c.data.toList)%lF) else ⟨#[]⟩
def maE (a b c:ByteArray):Int:=if okM a b c then 0 else 1
theorem ma_mod (a b c:Nat):((b%lF*a)%lF+c%lF)%lF=(a*b+c)%lF:=by
 rw [← Nat.add_mod,Nat.add_mod,Nat.mod_mul_mod,← Nat.add_mod,Nat.mul_comm b]
end
end Go.Proofs.YteomfleofeeofaaGreatDoor
