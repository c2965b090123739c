/- What the library's table of powers of ten holds. -/
import Derived.Test.YteomfleofeeofaaGreatDoorLibs
import Derived.Lib.AppendIntMem
import Derived.Test.YteomfleofeeofaaGreatDoorCtA
import Derived.Lib.ItoaMem
import Derived.Lib.Join
import Derived.Test.YteomfleofeeofaaGreatDoorDerP
namespace Go.Proofs.YteomfleofeeofaaGreatDoor
open Go.Lib (hid)
set_option maxHeartbeats 16000000
open Go.Proofs.Tryz
set_option maxRecDepth 100000
set_option linter.unusedSimpArgs false
set_option linter.unusedVariables false
section
open Go.RowKit Go.Sort
def PowQ (w:World):Prop:=Lib.TabIs Tryz.prog w "internal/strconv.uint64pow10" .u64 Lib.pow10Tab
theorem PowQ.step{w w':World}(h:PowQ w)(hb:Below w.heap.size w w'):PowQ w':=(Lib.tabBelow_of_tabIs h) w' hb
end
section
def goN:Nat→ByteArray→ByteArray
 | 0,s=>s
 | k+1,s=>goN k (qbD s)
def qaj:List Nat→ByteArray→ByteArray
 | [],s=>s
 | k :: p,s=>qaj p (qba (goN k s))
theorem rdRest_le(s:ByteArray):(qbD s).size≤s.size:=by
 by_cases h:qbS s=0
 ·exact jll (rd_sizes s h).2
 ·rw[qbD,if_neg (show ¬ rdE s.data.toList=0 from h)];exact Nat.zero_le _
theorem rdBody_le(s:ByteArray):(qba s).size≤s.size:=by
 by_cases h:qbS s=0
 ·exact (rd_sizes s h).1
 ·rw[qba,if_neg (show ¬ rdE s.data.toList=0 from h)];exact Nat.zero_le _
theorem goN_le:∀ (k:Nat) (s:ByteArray),(goN k s).size≤s.size
 | 0,s=>jlr _
 | k+1,s=>jlt (goN_le k _) (rdRest_le s)
theorem goN_step:∀ (k:Nat) (s:ByteArray),goN (k+1) s=qbD (goN k s)
 | 0,s=>rfl
 | k+1,s=>goN_step k (qbD s)
theorem qdM:∀ (p:List Nat) (s:ByteArray),(qaj p s).size≤s.size
 | [],s=>jlr _
 | k :: p,s=>jlt (qdM p _) (jlt (rdBody_le _) (goN_le k s))
theorem qex(z0:Int)(b r:ByteArray)(h:wrE z0 b=0):qba (wrX z0 b++r)=b∧qbD (wrX z0 b++r)=r:=by
 obtain⟨_,h2,h3,_⟩:=rd_wr z0 b r h;exact⟨h2,h3⟩
theorem qfp(z0:Int)(b:ByteArray)(h:wrE z0 b=0):qba (wrX z0 b)=b:=by
 have:=(qex z0 b qbT h).1;have e:wrX z0 b++qbT=wrX z0 b:=ByteArray.append_empty;rwa[e]at this
def qeR(s:ByteArray):ByteArray:=⟨(Lib.trimPrefix s.data.toList [0]).toArray⟩
theorem trimZ_zero(s:ByteArray):qeR (qaD++s)=s:=by
 have e:(qaD++s).data.toList=0 :: s.data.toList:=by rw[ByteArray.data_append,Array.toList_append];rfl
 rw[qeR,e];apply ByteArray.ext;apply Array.toList_inj.1;show Lib.trimPrefix (0 :: s.data.toList) [0]=_;rw[Lib.trimPrefix,if_pos (by simp[Lib.hasPrefix])]
 rfl
theorem trimZ_le(s:ByteArray):(qeR s).size≤s.size:=by
 have h:=Lib.trimPrefix_le s.data.toList [0];rw[Lib.size_eq s];exact h
theorem find_who(c:CertF)(z0:ByteArray)(hn:c.nm.size≤1000)(hk:c.key.size=32)(hs:z0.size=64):qaj [0,0,0] (whoB (innB c) z0)=intB c.ser∧qaj [2,0,0,1] (qaj [0,0] (whoB (innB c) z0))=c.nm∧qaj [0] (qaj [3] (qaj [0,0] (whoB (innB c) z0)))=timX c.fr∧qaj [1] (qaj [3] (qaj [0,0] (whoB (innB c) z0)))=timX c.to∧
  qaj [5,1] (qaj [0,0] (whoB (innB c) z0))=qaD++c.key∧qaj [2] (qaj [0] (whoB (innB c) z0))=qaD++z0:=by
 obtain⟨s1,s2,s3,s4,s5,s6,s7⟩:=qdt c;obtain⟨n1,n2,n3,n4⟩:=qd4 c.nm;have ha:algB.size=7:=by rw[qeY];rfl
 have z1:=qda z0;have w1:=qcz 3 (qaD++z0);have t1:=qdm c.fr;have t2:=qdm c.to;have T:∀ t:Int,t=48∨t=49∨t=24∨t=12∨t=3∨t=2∨t=6→isT t=true:=fun t h=>by
  rcases h with rfl|rfl|rfl|rfl|rfl|rfl|rfl<;>decide
 have e1:qba (whoB (innB c) z0)=innB c++(algB++wrX 3 (qaD++z0)):=by
  rw[whoB,ByteArray.append_assoc];exact qfp 48 _ (qb1 48 _ (by rw[ByteArray.size_append,ByteArray.size_append];omega) (T 48 (by simp)))
 obtain⟨e2,f2⟩:=qex 48 (wrX 2 (intB c.ser)++algB++qaH c.nm++valB c++qaH c.nm++keyB c) (algB++wrX 3 (qaD++z0)) (qb1 48 _ (by omega) (T 48 (by simp)));obtain⟨_,f3⟩:=qex 48 (oidX [1,3,101,112]) (wrX 3 (qaD++z0)) (by decide);have e4:qba (wrX 3 (qaD++z0))=qaD++z0:=qfp 3 _ (qb1 3 _ (by omega) (T 3 (by simp)));obtain⟨e5,f5⟩:=qex 2 (intB c.ser) (algB++(qaH c.nm++(valB c++(qaH c.nm++keyB c)))) (int_wr _);obtain⟨_,f6⟩:=qex 48 (oidX [1,3,101,112]) (qaH c.nm++(valB c++(qaH c.nm++keyB c))) (by decide);obtain⟨e7,f7⟩:=qex 48 (wrX 49 (wrX 48 (oidX [2,5,4,3]++wrX 12 c.nm))) (valB c++(qaH c.nm++keyB c)) (qb1 48 _ (by omega) (T 48 (by simp)));have e8:qba (wrX 49 (wrX 48 (oidX [2,5,4,3]++wrX 12 c.nm)))=wrX 48 (oidX [2,5,4,3]++wrX 12 c.nm):=qfp 49 _ (qb1 49 _ (by omega) (T 49 (by simp)));have e9:qba (wrX 48 (oidX [2,5,4,3]++wrX 12 c.nm))=oidX [2,5,4,3]++wrX 12 c.nm:=qfp 48 _ (qb1 48 _ (by omega) (T 48 (by simp)));have zb:qbD (oidX [2,5,4,3]++wrX 12 c.nm)=wrX 12 c.nm:=by
  rw[oid_name];exact (qex 6 _ _ (by decide)).2
 have z6:qba (wrX 12 c.nm)=c.nm:=qfp 12 _ (qb1 12 _ (by omega) (T 12 (by simp)));obtain⟨z2,z3⟩:=qex 48 (wrX 24 (timX c.fr)++wrX 24 (timX c.to)) (qaH c.nm++keyB c) (qb1 48 _ (by omega) (T 48 (by simp)));obtain⟨z7,zc⟩:=qex 24 (timX c.fr) (wrX 24 (timX c.to)) (qb1 24 _ (by omega) (T 24 (by simp)));have z8:qba (wrX 24 (timX c.to))=timX c.to:=qfp 24 _ (qb1 24 _ (by omega) (T 24 (by simp)));obtain⟨_,z4⟩:=qex 48 (wrX 49 (wrX 48 (oidX [2,5,4,3]++wrX 12 c.nm))) (keyB c) (qb1 48 _ (by omega) (T 48 (by simp)));have z9:qba (keyB c)=algB++wrX 3 (qaD++c.key):=qfp 48 _ (qb1 48 _ (by omega) (T 48 (by simp)));obtain⟨_,z5⟩:=qex 48 (oidX [1,3,101,112]) (wrX 3 (qaD++c.key)) (by decide);have za:qba (wrX 3 (qaD++c.key))=qaD++c.key:=qfp 3 _ (qb1 3 _ (by omega) (T 3 (by simp)));have hi:innB c=wrX 48 (wrX 2 (intB c.ser)++algB++qaH c.nm++valB c++qaH c.nm++keyB c):=rfl;have zd:algB=wrX 48 (oidX [1,3,101,112]):=rfl;have ze:qaH c.nm=wrX 48 (wrX 49 (wrX 48 (oidX [2,5,4,3]++wrX 12 c.nm))):=rfl;have hv:valB c=wrX 48 (wrX 24 (timX c.fr)++wrX 24 (timX c.to)):=rfl;rw[← hi]at e2 f2;rw[← zd]at f3 f6 z5;rw[← ze]at e7 f7 z4;rw[← hv]at z2 z3;have g2:qba (innB c++(algB++wrX 3 (qaD++z0)))=wrX 2 (intB c.ser)++(algB++(qaH c.nm++(valB c++(qaH c.nm++keyB c)))):=by
  rw[e2,ByteArray.append_assoc,ByteArray.append_assoc,ByteArray.append_assoc,ByteArray.append_assoc]
 simp only[qaj,goN,e1,g2,f2,f3,e4,e5,f5,f6,e7,f7,e8,e9,zb,z6,z2,z3,z7,zc,z8,z4,z9,z5,za,and_self]
theorem ydays_round(q:Nat):qbP (400*q)=146097*q:=by
 have h:=qev (400*q) (1969+400*q) rfl;omega
theorem ydays_start(z0:Nat):qbP (400*(z0/146097))+z0%146097=z0:=by
 rw[ydays_round];omega
theorem mo_in(z0 j r:Nat)(h:z0≤2932896)(h1:qbv (qaJ (1970+(yrOf z0).1)) j+r=(yrOf z0).2):j<12:=by
 obtain⟨_,b,_⟩:=qdS z0 h;rw[← qfF]at b;rcases Nat.lt_or_ge j 12 with c|c
 ·exact c
 ·have:=qeF (qaJ (1970+(yrOf z0).1)) 12 j c;omega
theorem yr_in(z0 k r:Nat)(h:z0≤2932896)(h1:qbP k+r=z0):k≤8029:=by
 rcases Nat.lt_or_ge k 8030 with c|c
 ·omega
 ·have m:=qd5 8030 k c;have v:=qev 8030 9999 rfl;omega
theorem dec_dig:∀ (k n:Nat),n<10^(k+1)→(Lib.decDigits n).length≤k+1∧List.replicate (k+1-(Lib.decDigits n).length) 48++Lib.decDigits n=digL (k+1) n
 | 0,n,h=>by
  have hn:n<10:=by simpa using h
  rw[Lib.decDigits,dif_pos hn];refine⟨jlr _,?_⟩;show[]++[UInt8.ofNat (48+n)]=[]++[UInt8.ofNat (48+n%10)];rw[Nat.mod_eq_of_lt hn]
 | k+1,n,h=>by
  by_cases hn:n<10
  ·have z:=dec_dig k 0 (Nat.pos_of_ne_zero (by simp));have hd:Lib.decDigits 0=[48]:=by rw[Lib.decDigits,dif_pos (by omega)];rfl
   rw[hd]at z;rw[Lib.decDigits,dif_pos hn];refine⟨by simp,?_⟩;rw[digL,Nat.div_eq_of_lt hn,Nat.mod_eq_of_lt hn,← z.2];simp[List.replicate_succ']
  ·rw[Nat.pow_succ]at h;obtain⟨a,b⟩:=dec_dig k (n/10) (by omega);have hd:Lib.decDigits n=Lib.decDigits (n/10)++[UInt8.ofNat (48+n%10)]:=by
    rw[Lib.decDigits,dif_neg hn]
   rw[hd,digL,← b,List.length_append];refine⟨by simp;omega,?_⟩;rw[show k+1+1-((Lib.decDigits (n/10)).length+[UInt8.ofNat (48+n%10)].length)=k+1-(Lib.decDigits (n/10)).length by simp,List.append_assoc]
def catB(l:List ByteArray):ByteArray:=⟨(l.map (·.data.toList)).flatten.toArray⟩
theorem catB_join(l:List ByteArray):(⟨(Lib.join (l.map (·.data.toList)) []).toArray⟩:ByteArray)=catB l:=by
 rw[catB];congr 2;show[].intercalate (l.map (·.data.toList))=_;generalize l.map (·.data.toList)=m
 induction m with
 | nil=>rfl
 | cons x r ih=>
  cases r with
  | nil=>simp[List.intercalate,List.intersperse]
  | cons y r=>
   simp[List.intercalate,List.intersperse]at ih ⊢;exact ih
theorem qcw(x:ByteArray)(l:List ByteArray):catB (x :: l)=x++catB l:=by
 apply ByteArray.ext;apply Array.toList_inj.1;rw[ByteArray.data_append,Array.toList_append]
 rfl
theorem qcf(x:ByteArray):catB [x]=x:=by
 apply ByteArray.ext;apply Array.toList_inj.1;show (([x].map (·.data.toList)).flatten)=_;simp
end
section
open Go.RowKit Go.Sort
theorem qgq(n:Int)(w:World):Rt 23 #[.int .i64 n] w (.bool (isTm n)):=by
 unfold Rt;have hb:=Below.refl w.heap.size w;by_cases h0:0≤n
 ·have d0:decide (0≤n)=true:=decide_eq_true h0;by_cases h1:n≤253402300799
  ·have d1:decide (n≤253402300799)=true:=decide_eq_true h1;rw[isTm,d0,d1];go_enter func23,ntmps23;go_wp2_with fail;go_ret;exact⟨rfl,hb⟩
  ·have d1:decide (n≤253402300799)=false:=decide_eq_false h1;rw[isTm,d0,d1];go_enter func23,ntmps23;go_wp2_with fail;go_ret;exact⟨rfl,hb⟩
 ·have d0:decide (0≤n)=false:=decide_eq_false h0;rw[isTm,d0,Bool.false_and];go_enter func23,ntmps23;go_wp2_with fail;go_ret;exact⟨rfl,hb⟩
theorem pisLeap_any(y:Nat)(w:World)(hy:y≤100000):Rt 163 #[.int .i64 (y:Int)] w (.bool (qaJ y)):=by
 unfold Rt;have hb:=Below.refl w.heap.size w;by_cases h4:y%4=0
 ·have d4:((y:Int)%4==0)=true:=by simp;omega
  by_cases h1:y%100=0
  ·have d1:((y:Int)%100 != 0)=false:=by simp;omega
   by_cases h2:y%400=0
   ·have d2:((y:Int)%400==0)=true:=by simp;omega
    have HL:Hid (qaJ y=true):=hid ((qcH y).2 (by omega));clear h4 h1 h2;go_enter func163,ntmps163;go_wp2_with fail;go_ret;exact⟨by rw[HL.out];rfl,hb⟩
   ·have d2:((y:Int)%400==0)=false:=by simp;omega
    have HL:Hid (qaJ y=false):=hid (by rw[← Bool.not_eq_true,qcH];omega);clear h4 h1 h2;go_enter func163,ntmps163;go_wp2_with fail;go_ret;exact⟨by rw[HL.out];rfl,hb⟩
  ·have d1:((y:Int)%100 != 0)=true:=by simp;omega
   have HL:Hid (qaJ y=true):=hid ((qcH y).2 (by omega));clear h4 h1;go_enter func163,ntmps163;go_wp2_with fail;go_ret;exact⟨by rw[HL.out];rfl,hb⟩
 ·have d4:((y:Int)%4==0)=false:=by simp;omega
  by_cases h2:y%400=0
  ·exact absurd h2 (by omega)
  ·have d2:((y:Int)%400==0)=false:=by simp;omega
   have HL:Hid (qaJ y=false):=hid (by rw[← Bool.not_eq_true,qcH];omega);clear h4 h2;go_enter func163,ntmps163;go_wp2_with fail;go_ret;exact⟨by rw[HL.out];rfl,hb⟩
theorem pdoy_any(k y:Nat)(w:World)(hy:y=1970+k)(hk:k≤9000):Rt 100 #[.int .i64 (y:Int)] w (.int .i64 ((ylen k:Nat):Int)):=by
 unfold Rt;have C:=hid (fun W=>pisLeap_any y W (by omega));have hv:ylen k=if qaJ y=true then 366 else 365:=by rw[ylen,hy]
 have hb:=Below.refl w.heap.size w
 cases hl:qaJ y with
 | true=>
  rw[hl]at C hv;have HV:=hid hv;clear hv hl hy hk;go_enter func100,ntmps100;go_wp2_with fail;refine (C.out _).mono ?_;rintro ee W1⟨rfl,bk⟩;replace hb:=bws hb bk;clear bk C;go_wp2_with fail;go_ret;exact⟨by rw[HV.out];rfl,hb⟩
 | false=>
  rw[hl]at C hv;have HV:=hid hv;clear hv hl hy hk;go_enter func100,ntmps100;go_wp2_with fail;refine (C.out _).mono ?_;rintro ee W1⟨rfl,bk⟩;replace hb:=bws hb bk;clear bk C;go_wp2_with fail;go_ret;exact⟨by rw[HV.out];rfl,hb⟩
theorem pmon_any(y j:Nat)(w:World)(hy:y≤100000)(hj:j<12)(m:Int)(hm:m=(j:Int)+1):Rt 101 #[.int .i64 (y:Int),.int .i64 m] w (.int .i64 ((mlen (qaJ y) j:Nat):Int)):=by
 unfold Rt;have hb:=Below.refl w.heap.size w;by_cases h1:j=1
 ·subst h1;obtain rfl:m=2:=by omega
  have C:=hid (fun W=>pisLeap_any y W hy);have hv:mlen (qaJ y) 1=if qaJ y=true then 29 else 28:=by cases qaJ y<;>rfl
  clear hm hj hy
  cases hl:qaJ y with
  | true=>
   rw[hl]at C hv;have HV:=hid hv;clear hv hl;go_enter func101,ntmps101;go_wp2_with fail;refine (C.out _).mono ?_;rintro ee W1⟨rfl,bk⟩;replace hb:=bws hb bk;clear bk C;go_wp2_with fail;go_ret;exact⟨by rw[HV.out];rfl,hb⟩
  | false=>
   rw[hl]at C hv;have HV:=hid hv;clear hv hl;go_enter func101,ntmps101;go_wp2_with fail;refine (C.out _).mono ?_;rintro ee W1⟨rfl,bk⟩;replace hb:=bws hb bk;clear bk C;go_wp2_with fail;go_ret;exact⟨by rw[HV.out];rfl,hb⟩
 ·match j,hj,h1 with
  | 1,_,h=>exact absurd rfl h
  | 0,_,_=>
   obtain rfl:m=1:=by omega
   have HV:Hid (mlen (qaJ y) 0=31):=hid (by rw[mlen,if_neg (by omega)];rfl);clear hm hj hy;go_enter func101,ntmps101;go_wp2_with fail;go_ret;exact⟨by rw[HV.out];rfl,hb⟩
  | 2,_,_=>
   obtain rfl:m=3:=by omega
   have HV:Hid (mlen (qaJ y) 2=31):=hid (by rw[mlen,if_neg (by omega)];rfl);clear hm hj hy;go_enter func101,ntmps101;go_wp2_with fail;go_ret;exact⟨by rw[HV.out];rfl,hb⟩
  | 3,_,_=>
   obtain rfl:m=4:=by omega
   have HV:Hid (mlen (qaJ y) 3=30):=hid (by rw[mlen,if_neg (by omega)];rfl);clear hm hj hy;go_enter func101,ntmps101;go_wp2_with fail;go_ret;exact⟨by rw[HV.out];rfl,hb⟩
  | 4,_,_=>
   obtain rfl:m=5:=by omega
   have HV:Hid (mlen (qaJ y) 4=31):=hid (by rw[mlen,if_neg (by omega)];rfl);clear hm hj hy;go_enter func101,ntmps101;go_wp2_with fail;go_ret;exact⟨by rw[HV.out];rfl,hb⟩
  | 5,_,_=>
   obtain rfl:m=6:=by omega
   have HV:Hid (mlen (qaJ y) 5=30):=hid (by rw[mlen,if_neg (by omega)];rfl);clear hm hj hy;go_enter func101,ntmps101;go_wp2_with fail;go_ret;exact⟨by rw[HV.out];rfl,hb⟩
  | 6,_,_=>
   obtain rfl:m=7:=by omega
   have HV:Hid (mlen (qaJ y) 6=31):=hid (by rw[mlen,if_neg (by omega)];rfl);clear hm hj hy;go_enter func101,ntmps101;go_wp2_with fail;go_ret;exact⟨by rw[HV.out];rfl,hb⟩
  | 7,_,_=>
   obtain rfl:m=8:=by omega
   have HV:Hid (mlen (qaJ y) 7=31):=hid (by rw[mlen,if_neg (by omega)];rfl);clear hm hj hy;go_enter func101,ntmps101;go_wp2_with fail;go_ret;exact⟨by rw[HV.out];rfl,hb⟩
  | 8,_,_=>
   obtain rfl:m=9:=by omega
   have HV:Hid (mlen (qaJ y) 8=30):=hid (by rw[mlen,if_neg (by omega)];rfl);clear hm hj hy;go_enter func101,ntmps101;go_wp2_with fail;go_ret;exact⟨by rw[HV.out];rfl,hb⟩
  | 9,_,_=>
   obtain rfl:m=10:=by omega
   have HV:Hid (mlen (qaJ y) 9=31):=hid (by rw[mlen,if_neg (by omega)];rfl);clear hm hj hy;go_enter func101,ntmps101;go_wp2_with fail;go_ret;exact⟨by rw[HV.out];rfl,hb⟩
  | 10,_,_=>
   obtain rfl:m=11:=by omega
   have HV:Hid (mlen (qaJ y) 10=30):=hid (by rw[mlen,if_neg (by omega)];rfl);clear hm hj hy;go_enter func101,ntmps101;go_wp2_with fail;go_ret;exact⟨by rw[HV.out];rfl,hb⟩
  | 11,_,_=>
   obtain rfl:m=12:=by omega
   have HV:Hid (mlen (qaJ y) 11=31):=hid (by rw[mlen,if_neg (by omega)];rfl);clear hm hj hy;go_enter func101,ntmps101;go_wp2_with fail;go_ret;exact⟨by rw[HV.out];rfl,hb⟩
  | j+12,h,_=>omega
theorem pdate_any(D:Nat)(w:World)(z3:D≤2932896):Rt 48 #[.int .i64 (D:Int)] w (.tuple #[.int .i64 ((1970+(yrOf D).1:Nat):Int),.int .i64 (((moOf D).1:Int)+1),.int .i64 (1+((moOf D).2:Int))]):=by
 unfold Rt;have hb:=Below.refl w.heap.size w;have HS:=hid (ydays_start D);go_enter func48,ntmps48;go_wp2_with fail
 go_loopw [0,5] (fun dv yv wr=>∃ (k r:Nat),qbP k+r=D∧dv=.int .i64 (r:Int)∧yv=.int .i64 ((1970+k:Nat):Int)∧Below w.heap.size w wr) (fun dv _ _=>(intOf dv).toNat)
 case atStart=>exact⟨400*(D/146097),D%146097,HS.out,by first|rfl|(congr 1;omega),by first|rfl|(congr 1;omega),hb⟩
 case round=>
  clear hb HS;obtain⟨k,r,hk,rfl,rfl,hb⟩:=hrel;have hk2:=yr_in D k r z3 hk;have CD:=hid (fun W=>pdoy_any k (1970+k) W rfl (by omega));have zk:=ylen_le k;obtain⟨yl,z0⟩:∃ yl,ylen k=yl:=⟨_,rfl⟩;rw[z0]at CD zk;have z6:=hid z0;have HK:=hid hk;have hr9:r≤2932896:=by omega
  obtain⟨y,hy⟩:∃ y,1970+k=y:=⟨_,rfl⟩;have hy9:y≤10000:=by omega
  have HY:=hid hy;rw[hy]at CD ⊢;clear z0 hk hy;by_cases hge:yl≤r
  ·have zi:decide ((yl:Int)≤(r:Int))=true:=by simp;omega
   have zg:Hid (qbP (k+1)+(r-yl)=D):=hid (by rw[qbP,z6.out];have:=HK.out;omega);clear HK;go_wp2_with fail;refine (CD.out _).mono ?_;rintro ee W1⟨rfl,bk⟩;replace hb:=bws hb bk;clear bk;go_wp2_with fail;refine (CD.out _).mono ?_;rintro ee W2⟨rfl,bk⟩;replace hb:=bws hb bk;clear bk CD;go_wp2_with fail;go_roundw
   case rel=>exact⟨k+1,r-yl,zg.out,by first|(congr 1;unfold wrap64;omega)|(congr 1;omega),by first|rfl|(have:=HY.out;congr 1;(try unfold wrap64);omega),hb⟩
   case measure=>simp[intOf];(try unfold wrap64);omega
  ·have zi:decide ((yl:Int)≤(r:Int))=false:=by simp;omega
   have z2:Hid (yrOf D=(k,r)):=hid (yr_of D k r z3 HK.out (by rw[z6.out];omega));have zf:Hid (∀ j e,qbv (qaJ y) j+e=r→j<12):=hid (fun j e h=>mo_in D j e z3 (by rw[z2.out];simp only;rw[HY.out];exact h));have zb:=hid (fun (j:Nat) (hj:j<12) (m:Int) (hm:m=(j:Int)+1) W=>pmon_any y j W (by omega) hj m hm);obtain⟨lp,z9⟩:∃ lp,qaJ y=lp:=⟨_,rfl⟩;rw[z9]at zb zf;have zc:=hid z9;clear z9 HK z6;go_wp2_with fail;refine (CD.out _).mono ?_;rintro ee W1⟨rfl,bk⟩;replace hb:=bws hb bk;clear bk CD;go_wp2_with fail
   go_loopw [0,6] (fun dv mv wr=>∃ (j e:Nat),qbv lp j+e=r∧dv=.int .i64 (e:Int)∧mv=.int .i64 ((j:Int)+1)∧Below w.heap.size w wr) (fun dv _ _=>(intOf dv).toNat)
   case atStart=>exact⟨0,r,by show 0+r=r;omega,rfl,rfl,hb⟩
   case round=>
    clear hb;obtain⟨j,e,z8,rfl,rfl,hb⟩:=hrel;have z1:=zf.out j e z8;have CM:=hid (zb.out j z1 ((j:Int)+1) rfl);have zj:=qdY lp j;have zd:Hid (28≤mlen lp j):=hid (mlen_ge lp j z1);obtain⟨ml,za⟩:∃ ml,mlen lp j=ml:=⟨_,rfl⟩;rw[za]at CM zj zd;have ze:=hid za;have z4:=hid z8;have he4:e≤2932896:=by omega
    clear za z8;by_cases hge2:ml≤e
    ·have z7:decide ((ml:Int)≤(e:Int))=true:=by simp;omega
     have z5:Hid (qbv lp (j+1)+(e-ml)=r):=hid (by rw[qbv,ze.out];have:=z4.out;omega);have hme:28≤ml:=zd.out;clear z4;go_wp2_with fail;refine (CM.out _).mono ?_;rintro ee W3⟨rfl,bk⟩;replace hb:=bws hb bk;clear bk;go_wp2_with fail;refine (CM.out _).mono ?_;rintro ee W4⟨rfl,bk⟩;replace hb:=bws hb bk;clear bk CM;go_wp2_with fail;go_roundw
     case rel=>exact⟨j+1,e-ml,z5.out,by first|(congr 1;unfold wrap64;omega)|(congr 1;omega),by first|(congr 1;unfold wrap64;omega)|(congr 1;omega)|rfl,hb⟩
     case measure=>simp[intOf];(try unfold wrap64);omega
    ·have z7:decide ((ml:Int)≤(e:Int))=false:=by simp;omega
     have zh:Hid (moOf D=(j,e)):=hid (mo_of D j e z3 (by rw[z2.out];simp only;rw[HY.out,zc.out];exact z4.out) (by rw[z2.out];simp only;rw[HY.out,zc.out,ze.out];omega));go_wp2_with fail;refine (CM.out _).mono ?_;rintro ee W3⟨rfl,bk⟩;replace hb:=bws hb bk;clear bk CM;go_wp2_with fail;go_ret3;exact⟨by rw[z2.out,zh.out,← HY.out];first|rfl|(simp only;rfl),hb⟩
theorem below_grow(w:World)(q:Nat)(os:Array Obj):Below w.heap.size w (grow (w.drewN q) os):=
 ⟨rfl,rfl,rfl,by first|(simp[grow];done)|(simp[grow];omega),fun i hi=>by
  show ((w.drewN q).heap++os)[i]?=_;rw[Array.getElem?_append_left (by show i<w.heap.size;omega)]
  rfl⟩
theorem pItoa_any(n:Nat)(w:World)(hn:n≤1000000)(hQ:PowQ w):Rt 102 #[.int .i64 (n:Int)] w (.string ⟨(Lib.decDigits n).toArray⟩):=by
 unfold Rt;refine (Tryz.strconv_Itoa (n:Int) (by omega) (by omega) w hQ).mono ?_;rintro e w' ⟨rfl,k,os,rfl⟩;exact⟨by rw[Lib.itoa_nonneg],below_grow w k os⟩
theorem pdigits_any(k n:Nat)(w:World)(hk:k≤10)(hn:n<10^(k+1))(z0:n≤1000000)(hQ:PowQ w):Rt 49 #[.int .i64 ((k+1:Nat):Int),.int .i64 (n:Int)] w (.string ⟨(digL (k+1) n).toArray⟩):=by
 unfold Rt;obtain⟨hl,hd⟩:=dec_dig k n hn;have CI:=hid (pItoa_any n w z0 hQ);have hb:=Below.refl w.heap.size w;obtain⟨S,hS⟩:∃ S:ByteArray,(⟨(Lib.decDigits n).toArray⟩:ByteArray)=S:=⟨_,rfl⟩;have z1:S.size=(Lib.decDigits n).length:=by rw[← hS];exact List.size_toArray
 rw[hS]at CI;rw[← z1]at hl hd;obtain⟨c,hc⟩:∃ c,k+1-S.size=c:=⟨_,rfl⟩;have hc2:c≤20:=by omega
 have CR:=hid (fun W=>Tryz.strings_Repeat ⟨#[48]⟩ c W (by omega) (by show 1*c≤_;omega));have HE:Hid (Lib.repeatL (⟨#[48]⟩:ByteArray).data.toList c=List.replicate c 48):=hid (by
  have h:=Lib.repeatL_replicate 48 1 c;rw[Nat.mul_one]at h;exact h)
 rw[HE.out]at CR;obtain⟨R,hR⟩:∃ R:ByteArray,(⟨(List.replicate c 48).toArray⟩:ByteArray)=R:=⟨_,rfl⟩;have z2:R.size=c:=by rw[← hR];show (List.replicate c 48).length=c;exact List.length_replicate
 rw[hR]at CR;have HV:Hid ((⟨(digL (k+1) n).toArray⟩:ByteArray)=R++S):=hid (by
  apply ByteArray.ext;apply Array.toList_inj.1;rw[ByteArray.data_append,Array.toList_append,← hR,← hS];show digL (k+1) n=List.replicate c 48++Lib.decDigits n;rw[← hd,hc])
 have e1:((k+1:Nat):Int)-(S.size:Int)=(c:Int):=by omega
 have hs2:S.size≤20:=by omega
 have k1:R.size+S.size≤9223372036854775807:=by omega
 have hk2:k+1≤20:=by omega
 generalize k+1=kk at *;clear z2 hR z1 hS hd hl hc hn z0 hQ HE hk;go_enter func49,ntmps49;go_wp2_with fail;refine CI.out.mono ?_;rintro ee W1⟨rfl,bk⟩;replace hb:=bws hb bk;clear bk CI;go_wp2_with fail
 try rw[e1]
 refine (CR.out _).mono ?_;rintro ee W2⟨rfl,bk⟩;replace hb:=bws hb bk;clear bk CR;go_wp2_with fail;go_ret;exact⟨by rw[HV.out];rfl,hb⟩
theorem qfs(z:Int)(w:World)(h0:0≤z)(h1:z<100)(hQ:PowQ w):Rt 49 #[.int .i64 2,.int .i64 z] w (.string (dgB 2 z)):=by
 unfold Rt;have h:=pdigits_any 1 z.toNat w (by omega) (by show z.toNat<100;omega) (by omega) hQ;rwa[show ((z.toNat:Nat):Int)=z by omega]at h
theorem pdig4_any(z:Int)(w:World)(h0:0≤z)(h1:z<10000)(hQ:PowQ w):Rt 49 #[.int .i64 4,.int .i64 z] w (.string (dgB 4 z)):=by
 unfold Rt;have h:=pdigits_any 3 z.toNat w (by omega) (by show z.toNat<10000;omega) (by omega) hQ;rwa[show ((z.toNat:Nat):Int)=z by omega]at h
theorem qfG(N:Nat)(w:World)(hN:N≤253402300799)(hQ:PowQ w):Rt 24 #[.int .i64 (N:Int)] w (.string (timB N)):=by
 unfold Rt;have hb:=Below.refl w.heap.size w;obtain⟨D,hD⟩:∃ D,N/86400=D:=⟨_,rfl⟩;have za:(N:Int)/86400=(D:Int):=by omega
 have z0:D≤2932896:=by omega
 have CD:=hid (pdate_any D w z0);obtain⟨sv,z8⟩:∃ sv:Int,(N:Int)%86400=sv:=⟨_,rfl⟩;have hs0:0≤sv∧sv<86400:=by omega
 obtain⟨⟨k,r⟩,hy⟩:∃ p,yrOf D=p:=⟨_,rfl⟩;obtain⟨⟨j,e⟩,hm⟩:∃ p,moOf D=p:=⟨_,rfl⟩;obtain⟨_,_,q3⟩:=qdS D z0;obtain⟨_,m2,m3⟩:=qe5 D z0;have m4:=qdY (qaJ (1970+(yrOf D).1)) (moOf D).1;rw[hy]at q3;rw[hm]at m3 m2 m4;rw[hy,hm]at CD;simp only at q3 m2 m3 m4 CD;have he:e<31:=by omega
 have z7:=qgQ N k r j e hN (by rw[hD];exact hy) (by rw[hD];exact hm);rw[z8]at z7;obtain⟨y,zb⟩:∃ y,1970+k=y:=⟨_,rfl⟩;rw[zb]at z7 CD;have hy9:y≤9999:=by omega
 have z9:=hid z7;have HQ:=hid hQ;have C1:=hid (fun W q=>pdig4_any (y:Int) W (by omega) (by omega) q);have C2:=hid (fun W q=>qfs ((j:Int)+1) W (by omega) (by omega) q);have C3:=hid (fun W q=>qfs ((e:Int)+1) W (by omega) (by omega) q);rw[show (e:Int)+1=1+(e:Int) by omega]at C3 z9;have C4:=hid (fun W q=>qfs (sv/3600) W (by omega) (by omega) q);have C5:=hid (fun W q=>qfs (sv/60%60) W (by omega) (by omega) q);have C6:=hid (fun W q=>qfs (sv%60) W (by omega) (by omega) q);have z1:=qbM 4 (y:Int);have z2:=qbM 2 ((j:Int)+1);have z3:=qbM 2 (1+(e:Int));have z4:=qbM 2 (sv/3600);have z5:=qbM 2 (sv/60%60);have z6:=qbM 2 (sv%60);generalize dgB 4 (y:Int)=A1 at *;generalize dgB 2 ((j:Int)+1)=A2 at *;generalize dgB 2 (1+(e:Int))=A3 at *;generalize dgB 2 (sv/3600)=A4 at *;generalize dgB 2 (sv/60%60)=A5 at *;generalize dgB 2 (sv%60)=A6 at *;have k1:A1.size+A2.size≤9223372036854775807:=by omega
 have k2:A1.size+A2.size+A3.size≤9223372036854775807:=by omega
 have k3:A1.size+A2.size+A3.size+A4.size≤9223372036854775807:=by omega
 have k4:A1.size+A2.size+A3.size+A4.size+A5.size≤9223372036854775807:=by omega
 have k5:A1.size+A2.size+A3.size+A4.size+A5.size+A6.size≤9223372036854775807:=by omega
 have k6:A1.size+A2.size+A3.size+A4.size+A5.size+A6.size+1≤9223372036854775807:=by omega
 have hj:j<12:=m3;clear z1 z2 z3 z4 z5 z6 z7 zb hm hy hD z0 q3 m2 m3 m4 hQ;go_enter func24,ntmps24;go_wp2_with fail
 try rw[za]
 refine CD.out.mono ?_;rintro ee W0⟨rfl,bk⟩;replace hb:=bws hb bk;replace HQ:=hid (HQ.out.step bk);clear bk CD;go_wp2_with fail
 try rw[z8]
 clear za z8;refine (C1.out _ HQ.out).mono ?_;rintro ee W1⟨rfl,bk⟩;replace hb:=bws hb bk;replace HQ:=hid (HQ.out.step bk);clear bk C1;go_wp2_with fail;refine (C2.out _ HQ.out).mono ?_;rintro ee W2⟨rfl,bk⟩;replace hb:=bws hb bk;replace HQ:=hid (HQ.out.step bk);clear bk C2;go_wp2_with fail;refine (C3.out _ HQ.out).mono ?_;rintro ee W3⟨rfl,bk⟩;replace hb:=bws hb bk;replace HQ:=hid (HQ.out.step bk);clear bk C3;go_wp2_with fail;refine (C4.out _ HQ.out).mono ?_;rintro ee W4⟨rfl,bk⟩;replace hb:=bws hb bk;replace HQ:=hid (HQ.out.step bk);clear bk C4;go_wp2_with fail;refine (C5.out _ HQ.out).mono ?_;rintro ee W5⟨rfl,bk⟩;replace hb:=bws hb bk;replace HQ:=hid (HQ.out.step bk);clear bk C5;go_wp2_with fail;refine (C6.out _ HQ.out).mono ?_;rintro ee W6⟨rfl,bk⟩;replace hb:=bws hb bk;replace HQ:=hid (HQ.out.step bk);clear bk C6;go_wp2_with fail;go_ret;exact⟨by rw[z9.out];first|rfl|(congr 2),hb⟩
theorem ptime_any(n:Int)(w:World)(h0:-9223372036854775808≤n)(h1:n≤9223372036854775807)(hQ:PowQ w):Rt 10 #[.int .i64 n] w (.tuple #[.string (timX n),.int .i64 (timE n)]):=by
 unfold Rt;have hb:=Below.refl w.heap.size w;have CT:=hid (qgq n w);have HQ:=hid hQ
 cases ht:isTm n with
 | true=>
  obtain⟨n0,n1⟩:=(qdN n).1 ht;obtain⟨N,rfl⟩:∃ N:Nat,n=(N:Int):=⟨n.toNat,by omega⟩;have HX:Hid (timX (N:Int)=timB N∧timE (N:Int)=0):=hid ⟨by rw[timX,if_pos ht];rfl,if_pos ht⟩;have CS:=hid (fun W q=>qfG N W (by omega) q);rw[ht]at CT;clear ht n0 n1 h0 h1 hQ;go_enter func10,ntmps10;go_wp2_with fail;refine CT.out.mono ?_;rintro ee W1⟨rfl,bk⟩;replace hb:=bws hb bk;replace HQ:=hid (HQ.out.step bk);clear bk CT;go_wp2_with fail;refine (CS.out _ HQ.out).mono ?_;rintro ee W2⟨rfl,bk⟩;replace hb:=bws hb bk;clear bk CS;go_wp2_with fail;go_ret2;exact⟨by rw[HX.out.1,HX.out.2];rfl,hb⟩
 | false=>
  have HX:Hid (timX n=⟨#[]⟩∧timE n=1):=hid ⟨by rw[timX,ht];rfl,by rw[timE,ht];rfl⟩;rw[ht]at CT;clear ht h0 h1 hQ;go_enter func10,ntmps10;go_wp2_with fail;refine CT.out.mono ?_;rintro ee W1⟨rfl,bk⟩;replace hb:=bws hb bk;clear bk CT;go_wp2_with fail;go_ret2;exact⟨by rw[HX.out.1,HX.out.2];rfl,hb⟩
theorem psearch_any(g:Nat)(cb:Array Value)(n:Nat)(p:Nat→Bool)(w:World)(eg:∀ z0 w,(callFunc g z0).run Tryz.prog w=.ok (.enter g z0) w)(hn:n<4611686018427387904)
  (hf:∀ (W:World) (i:Nat),Below w.heap.size w W→i<n→Calls Tryz.prog g (#[.int .i64 (i:Int)]++cb) W fun e w'=>e=.returned (.bool (p i))∧Below W.heap.size W w') :
  Calls Tryz.prog 123 #[.int .i64 (n:Int),.func (.func g) #[] cb] w fun e w'=>∃ r:Nat,e=.returned (.int .i64 (r:Int))∧r≤n∧(∀ m,m≤n→(∀ h,h<n→p h=decide (m≤h))→r=m)∧Below w.heap.size w w':=by
 have HF:=hid hf;have hb:=Below.refl w.heap.size w;clear hf;go_enter func123,ntmps123;go_wp2_with fail
 go_loopw [5,6] (fun a b wr=>∃ (lo hi:Nat),a=.int .i64 (lo:Int)∧b=.int .i64 (hi:Int)∧lo≤hi∧hi≤n∧Below w.heap.size w wr∧
  Hid (∀ m,m≤n→(∀ h,h<n→p h=decide (m≤h))→lo≤m∧m≤hi)) (fun a b _=>(intOf b).toNat-(intOf a).toNat)
 case atStart=>exact⟨0,n,rfl,rfl,Nat.zero_le _,jlr _,hb,hid (fun m hm _=>⟨Nat.zero_le _,hm⟩)⟩
 case round=>
  clear hb;obtain⟨lo,hi,rfl,rfl,hlh,z1,hb,I⟩:=hrel;by_cases hlt:lo<hi
  ·have hc:=hid (HF.out wr ((lo+hi)/2) hb (by omega));rw[show (((lo+hi)/2:Nat):Int)=((lo:Int)+(hi:Int))/2 by omega]at hc
   cases hp:p ((lo+hi)/2)<;>rw[hp]at hc
   ·have I2:Hid (∀ m,m≤n→(∀ h,h<n→p h=decide (m≤h))→(lo+hi)/2+1≤m∧m≤hi):=hid (fun m hm hh=>by
     have a:=hh ((lo+hi)/2) (by omega);have b:=I.out m hm hh;rw[hp]at a;have:=of_decide_eq_false a.symm;omega)
    clear hp I;go_wp2_with (go_at_fn g;refine hc.out.mono ?_;rintro ee W1⟨rfl,bk⟩;replace hb:=bws hb bk;clear bk);go_roundw
    case rel=>exact⟨(lo+hi)/2+1,hi,by first|rfl|(congr 1;done)|(congr 1;omega)|(congr 1;unfold wrap64;omega),rfl,by omega,z1,hb,I2⟩
    case measure=>simp[intOf];(try unfold wrap64);omega
   ·have I2:Hid (∀ m,m≤n→(∀ h,h<n→p h=decide (m≤h))→lo≤m∧m≤(lo+hi)/2):=hid (fun m hm hh=>by
     have a:=hh ((lo+hi)/2) (by omega);have b:=I.out m hm hh;rw[hp]at a;have:=of_decide_eq_true a.symm;omega)
    clear hp I;go_wp2_with (go_at_fn g;refine hc.out.mono ?_;rintro ee W1⟨rfl,bk⟩;replace hb:=bws hb bk;clear bk);go_roundw
    case rel=>exact⟨lo,(lo+hi)/2,rfl,by first|rfl|(congr 1;done)|(congr 1;omega)|(congr 1;unfold wrap64;omega),by omega,by omega,hb,I2⟩
    case measure=>simp[intOf];(try unfold wrap64);omega
  ·obtain rfl:hi=lo:=by omega
   go_wp2_with fail;go_ret;exact⟨hi,rfl,z1,fun m hm hh=>by have:=I.out m hm hh;omega,hb⟩
theorem geq_str(t:TypeId)(a b:ByteArray):binOp .geq t (.string a) (.string b)=pure (.bool !(Op.bytesLess a.toList b.toList)):=by simp[binOp,Op.stringOp]
theorem pcl_any(i b:Nat)(s:ByteArray)(w:World)(hi:i≤253402300799)(hQ:PowQ w)(hc:w.cell? ⟨b,0,none⟩=some (.string s)):Rt 124 #[.int .i64 (i:Int),.pointer (some ⟨b,0,none⟩)] w (.bool !(Op.bytesLess (timB i).toList s.toList)):=by
 unfold Rt;have CS:=hid (fun W q=>qfG i W hi q);have HQ:=hid hQ;have hb:=Below.refl w.heap.size w;generalize timB i=T at *;clear hi hQ;go_enter func124,ntmps124;go_wp2_with fail;refine qaA 4 8 [(Told.val (.int .i64 (i:Int)),[0]),
  (Told.val (.string T),[4]),
  (Told.val (.string s),[1]),
  (Told.val (.bool !(Op.bytesLess T.toList s.toList)),[5,6])]
  (by kernel_rfl) (by kernel_rfl) rfl ?_ ?_
 ·simp only[List.take_succ_cons,List.take_zero,qaQ,and_true];refine And.intro ?_ (And.intro ?_ (And.intro ?_ (?_)))
  ·intro a w hb h;refine qag ?_;simp[go_sem,ud0 h rfl,qaa]
  ·intro a w hb h;refine qag ?_;simp[go_sem,td0 h rfl,qaa];exact CS.out _ (HQ.out.step hb)
  ·intro a w hb h;have z0:=(hb.cell (jbc hc)).trans hc;refine qag ?_;simp[go_sem,ud0 h rfl,qaa,z0]
  ·intro a w hb h;refine qag ?_;simp[go_sem,td0 h rfl,td1 h rfl,qaa,geq_str]
 simp only[List.take_succ_cons,List.take_zero,List.drop_succ_cons,List.drop_zero,qaW,Act.put,List.setIfInBounds_toArray,List.set_cons_succ,List.set_cons_zero];rintro X bk _ rfl _ rfl _ rfl _ rfl;go_wp2_with fail;go_ret;exact⟨rfl,by first|exact bk|exact hb.trans bk⟩
theorem ptimeOf_any(s:ByteArray)(w:World)(hQ:PowQ w):Calls Tryz.prog 70 #[.string s] w fun e w'=>∃ r:Nat,e=.returned (.int .i64 (r:Int))∧r≤253402300799∧(∀ m,m≤253402300799→timB m=s→r=m)∧Below w.heap.size w w':=by
 have hb:=qaf w (.cells #[.string s] 9);have z0:(w.alloc (.cells #[.string s] 9)).cell? ⟨w.heap.size,0,none⟩=some (.string s):=by rw[jco _ w.heap.size 0 _ 9 (0,0) (qad w _)];rfl
 have z2:=hQ.step hb;have eg:∀ z1 w,(callFunc 124 z1).run Tryz.prog w=.ok (.enter 124 z1) w:=enters_of func124 (by kernel_rfl) rfl;have CS:=hid (psearch_any 124 #[.pointer (some ⟨w.heap.size,0,none⟩)] 253402300799 (fun i=>!(Op.bytesLess (timB i).toList s.toList)) _ eg (by decide)
  (fun W i hW hi=>pcl_any i w.heap.size s W (by omega) (z2.step hW) ((hW.cell (jbc z0)).trans z0)))
 have HP:Hid (∀ m,m≤253402300799→timB m=s→∀ h,h<253402300799→(!(Op.bytesLess (timB h).toList s.toList))=decide (m≤h)):=hid (fun m hm e h hh=>by
  subst e;rw[Lib.toList_data,Lib.toList_data,timB_less h m (by omega) hm];by_cases c:m≤h
  ·rw[decide_eq_true c,decide_eq_false (by omega)];rfl
  ·rw[decide_eq_false c,decide_eq_true (by omega)];rfl)
 clear z0 z2 hQ eg;generalize hp:(fun i=>!(Op.bytesLess (timB i).toList s.toList))=p at *;have z3:=hid hp;clear hp;go_enter func70,ntmps70;go_wp2_with fail;generalize (w.alloc _)=W0 at *;refine CS.out.mono ?_;rintro ee W1⟨r,rfl,hr,hm,bk⟩;replace hb:=bws hb bk;have HM:=hid hm;clear bk CS hm;go_wp2_with fail;go_ret;exact⟨r,rfl,hr,fun m h1 h2=>HM.out m h1 (fun h hh=>by first|exact HP.out m h1 h2 h hh|(rw[← z3.out];exact HP.out m h1 h2 h hh)),hb⟩
end
end Go.Proofs.YteomfleofeeofaaGreatDoor
