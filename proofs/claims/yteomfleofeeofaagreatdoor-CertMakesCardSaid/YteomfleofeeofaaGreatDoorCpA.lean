/- What the library's table of powers of ten holds; What the program takes from a certificate, by places alone: it is what a certificate was made of; days counted in rounds of 400 years; numbers with noughts ahead of them. No program; Package cert: times: isTime, isLeap, daysOfYear, daysOfMonth, dateOf, digits, stamp, Time; Package cert: the time that a text says, by halving: sort.Search, timeOf. -/
import Derived.Test.YteomfleofeeofaaGreatDoorLibs
import Derived.Test.YteomfleofeeofaaGreatDoorBase
import Derived.Lib.AppendIntMem
import Derived.Test.YteomfleofeeofaaGreatDoorCtA
import Derived.Lib.ItoaMem
import Derived.Lib.Join
import Derived.Test.YteomfleofeeofaaGreatDoorDerP
import Derived.Test.YteomfleofeeofaaGreatDoorToldG
namespace Go.Proofs.YteomfleofeeofaaGreatDoor
open Go.Lib (hid)
open _root_.Array (getD_eq_getD_getElem?)
set_option maxRecDepth 100000
set_option linter.unusedSimpArgs false
set_option linter.unusedVariables false
section
open Go.RowKit Go.Sort
def PowQ (w:World):Prop:=Lib.TabIs Tryz.prog w "internal/strconv.uint64pow10" .u64 Lib.pow10Tab
theorem PowQ.step {w w':World} (h:PowQ w) (hb:Below w.heap.size w w'):PowQ w':=(Lib.tabBelow_of_tabIs h) w' hb
end
section
def goN:Nat→ByteArray→ByteArray
 | 0,s=>s
 | k+1,s=>goN k (qbK s)
def qai:List Nat→ByteArray→ByteArray
 | [],s=>s
 | k :: p,s=>qai p (qbb (goN k s))
theorem rdRest_le (s:ByteArray):(qbK s).size≤s.size:=by
 by_cases h:qcb s=0
 ·exact Nat.le_of_lt (rd_sizes s h).2
 ·rw [qbK,if_neg (show ¬ rdE s.data.toList=0 from h)];exact Nat.zero_le _
theorem rdBody_le (s:ByteArray):(qbb s).size≤s.size:=by
 by_cases h:qcb s=0
 ·exact (rd_sizes s h).1
 ·rw [qbb,if_neg (show ¬ rdE s.data.toList=0 from h)];exact Nat.zero_le _
theorem goN_le:∀ (k:Nat) (s:ByteArray),(goN k s).size≤s.size
 | 0,s=>Nat.le_refl _
 | k+1,s=>Nat.le_trans (goN_le k _) (rdRest_le s)
theorem goN_step:∀ (k:Nat) (s:ByteArray),goN (k+1) s=qbK (goN k s)
 | 0,s=>rfl
 | k+1,s=>goN_step k (qbK s)
theorem qdo:∀ (p:List Nat) (s:ByteArray),(qai p s).size≤s.size
 | [],s=>Nat.le_refl _
 | k :: p,s=>Nat.le_trans (qdo p _) (Nat.le_trans (rdBody_le _) (goN_le k s))
theorem qd2 (tag:Int) (b r:ByteArray) (h:wrE tag b=0):qbb (wrX tag b++r)=b∧qbK (wrX tag b++r)=r:=by
 obtain ⟨_,h2,h3,_⟩:=rd_wr tag b r h;exact ⟨h2,h3⟩
theorem qeB (tag:Int) (b:ByteArray) (h:wrE tag b=0):qbb (wrX tag b)=b:=by
 have:=(qd2 tag b qcn h).1
 have e:wrX tag b++qcn=wrX tag b:=ByteArray.append_empty;rwa [e] at this
def qd3 (s:ByteArray):ByteArray:=⟨(Lib.trimPrefix s.data.toList [0]).toArray⟩
theorem trimZ_zero (s:ByteArray):qd3 (qay++s)=s:=by
 have e:(qay++s).data.toList=0 :: s.data.toList:=by rw [ByteArray.data_append,Array.toList_append];rfl
 rw [qd3,e]
 apply ByteArray.ext
 apply Array.toList_inj.1
 show Lib.trimPrefix (0 :: s.data.toList) [0]=_
 rw [Lib.trimPrefix,if_pos (by simp [Lib.hasPrefix])]
 rfl
theorem trimZ_le (s:ByteArray):(qd3 s).size≤s.size:=by
 have h:=Lib.trimPrefix_le s.data.toList [0];rw [Lib.size_eq s];exact h
theorem find_who (c:CertF) (sig:ByteArray) (hn:c.nm.size≤1000) (hk:c.key.size=32) (hs:sig.size=64) :
  qai [0,0,0] (whoB (innB c) sig)=intB c.ser∧qai [2,0,0,1] (qai [0,0] (whoB (innB c) sig))=c.nm∧qai [0] (qai [3] (qai [0,0] (whoB (innB c) sig)))=timX c.fr∧qai [1] (qai [3] (qai [0,0] (whoB (innB c) sig)))=timX c.to∧
  qai [5,1] (qai [0,0] (whoB (innB c) sig))=qay++c.key∧qai [2] (qai [0] (whoB (innB c) sig))=qay++sig:=by
 obtain ⟨s1,s2,s3,s4,s5,s6,s7⟩:=qc1 c;obtain ⟨n1,n2,n3,n4⟩:=qdy c.nm
 have ha:algB.size=7:=by rw [qej];rfl
 have z1:=qcG sig;have w1:=qcj 3 (qay++sig);have t1:=qcV c.fr;have t2:=qcV c.to
 have T:∀ t:Int,t=48∨t=49∨t=24∨t=12∨t=3∨t=2∨t=6→isT t=true:=fun t h=>by
  rcases h with rfl | rfl | rfl | rfl | rfl | rfl | rfl <;> decide
 have e1:qbb (whoB (innB c) sig)=innB c++(algB++wrX 3 (qay++sig)):=by
  rw [whoB,ByteArray.append_assoc]
  exact qeB 48 _ (qbN 48 _ (by rw [ByteArray.size_append,ByteArray.size_append];omega) (T 48 (by simp)))
 obtain ⟨e2,f2⟩:=qd2 48 (wrX 2 (intB c.ser)++algB++qaB c.nm++valB c++qaB c.nm++keyB c) (algB++wrX 3 (qay++sig)) (qbN 48 _ (by omega) (T 48 (by simp)))
 obtain ⟨_,f3⟩:=qd2 48 (oidX [1,3,101,112]) (wrX 3 (qay++sig)) (by decide)
 have e4:qbb (wrX 3 (qay++sig))=qay++sig:=qeB 3 _ (qbN 3 _ (by omega) (T 3 (by simp)))
 obtain ⟨e5,f5⟩:=qd2 2 (intB c.ser) (algB++(qaB c.nm++(valB c++(qaB c.nm++keyB c)))) (int_wr _)
 obtain ⟨_,f6⟩:=qd2 48 (oidX [1,3,101,112]) (qaB c.nm++(valB c++(qaB c.nm++keyB c))) (by decide)
 obtain ⟨e7,f7⟩:=qd2 48 (wrX 49 (wrX 48 (oidX [2,5,4,3]++wrX 12 c.nm))) (valB c++(qaB c.nm++keyB c)) (qbN 48 _ (by omega) (T 48 (by simp)))
 have e8:qbb (wrX 49 (wrX 48 (oidX [2,5,4,3]++wrX 12 c.nm)))=wrX 48 (oidX [2,5,4,3]++wrX 12 c.nm):=qeB 49 _ (qbN 49 _ (by omega) (T 49 (by simp)))
 have e9:qbb (wrX 48 (oidX [2,5,4,3]++wrX 12 c.nm))=oidX [2,5,4,3]++wrX 12 c.nm:=qeB 48 _ (qbN 48 _ (by omega) (T 48 (by simp)))
 have f10:qbK (oidX [2,5,4,3]++wrX 12 c.nm)=wrX 12 c.nm:=by
  rw [oid_name]
  exact (qd2 6 _ _ (by decide)).2
 have e11:qbb (wrX 12 c.nm)=c.nm:=qeB 12 _ (qbN 12 _ (by omega) (T 12 (by simp)))
 obtain ⟨e12,f12⟩:=qd2 48 (wrX 24 (timX c.fr)++wrX 24 (timX c.to)) (qaB c.nm++keyB c) (qbN 48 _ (by omega) (T 48 (by simp)))
 obtain ⟨e13,f13⟩:=qd2 24 (timX c.fr) (wrX 24 (timX c.to)) (qbN 24 _ (by omega) (T 24 (by simp)))
 have e14:qbb (wrX 24 (timX c.to))=timX c.to:=qeB 24 _ (qbN 24 _ (by omega) (T 24 (by simp)))
 obtain ⟨_,f15⟩:=qd2 48 (wrX 49 (wrX 48 (oidX [2,5,4,3]++wrX 12 c.nm))) (keyB c) (qbN 48 _ (by omega) (T 48 (by simp)))
 have e16:qbb (keyB c)=algB++wrX 3 (qay++c.key):=qeB 48 _ (qbN 48 _ (by omega) (T 48 (by simp)))
 obtain ⟨_,f17⟩:=qd2 48 (oidX [1,3,101,112]) (wrX 3 (qay++c.key)) (by decide)
 have e18:qbb (wrX 3 (qay++c.key))=qay++c.key:=qeB 3 _ (qbN 3 _ (by omega) (T 3 (by simp)))
 have hi:innB c=wrX 48 (wrX 2 (intB c.ser)++algB++qaB c.nm++valB c++qaB c.nm++keyB c):=rfl;have hal:algB=wrX 48 (oidX [1,3,101,112]):=rfl;have hnm:qaB c.nm=wrX 48 (wrX 49 (wrX 48 (oidX [2,5,4,3]++wrX 12 c.nm))):=rfl;have hv:valB c=wrX 48 (wrX 24 (timX c.fr)++wrX 24 (timX c.to)):=rfl;rw [← hi] at e2 f2;rw [← hal] at f3 f6 f17;rw [← hnm] at e7 f7 f15;rw [← hv] at e12 f12
 have g2:qbb (innB c++(algB++wrX 3 (qay++sig)))=wrX 2 (intB c.ser)++(algB++(qaB c.nm++(valB c++(qaB c.nm++keyB c)))):=by
  rw [e2,ByteArray.append_assoc,ByteArray.append_assoc,ByteArray.append_assoc,ByteArray.append_assoc]
 simp only [qai,goN,e1,g2,f2,f3,e4,e5,f5,f6,e7,f7,e8,e9,f10,e11,e12,f12,e13,f13,e14,f15,e16,f17,e18,and_self]
theorem ydays_round (q:Nat):qbD (400*q)=146097*q:=by
 have h:=qdN (400*q) (1969+400*q) rfl
 omega
theorem ydays_start (day:Nat):qbD (400*(day / 146097))+day%146097=day:=by
 rw [ydays_round]
 omega
theorem mo_in (day j r:Nat) (h:day≤2932896) (h1:qbg (qat (1970+(yrOf day).1)) j+r=(yrOf day).2):j<12:=by
 obtain ⟨_,b,_⟩:=qdl day h;rw [← qeN] at b
 rcases Nat.lt_or_ge j 12 with c | c
 ·exact c
 ·have:=qdW (qat (1970+(yrOf day).1)) 12 j c
  omega
theorem yr_in (day k r:Nat) (h:day≤2932896) (h1:qbD k+r=day):k≤8029:=by
 rcases Nat.lt_or_ge k 8030 with c | c
 ·omega
 ·have m:=qdw 8030 k c
  have v:=qdN 8030 9999 rfl
  omega
theorem dec_dig:∀ (k n:Nat),n<10^(k+1)→(Lib.decDigits n).length≤k+1∧List.replicate (k+1-(Lib.decDigits n).length) 48++Lib.decDigits n=digL (k+1) n
 | 0,n,h=>by
  have hn:n<10:=by simpa using h
  rw [Lib.decDigits,dif_pos hn]
  refine ⟨Nat.le_refl _,?_⟩
  show []++[UInt8.ofNat (48+n)]=[]++[UInt8.ofNat (48+n%10)]
  rw [Nat.mod_eq_of_lt hn]
 | k+1,n,h=>by
  by_cases hn:n<10
  ·have z:=dec_dig k 0 (Nat.pos_of_ne_zero (by simp))
   have hd:Lib.decDigits 0=[48]:=by rw [Lib.decDigits,dif_pos (by omega)];rfl
   rw [hd] at z;rw [Lib.decDigits,dif_pos hn]
   refine ⟨by simp,?_⟩
   rw [digL,Nat.div_eq_of_lt hn,Nat.mod_eq_of_lt hn,← z.2]
   simp [List.replicate_succ']
  ·rw [Nat.pow_succ] at h
   obtain ⟨a,b⟩:=dec_dig k (n / 10) (by omega)
   have hd:Lib.decDigits n=Lib.decDigits (n / 10)++[UInt8.ofNat (48+n%10)]:=by
    rw [Lib.decDigits,dif_neg hn]
   rw [hd,digL,← b,List.length_append]
   refine ⟨by simp;omega,?_⟩
   rw [show k+1+1-((Lib.decDigits (n / 10)).length+[UInt8.ofNat (48+n%10)].length)=k+1-(Lib.decDigits (n / 10)).length by simp,List.append_assoc]
def catB (l:List ByteArray):ByteArray:=⟨(l.map (·.data.toList)).flatten.toArray⟩
theorem catB_join (l:List ByteArray):(⟨(Lib.join (l.map (·.data.toList)) []).toArray⟩:ByteArray)=catB l:=by
 rw [catB]
 congr 2
 show [].intercalate (l.map (·.data.toList))=_
 generalize l.map (·.data.toList)=m
 induction m with
 | nil=>rfl
 | cons x r ih=>
  cases r with
  | nil=>simp [List.intercalate,List.intersperse]
  | cons y r=>
   simp [List.intercalate,List.intersperse] at ih ⊢
   exact ih
theorem qcf (x:ByteArray) (l:List ByteArray):catB (x :: l)=x++catB l:=by
 apply ByteArray.ext
 apply Array.toList_inj.1
 rw [ByteArray.data_append,Array.toList_append]
 rfl
theorem qbZ (x:ByteArray):catB [x]=x:=by
 apply ByteArray.ext
 apply Array.toList_inj.1
 show (([x].map (·.data.toList)).flatten)=_
 simp
end
section
open Go.RowKit Go.Sort
theorem qfG (n:Int) (w:World):Calls Tryz.prog 23 #[.int .i64 n] w fun e w'=>e=.returned (.bool (isTm n))∧Below w.heap.size w w':=by
 have hb:=Below.refl w.heap.size w
 by_cases h0:0≤n
 ·have d0:decide (0≤n)=true:=decide_eq_true h0
  by_cases h1:n≤253402300799
  ·have d1:decide (n≤253402300799)=true:=decide_eq_true h1
   rw [isTm,d0,d1]
   go_enter Tryz.func23,Tryz.ntmps23
   go_wp2_with fail
   go_ret
   exact ⟨rfl,hb⟩
  ·have d1:decide (n≤253402300799)=false:=decide_eq_false h1
   rw [isTm,d0,d1]
   go_enter Tryz.func23,Tryz.ntmps23
   go_wp2_with fail
   go_ret
   exact ⟨rfl,hb⟩
 ·have d0:decide (0≤n)=false:=decide_eq_false h0
  rw [isTm,d0,Bool.false_and]
  go_enter Tryz.func23,Tryz.ntmps23
  go_wp2_with fail
  go_ret
  exact ⟨rfl,hb⟩
theorem pisLeap_any (y:Nat) (w:World) (hy:y≤100000):Calls Tryz.prog 163 #[.int .i64 (y:Int)] w fun e w'=>e=.returned (.bool (qat y))∧Below w.heap.size w w':=by
 have hb:=Below.refl w.heap.size w
 by_cases h4:y%4=0
 ·have d4:((y:Int)%4==0)=true:=by simp;omega
  by_cases h1:y%100=0
  ·have d1:((y:Int)%100 != 0)=false:=by simp;omega
   by_cases h2:y%400=0
   ·have d2:((y:Int)%400==0)=true:=by simp;omega
    have HL:Hid (qat y=true):=hid ((qcs y).2 (by omega))
    clear h4 h1 h2
    go_enter Tryz.func163,Tryz.ntmps163
    go_wp2_with fail
    go_ret
    exact ⟨by rw [HL.out];rfl,hb⟩
   ·have d2:((y:Int)%400==0)=false:=by simp;omega
    have HL:Hid (qat y=false):=hid (by rw [← Bool.not_eq_true,qcs];omega)
    clear h4 h1 h2
    go_enter Tryz.func163,Tryz.ntmps163
    go_wp2_with fail
    go_ret
    exact ⟨by rw [HL.out];rfl,hb⟩
  ·have d1:((y:Int)%100 != 0)=true:=by simp;omega
   have HL:Hid (qat y=true):=hid ((qcs y).2 (by omega))
   clear h4 h1
   go_enter Tryz.func163,Tryz.ntmps163
   go_wp2_with fail
   go_ret
   exact ⟨by rw [HL.out];rfl,hb⟩
 ·have d4:((y:Int)%4==0)=false:=by simp;omega
  by_cases h2:y%400=0
  ·exact absurd h2 (by omega)
  ·have d2:((y:Int)%400==0)=false:=by simp;omega
   have HL:Hid (qat y=false):=hid (by rw [← Bool.not_eq_true,qcs];omega)
   clear h4 h2
   go_enter Tryz.func163,Tryz.ntmps163
   go_wp2_with fail
   go_ret
   exact ⟨by rw [HL.out];rfl,hb⟩
theorem pdoy_any (k y:Nat) (w:World) (hy:y=1970+k) (hk:k≤9000):Calls Tryz.prog 100 #[.int .i64 (y:Int)] w fun e w'=>e=.returned (.int .i64 ((ylen k:Nat):Int))∧Below w.heap.size w w':=by
 have C:=hid (fun W=>pisLeap_any y W (by omega))
 have hv:ylen k=if qat y=true then 366 else 365:=by rw [ylen,hy]
 have hb:=Below.refl w.heap.size w
 cases hl:qat y with
 | true=>
  rw [hl] at C hv;have HV:=hid hv;clear hv hl hy hk
  go_enter Tryz.func100,Tryz.ntmps100
  go_wp2_with fail
  refine (C.out _).mono ?_
  rintro ee W1 ⟨rfl,bk⟩;replace hb:=hb.trans (bk.mono hb.size);clear bk C
  go_wp2_with fail
  go_ret
  exact ⟨by rw [HV.out];rfl,hb⟩
 | false=>
  rw [hl] at C hv;have HV:=hid hv;clear hv hl hy hk
  go_enter Tryz.func100,Tryz.ntmps100
  go_wp2_with fail
  refine (C.out _).mono ?_
  rintro ee W1 ⟨rfl,bk⟩;replace hb:=hb.trans (bk.mono hb.size);clear bk C
  go_wp2_with fail
  go_ret
  exact ⟨by rw [HV.out];rfl,hb⟩
theorem pmon_any (y j:Nat) (w:World) (hy:y≤100000) (hj:j<12) (m:Int) (hm:m=(j:Int)+1):Calls Tryz.prog 101 #[.int .i64 (y:Int),.int .i64 m] w fun e w'=>e=.returned (.int .i64 ((mlen (qat y) j:Nat):Int))∧Below w.heap.size w w':=by
 have hb:=Below.refl w.heap.size w
 by_cases h1:j=1
 ·subst h1
  obtain rfl:m=2:=by omega
  have C:=hid (fun W=>pisLeap_any y W hy)
  have hv:mlen (qat y) 1=if qat y=true then 29 else 28:=by cases qat y <;> rfl
  clear hm hj hy
  cases hl:qat y with
  | true=>
   rw [hl] at C hv;have HV:=hid hv;clear hv hl
   go_enter Tryz.func101,Tryz.ntmps101
   go_wp2_with fail
   refine (C.out _).mono ?_
   rintro ee W1 ⟨rfl,bk⟩;replace hb:=hb.trans (bk.mono hb.size);clear bk C
   go_wp2_with fail
   go_ret
   exact ⟨by rw [HV.out];rfl,hb⟩
  | false=>
   rw [hl] at C hv;have HV:=hid hv;clear hv hl
   go_enter Tryz.func101,Tryz.ntmps101
   go_wp2_with fail
   refine (C.out _).mono ?_
   rintro ee W1 ⟨rfl,bk⟩;replace hb:=hb.trans (bk.mono hb.size);clear bk C
   go_wp2_with fail
   go_ret
   exact ⟨by rw [HV.out];rfl,hb⟩
 ·match j,hj,h1 with
  | 1,_,h=>exact absurd rfl h
  | 0,_,_=>
   obtain rfl:m=1:=by omega
   have HV:Hid (mlen (qat y) 0=31):=hid (by rw [mlen,if_neg (by omega)];rfl)
   clear hm hj hy
   go_enter Tryz.func101,Tryz.ntmps101
   go_wp2_with fail
   go_ret
   exact ⟨by rw [HV.out];rfl,hb⟩
  | 2,_,_=>
   obtain rfl:m=3:=by omega
   have HV:Hid (mlen (qat y) 2=31):=hid (by rw [mlen,if_neg (by omega)];rfl)
   clear hm hj hy
   go_enter Tryz.func101,Tryz.ntmps101
   go_wp2_with fail
   go_ret
   exact ⟨by rw [HV.out];rfl,hb⟩
  | 3,_,_=>
   obtain rfl:m=4:=by omega
   have HV:Hid (mlen (qat y) 3=30):=hid (by rw [mlen,if_neg (by omega)];rfl)
   clear hm hj hy
   go_enter Tryz.func101,Tryz.ntmps101
   go_wp2_with fail
   go_ret
   exact ⟨by rw [HV.out];rfl,hb⟩
  | 4,_,_=>
   obtain rfl:m=5:=by omega
   have HV:Hid (mlen (qat y) 4=31):=hid (by rw [mlen,if_neg (by omega)];rfl)
   clear hm hj hy
   go_enter Tryz.func101,Tryz.ntmps101
   go_wp2_with fail
   go_ret
   exact ⟨by rw [HV.out];rfl,hb⟩
  | 5,_,_=>
   obtain rfl:m=6:=by omega
   have HV:Hid (mlen (qat y) 5=30):=hid (by rw [mlen,if_neg (by omega)];rfl)
   clear hm hj hy
   go_enter Tryz.func101,Tryz.ntmps101
   go_wp2_with fail
   go_ret
   exact ⟨by rw [HV.out];rfl,hb⟩
  | 6,_,_=>
   obtain rfl:m=7:=by omega
   have HV:Hid (mlen (qat y) 6=31):=hid (by rw [mlen,if_neg (by omega)];rfl)
   clear hm hj hy
   go_enter Tryz.func101,Tryz.ntmps101
   go_wp2_with fail
   go_ret
   exact ⟨by rw [HV.out];rfl,hb⟩
  | 7,_,_=>
   obtain rfl:m=8:=by omega
   have HV:Hid (mlen (qat y) 7=31):=hid (by rw [mlen,if_neg (by omega)];rfl)
   clear hm hj hy
   go_enter Tryz.func101,Tryz.ntmps101
   go_wp2_with fail
   go_ret
   exact ⟨by rw [HV.out];rfl,hb⟩
  | 8,_,_=>
   obtain rfl:m=9:=by omega
   have HV:Hid (mlen (qat y) 8=30):=hid (by rw [mlen,if_neg (by omega)];rfl)
   clear hm hj hy
   go_enter Tryz.func101,Tryz.ntmps101
   go_wp2_with fail
   go_ret
   exact ⟨by rw [HV.out];rfl,hb⟩
  | 9,_,_=>
   obtain rfl:m=10:=by omega
   have HV:Hid (mlen (qat y) 9=31):=hid (by rw [mlen,if_neg (by omega)];rfl)
   clear hm hj hy
   go_enter Tryz.func101,Tryz.ntmps101
   go_wp2_with fail
   go_ret
   exact ⟨by rw [HV.out];rfl,hb⟩
  | 10,_,_=>
   obtain rfl:m=11:=by omega
   have HV:Hid (mlen (qat y) 10=30):=hid (by rw [mlen,if_neg (by omega)];rfl)
   clear hm hj hy
   go_enter Tryz.func101,Tryz.ntmps101
   go_wp2_with fail
   go_ret
   exact ⟨by rw [HV.out];rfl,hb⟩
  | 11,_,_=>
   obtain rfl:m=12:=by omega
   have HV:Hid (mlen (qat y) 11=31):=hid (by rw [mlen,if_neg (by omega)];rfl)
   clear hm hj hy
   go_enter Tryz.func101,Tryz.ntmps101
   go_wp2_with fail
   go_ret
   exact ⟨by rw [HV.out];rfl,hb⟩
  | j+12,h,_=>omega
set_option maxHeartbeats 16000000 in
theorem pdate_any (D:Nat) (w:World) (hDm:D≤2932896):Calls Tryz.prog 48 #[.int .i64 (D:Int)] w fun e w'=>e=.returned (.tuple #[.int .i64 ((1970+(yrOf D).1:Nat):Int),.int .i64 (((moOf D).1:Int)+1),.int .i64 (1+((moOf D).2:Int))])∧Below w.heap.size w w':=by
 have hb:=Below.refl w.heap.size w;have HS:=hid (ydays_start D)
 go_enter Tryz.func48,Tryz.ntmps48
 go_wp2_with fail
 go_loopw [0,5] (fun dv yv wr=>∃ (k r:Nat),qbD k+r=D∧dv=.int .i64 (r:Int)∧yv=.int .i64 ((1970+k:Nat):Int)∧Below w.heap.size w wr) (fun dv _ _=>(intOf dv).toNat)
 case atStart=>exact ⟨400*(D / 146097),D%146097,HS.out,by first | rfl | (congr 1;omega),by first | rfl | (congr 1;omega),hb⟩
 case round=>
  clear hb HS;obtain ⟨k,r,hk,rfl,rfl,hb⟩:=hrel;have hk2:=yr_in D k r hDm hk
  have CD:=hid (fun W=>pdoy_any k (1970+k) W rfl (by omega))
  have hyl:=ylen_le k;obtain ⟨yl,hyl2⟩:∃ yl,ylen k=yl:=⟨_,rfl⟩;rw [hyl2] at CD hyl;have HYL:=hid hyl2;have HK:=hid hk
  have hr9:r≤2932896:=by omega
  obtain ⟨y,hy⟩:∃ y,1970+k=y:=⟨_,rfl⟩
  have hy9:y≤10000:=by omega
  have HY:=hid hy;rw [hy] at CD ⊢;clear hyl2 hk hy
  by_cases hge:yl≤r
  ·have hdg:decide ((yl:Int)≤(r:Int))=true:=by simp;omega
   have HK2:Hid (qbD (k+1)+(r-yl)=D):=hid (by rw [qbD,HYL.out];have:=HK.out;omega)
   clear HK
   go_wp2_with fail
   refine (CD.out _).mono ?_
   rintro ee W1 ⟨rfl,bk⟩;replace hb:=hb.trans (bk.mono hb.size);clear bk
   go_wp2_with fail
   refine (CD.out _).mono ?_
   rintro ee W2 ⟨rfl,bk⟩;replace hb:=hb.trans (bk.mono hb.size);clear bk CD
   go_wp2_with fail
   go_roundw
   case rel=>exact ⟨k+1,r-yl,HK2.out,by first | (congr 1;unfold wrap64;omega) | (congr 1;omega),by first | rfl | (have:=HY.out;congr 1;(try unfold wrap64);omega),hb⟩
   case measure=>simp [intOf];(try unfold wrap64);omega
  ·have hdg:decide ((yl:Int)≤(r:Int))=false:=by simp;omega
   have HYR:Hid (yrOf D=(k,r)):=hid (yr_of D k r hDm HK.out (by rw [HYL.out];omega))
   have HMS:Hid (∀ j e,qbg (qat y) j+e=r→j<12):=hid (fun j e h=>mo_in D j e hDm (by rw [HYR.out];simp only;rw [HY.out];exact h))
   have CMO:=hid (fun (j:Nat) (hj:j<12) (m:Int) (hm:m=(j:Int)+1) W=>pmon_any y j W (by omega) hj m hm)
   obtain ⟨lp,hlp⟩:∃ lp,qat y=lp:=⟨_,rfl⟩;rw [hlp] at CMO HMS;have HLP:=hid hlp;clear hlp HK HYL
   go_wp2_with fail
   refine (CD.out _).mono ?_
   rintro ee W1 ⟨rfl,bk⟩;replace hb:=hb.trans (bk.mono hb.size);clear bk CD
   go_wp2_with fail
   go_loopw [0,6] (fun dv mv wr=>∃ (j e:Nat),qbg lp j+e=r∧dv=.int .i64 (e:Int)∧mv=.int .i64 ((j:Int)+1)∧Below w.heap.size w wr) (fun dv _ _=>(intOf dv).toNat)
   case atStart=>exact ⟨0,r,by show 0+r=r;omega,rfl,rfl,hb⟩
   case round=>
    clear hb;obtain ⟨j,e,hje,rfl,rfl,hb⟩:=hrel;have hj12:=HMS.out j e hje;have CM:=hid (CMO.out j hj12 ((j:Int)+1) rfl);have hml:=qdx lp j;have HML:Hid (28≤mlen lp j):=hid (mlen_ge lp j hj12);obtain ⟨ml,hmm⟩:∃ ml,mlen lp j=ml:=⟨_,rfl⟩;rw [hmm] at CM hml HML;have HMM:=hid hmm;have HJE:=hid hje
    have he4:e≤2932896:=by omega
    clear hmm hje
    by_cases hge2:ml≤e
    ·have hdg2:decide ((ml:Int)≤(e:Int))=true:=by simp;omega
     have HJE2:Hid (qbg lp (j+1)+(e-ml)=r):=hid (by rw [qbg,HMM.out];have:=HJE.out;omega)
     have hme:28≤ml:=HML.out;clear HJE
     go_wp2_with fail
     refine (CM.out _).mono ?_
     rintro ee W3 ⟨rfl,bk⟩;replace hb:=hb.trans (bk.mono hb.size);clear bk
     go_wp2_with fail
     refine (CM.out _).mono ?_
     rintro ee W4 ⟨rfl,bk⟩;replace hb:=hb.trans (bk.mono hb.size);clear bk CM
     go_wp2_with fail
     go_roundw
     case rel=>exact ⟨j+1,e-ml,HJE2.out,by first | (congr 1;unfold wrap64;omega) | (congr 1;omega),by first | (congr 1;unfold wrap64;omega) | (congr 1;omega) | rfl,hb⟩
     case measure=>simp [intOf];(try unfold wrap64);omega
    ·have hdg2:decide ((ml:Int)≤(e:Int))=false:=by simp;omega
     have HMO:Hid (moOf D=(j,e)):=hid (mo_of D j e hDm (by rw [HYR.out];simp only;rw [HY.out,HLP.out];exact HJE.out) (by rw [HYR.out];simp only;rw [HY.out,HLP.out,HMM.out];omega))
     go_wp2_with fail
     refine (CM.out _).mono ?_
     rintro ee W3 ⟨rfl,bk⟩;replace hb:=hb.trans (bk.mono hb.size);clear bk CM
     go_wp2_with fail
     go_ret3
     exact ⟨by rw [HYR.out,HMO.out,← HY.out];first | rfl | (simp only;rfl),hb⟩
theorem below_grow (w:World) (q:Nat) (os:Array Obj):Below w.heap.size w (grow (w.drewN q) os):=
 ⟨rfl,rfl,rfl,by first | (simp [grow];done) | (simp [grow];omega),fun i hi=>by
  show ((w.drewN q).heap++os)[i]?=_
  rw [Array.getElem?_append_left (by show i<w.heap.size;omega)]
  rfl⟩
theorem pItoa_any (n:Nat) (w:World) (hn:n≤1000000) (hQ:PowQ w):Calls Tryz.prog 102 #[.int .i64 (n:Int)] w fun e w'=>e=.returned (.string ⟨(Lib.decDigits n).toArray⟩)∧Below w.heap.size w w':=by
 refine (Tryz.strconv_Itoa (n:Int) (by omega) (by omega) w hQ).mono ?_
 rintro e w' ⟨rfl,k,os,rfl⟩
 exact ⟨by rw [Lib.itoa_nonneg],below_grow w k os⟩
set_option maxHeartbeats 4000000 in
theorem pdigits_any (k n:Nat) (w:World) (hk:k≤10) (hn:n<10^(k+1)) (hn2:n≤1000000) (hQ:PowQ w):Calls Tryz.prog 49 #[.int .i64 ((k+1:Nat):Int),.int .i64 (n:Int)] w fun e w'=>e=.returned (.string ⟨(digL (k+1) n).toArray⟩)∧Below w.heap.size w w':=by
 obtain ⟨hl,hd⟩:=dec_dig k n hn;have CI:=hid (pItoa_any n w hn2 hQ);have hb:=Below.refl w.heap.size w;obtain ⟨S,hS⟩:∃ S:ByteArray,(⟨(Lib.decDigits n).toArray⟩:ByteArray)=S:=⟨_,rfl⟩
 have hsz:S.size=(Lib.decDigits n).length:=by rw [← hS];exact List.size_toArray
 rw [hS] at CI;rw [← hsz] at hl hd;obtain ⟨c,hc⟩:∃ c,k+1-S.size=c:=⟨_,rfl⟩
 have hc2:c≤20:=by omega
 have CR:=hid (fun W=>Tryz.strings_Repeat ⟨#[48]⟩ c W (by omega) (by show 1*c≤_;omega))
 have HE:Hid (Lib.repeatL (⟨#[48]⟩:ByteArray).data.toList c=List.replicate c 48):=hid (by
  have h:=Lib.repeatL_replicate 48 1 c;rw [Nat.mul_one] at h
  exact h)
 rw [HE.out] at CR;obtain ⟨R,hR⟩:∃ R:ByteArray,(⟨(List.replicate c 48).toArray⟩:ByteArray)=R:=⟨_,rfl⟩
 have hRs:R.size=c:=by rw [← hR];show (List.replicate c 48).length=c;exact List.length_replicate
 rw [hR] at CR
 have HV:Hid ((⟨(digL (k+1) n).toArray⟩:ByteArray)=R++S):=hid (by
  apply ByteArray.ext
  apply Array.toList_inj.1
  rw [ByteArray.data_append,Array.toList_append,← hR,← hS]
  show digL (k+1) n=List.replicate c 48++Lib.decDigits n
  rw [← hd,hc])
 have e1:((k+1:Nat):Int)-(S.size:Int)=(c:Int):=by omega
 have hs2:S.size≤20:=by omega
 have k1:R.size+S.size≤9223372036854775807:=by omega
 have hk2:k+1≤20:=by omega
 generalize k+1=kk at *;clear hRs hR hsz hS hd hl hc hn hn2 hQ HE hk
 go_enter Tryz.func49,Tryz.ntmps49
 go_wp2_with fail
 refine CI.out.mono ?_
 rintro ee W1 ⟨rfl,bk⟩;replace hb:=hb.trans (bk.mono hb.size);clear bk CI
 go_wp2_with fail
 try rw [e1]
 refine (CR.out _).mono ?_
 rintro ee W2 ⟨rfl,bk⟩;replace hb:=hb.trans (bk.mono hb.size);clear bk CR
 go_wp2_with fail
 go_ret
 exact ⟨by rw [HV.out];rfl,hb⟩
theorem qeC (z:Int) (w:World) (h0:0≤z) (h1:z<100) (hQ:PowQ w):Calls Tryz.prog 49 #[.int .i64 2,.int .i64 z] w fun e w'=>e=.returned (.string (dgB 2 z))∧Below w.heap.size w w':=by
 have h:=pdigits_any 1 z.toNat w (by omega) (by show z.toNat<100;omega) (by omega) hQ
 rwa [show ((z.toNat:Nat):Int)=z by omega] at h
theorem pdig4_any (z:Int) (w:World) (h0:0≤z) (h1:z<10000) (hQ:PowQ w):Calls Tryz.prog 49 #[.int .i64 4,.int .i64 z] w fun e w'=>e=.returned (.string (dgB 4 z))∧Below w.heap.size w w':=by
 have h:=pdigits_any 3 z.toNat w (by omega) (by show z.toNat<10000;omega) (by omega) hQ
 rwa [show ((z.toNat:Nat):Int)=z by omega] at h
set_option maxHeartbeats 16000000 in
theorem qeO (N:Nat) (w:World) (hN:N≤253402300799) (hQ:PowQ w):Calls Tryz.prog 24 #[.int .i64 (N:Int)] w fun e w'=>e=.returned (.string (timB N))∧Below w.heap.size w w':=by
 have hb:=Below.refl w.heap.size w;obtain ⟨D,hD⟩:∃ D,N / 86400=D:=⟨_,rfl⟩
 have hD1:(N:Int) / 86400=(D:Int):=by omega
 have hDm:D≤2932896:=by omega
 have CD:=hid (pdate_any D w hDm);obtain ⟨sv,hsv⟩:∃ sv:Int,(N:Int)%86400=sv:=⟨_,rfl⟩
 have hs0:0≤sv∧sv<86400:=by omega
 obtain ⟨⟨k,r⟩,hy⟩:∃ p,yrOf D=p:=⟨_,rfl⟩;obtain ⟨⟨j,e⟩,hm⟩:∃ p,moOf D=p:=⟨_,rfl⟩;obtain ⟨_,_,q3⟩:=qdl D hDm;obtain ⟨_,m2,m3⟩:=qeh D hDm;have m4:=qdx (qat (1970+(yrOf D).1)) (moOf D).1;rw [hy] at q3;rw [hm] at m3 m2 m4;rw [hy,hm] at CD
 simp only at q3 m2 m3 m4 CD
 have he:e<31:=by omega
 have htb:=qfY N k r j e hN (by rw [hD];exact hy) (by rw [hD];exact hm)
 rw [hsv] at htb;obtain ⟨y,hyy⟩:∃ y,1970+k=y:=⟨_,rfl⟩;rw [hyy] at htb CD
 have hy9:y≤9999:=by omega
 have HTB:=hid htb;have HQ:=hid hQ
 have C1:=hid (fun W q=>pdig4_any (y:Int) W (by omega) (by omega) q)
 have C2:=hid (fun W q=>qeC ((j:Int)+1) W (by omega) (by omega) q)
 have C3:=hid (fun W q=>qeC ((e:Int)+1) W (by omega) (by omega) q)
 rw [show (e:Int)+1=1+(e:Int) by omega] at C3 HTB
 have C4:=hid (fun W q=>qeC (sv / 3600) W (by omega) (by omega) q)
 have C5:=hid (fun W q=>qeC (sv / 60%60) W (by omega) (by omega) q)
 have C6:=hid (fun W q=>qeC (sv%60) W (by omega) (by omega) q)
 have z1:=qbA 4 (y:Int);have z2:=qbA 2 ((j:Int)+1);have z3:=qbA 2 (1+(e:Int));have z4:=qbA 2 (sv / 3600);have z5:=qbA 2 (sv / 60%60);have z6:=qbA 2 (sv%60);generalize dgB 4 (y:Int)=A1 at *;generalize dgB 2 ((j:Int)+1)=A2 at *;generalize dgB 2 (1+(e:Int))=A3 at *;generalize dgB 2 (sv / 3600)=A4 at *;generalize dgB 2 (sv / 60%60)=A5 at *;generalize dgB 2 (sv%60)=A6 at *
 have k1:A1.size+A2.size≤9223372036854775807:=by omega
 have k2:A1.size+A2.size+A3.size≤9223372036854775807:=by omega
 have k3:A1.size+A2.size+A3.size+A4.size≤9223372036854775807:=by omega
 have k4:A1.size+A2.size+A3.size+A4.size+A5.size≤9223372036854775807:=by omega
 have k5:A1.size+A2.size+A3.size+A4.size+A5.size+A6.size≤9223372036854775807:=by omega
 have k6:A1.size+A2.size+A3.size+A4.size+A5.size+A6.size+1≤9223372036854775807:=by omega
 have hj:j<12:=m3;clear z1 z2 z3 z4 z5 z6 htb hyy hm hy hD hDm q3 m2 m3 m4 hQ
 go_enter Tryz.func24,Tryz.ntmps24
 go_wp2_with fail
 try rw [hD1]
 refine CD.out.mono ?_
 rintro ee W0 ⟨rfl,bk⟩;replace hb:=hb.trans (bk.mono hb.size);replace HQ:=hid (HQ.out.step bk);clear bk CD
 go_wp2_with fail
 try rw [hsv]
 clear hD1 hsv
 refine (C1.out _ HQ.out).mono ?_
 rintro ee W1 ⟨rfl,bk⟩;replace hb:=hb.trans (bk.mono hb.size);replace HQ:=hid (HQ.out.step bk);clear bk C1
 go_wp2_with fail
 refine (C2.out _ HQ.out).mono ?_
 rintro ee W2 ⟨rfl,bk⟩;replace hb:=hb.trans (bk.mono hb.size);replace HQ:=hid (HQ.out.step bk);clear bk C2
 go_wp2_with fail
 refine (C3.out _ HQ.out).mono ?_
 rintro ee W3 ⟨rfl,bk⟩;replace hb:=hb.trans (bk.mono hb.size);replace HQ:=hid (HQ.out.step bk);clear bk C3
 go_wp2_with fail
 refine (C4.out _ HQ.out).mono ?_
 rintro ee W4 ⟨rfl,bk⟩;replace hb:=hb.trans (bk.mono hb.size);replace HQ:=hid (HQ.out.step bk);clear bk C4
 go_wp2_with fail
 refine (C5.out _ HQ.out).mono ?_
 rintro ee W5 ⟨rfl,bk⟩;replace hb:=hb.trans (bk.mono hb.size);replace HQ:=hid (HQ.out.step bk);clear bk C5
 go_wp2_with fail
 refine (C6.out _ HQ.out).mono ?_
 rintro ee W6 ⟨rfl,bk⟩;replace hb:=hb.trans (bk.mono hb.size);replace HQ:=hid (HQ.out.step bk);clear bk C6
 go_wp2_with fail
 go_ret
 exact ⟨by rw [HTB.out];first | rfl | (congr 2),hb⟩
theorem ptime_any (n:Int) (w:World) (h0:-9223372036854775808≤n) (h1:n≤9223372036854775807) (hQ:PowQ w) :
  Calls Tryz.prog 10 #[.int .i64 n] w fun ee w'=>ee=.returned (.tuple #[.string (timX n),.int .i64 (timE n)])∧Below w.heap.size w w':=by
 have hb:=Below.refl w.heap.size w;have CT:=hid (qfG n w);have HQ:=hid hQ
 cases ht:isTm n with
 | true=>
  obtain ⟨n0,n1⟩:=(qc0 n).1 ht
  obtain ⟨N,rfl⟩:∃ N:Nat,n=(N:Int):=⟨n.toNat,by omega⟩
  have HX:Hid (timX (N:Int)=timB N∧timE (N:Int)=0):=hid ⟨by rw [timX,if_pos ht];rfl,if_pos ht⟩
  have CS:=hid (fun W q=>qeO N W (by omega) q)
  rw [ht] at CT;clear ht n0 n1 h0 h1 hQ
  go_enter Tryz.func10,Tryz.ntmps10
  go_wp2_with fail
  refine CT.out.mono ?_
  rintro ee W1 ⟨rfl,bk⟩;replace hb:=hb.trans (bk.mono hb.size);replace HQ:=hid (HQ.out.step bk);clear bk CT
  go_wp2_with fail
  refine (CS.out _ HQ.out).mono ?_
  rintro ee W2 ⟨rfl,bk⟩;replace hb:=hb.trans (bk.mono hb.size);clear bk CS
  go_wp2_with fail
  go_ret2
  exact ⟨by rw [HX.out.1,HX.out.2];rfl,hb⟩
 | false=>
  have HX:Hid (timX n=⟨#[]⟩∧timE n=1):=hid ⟨by rw [timX,ht];rfl,by rw [timE,ht];rfl⟩
  rw [ht] at CT;clear ht h0 h1 hQ
  go_enter Tryz.func10,Tryz.ntmps10
  go_wp2_with fail
  refine CT.out.mono ?_
  rintro ee W1 ⟨rfl,bk⟩;replace hb:=hb.trans (bk.mono hb.size);clear bk CT
  go_wp2_with fail
  go_ret2
  exact ⟨by rw [HX.out.1,HX.out.2];rfl,hb⟩
end
section
open Go.RowKit Go.Sort
set_option maxHeartbeats 4000000 in
theorem psearch_any (g:Nat) (cb:Array Value) (n:Nat) (p:Nat→Bool) (w:World) (eg:∀ args w,(callFunc g args).run Tryz.prog w=.ok (.enter g args) w) (hn:n<4611686018427387904)
  (hf:∀ (W:World) (i:Nat),Below w.heap.size w W→i<n→Calls Tryz.prog g (#[.int .i64 (i:Int)]++cb) W fun e w'=>e=.returned (.bool (p i))∧Below W.heap.size W w') :
  Calls Tryz.prog 123 #[.int .i64 (n:Int),.func (.func g) #[] cb] w fun e w'=>∃ r:Nat,e=.returned (.int .i64 (r:Int))∧r≤n∧(∀ m,m≤n→(∀ h,h<n→p h=decide (m≤h))→r=m)∧Below w.heap.size w w':=by
 have HF:=hid hf;have hb:=Below.refl w.heap.size w;clear hf
 go_enter Tryz.func123,Tryz.ntmps123
 go_wp2_with fail
 go_loopw [5,6] (fun a b wr=>∃ (lo hi:Nat),a=.int .i64 (lo:Int)∧b=.int .i64 (hi:Int)∧lo≤hi∧hi≤n∧Below w.heap.size w wr∧
  Hid (∀ m,m≤n→(∀ h,h<n→p h=decide (m≤h))→lo≤m∧m≤hi)) (fun a b _=>(intOf b).toNat-(intOf a).toNat)
 case atStart=>exact ⟨0,n,rfl,rfl,Nat.zero_le _,Nat.le_refl _,hb,hid (fun m hm _=>⟨Nat.zero_le _,hm⟩)⟩
 case round=>
  clear hb;obtain ⟨lo,hi,rfl,rfl,hlh,hin,hb,I⟩:=hrel
  by_cases hlt:lo<hi
  ·have hc:=hid (HF.out wr ((lo+hi) / 2) hb (by omega))
   rw [show (((lo+hi) / 2:Nat):Int)=((lo:Int)+(hi:Int)) / 2 by omega] at hc
   cases hp:p ((lo+hi) / 2) <;> rw [hp] at hc
   ·have I2:Hid (∀ m,m≤n→(∀ h,h<n→p h=decide (m≤h))→(lo+hi) / 2+1≤m∧m≤hi):=hid (fun m hm hh=>by
     have a:=hh ((lo+hi) / 2) (by omega)
     have b:=I.out m hm hh;rw [hp] at a
     have:=of_decide_eq_false a.symm
     omega)
    clear hp I
    go_wp2_with (go_at_fn g;refine hc.out.mono ?_;rintro ee W1 ⟨rfl,bk⟩;replace hb:=hb.trans (bk.mono hb.size);clear bk)
    go_roundw
    case rel=>exact ⟨(lo+hi) / 2+1,hi,by first | rfl | (congr 1;done) | (congr 1;omega) | (congr 1;unfold wrap64;omega),rfl,by omega,hin,hb,I2⟩
    case measure=>simp [intOf];(try unfold wrap64);omega
   ·have I2:Hid (∀ m,m≤n→(∀ h,h<n→p h=decide (m≤h))→lo≤m∧m≤(lo+hi) / 2):=hid (fun m hm hh=>by
     have a:=hh ((lo+hi) / 2) (by omega)
     have b:=I.out m hm hh;rw [hp] at a
     have:=of_decide_eq_true a.symm
     omega)
    clear hp I
    go_wp2_with (go_at_fn g;refine hc.out.mono ?_;rintro ee W1 ⟨rfl,bk⟩;replace hb:=hb.trans (bk.mono hb.size);clear bk)
    go_roundw
    case rel=>exact ⟨lo,(lo+hi) / 2,rfl,by first | rfl | (congr 1;done) | (congr 1;omega) | (congr 1;unfold wrap64;omega),by omega,by omega,hb,I2⟩
    case measure=>simp [intOf];(try unfold wrap64);omega
  ·obtain rfl:hi=lo:=by omega
   go_wp2_with fail
   go_ret
   exact ⟨hi,rfl,hin,fun m hm hh=>by have:=I.out m hm hh;omega,hb⟩
theorem geq_str (t:TypeId) (a b:ByteArray):binOp .geq t (.string a) (.string b)=pure (.bool !(Op.bytesLess a.toList b.toList)):=by simp [binOp,Op.stringOp]
set_option maxHeartbeats 2000000 in
theorem pcl_any (i b:Nat) (s:ByteArray) (w:World) (hi:i≤253402300799) (hQ:PowQ w) (hc:w.cell? ⟨b,0,none⟩=some (.string s)) :
  Calls Tryz.prog 124 #[.int .i64 (i:Int),.pointer (some ⟨b,0,none⟩)] w fun e w'=>e=.returned (.bool !(Op.bytesLess (timB i).toList s.toList))∧Below w.heap.size w w':=by
 have CS:=hid (fun W q=>qeO i W hi q)
 have HQ:=hid hQ;have hb:=Below.refl w.heap.size w;generalize timB i=T at *;clear hi hQ
 go_enter Tryz.func124,Tryz.ntmps124
 go_wp2_with fail
 refine qaC 4 8 [(Told.val (.int .i64 (i:Int)),[0]),
  (Told.val (.string T),[4]),
  (Told.val (.string s),[1]),
  (Told.val (.bool !(Op.bytesLess T.toList s.toList)),[5,6])]
  (by kernel_rfl) (by kernel_rfl) rfl ?_ ?_
 ·simp only [List.take_succ_cons,List.take_zero,qaW,and_true]
  refine And.intro ?_ (And.intro ?_ (And.intro ?_ (?_)))
  ·intro a w hb h
   have e0:a.tmps.getD 0 undef=.int .i64 (i:Int):=h 0 (by simp)
   simp only [getD_eq_getD_getElem?] at e0
   refine qaf ?_
   simp [go_sem,e0,qac]
  ·intro a w hb h
   have e0:a.tmps.getD 4 undef=.int .i64 (i:Int):=h 4 (by simp)
   simp only [getD_eq_getD_getElem?] at e0
   refine qaf ?_
   simp [go_sem,e0,qac]
   exact CS.out _ (HQ.out.step hb)
  ·intro a w hb h
   have e0:a.tmps.getD 1 undef=.pointer (some ⟨b,0,none⟩):=h 1 (by simp)
   simp only [getD_eq_getD_getElem?] at e0
   have hc2:=(hb.cell (block_lt_of_cell hc)).trans hc
   refine qaf ?_
   simp [go_sem,e0,qac,hc2]
  ·intro a w hb h
   have e0:a.tmps.getD 5 undef=.string T:=h 5 (by simp)
   have e1:a.tmps.getD 6 undef=.string s:=h 6 (by simp)
   simp only [getD_eq_getD_getElem?] at e0 e1
   refine qaf ?_
   simp [go_sem,e0,e1,qac,geq_str]
 simp only [List.take_succ_cons,List.take_zero,List.drop_succ_cons,List.drop_zero,qaX,Act.put,List.setIfInBounds_toArray,List.set_cons_succ,List.set_cons_zero]
 rintro X bk v4 q4 v5 q5 v6 q6 v7 q7;obtain rfl:=q4.symm;obtain rfl:=q5.symm;obtain rfl:=q6.symm;obtain rfl:=q7.symm;clear q4 q5 q6 q7
 go_wp2_with fail
 go_ret
 exact ⟨rfl,by first | exact bk | exact hb.trans bk⟩
theorem ptimeOf_any (s:ByteArray) (w:World) (hQ:PowQ w):Calls Tryz.prog 70 #[.string s] w fun e w'=>∃ r:Nat,e=.returned (.int .i64 (r:Int))∧r≤253402300799∧(∀ m,m≤253402300799→timB m=s→r=m)∧Below w.heap.size w w':=by
 have hb:=qah w (.cells #[.string s] 9)
 have hcell:(w.alloc (.cells #[.string s] 9)).cell? ⟨w.heap.size,0,none⟩=some (.string s):=by rw [cell_of_row _ w.heap.size 0 _ 9 (0,0) (qag w _)];rfl
 have hQ1:=hQ.step hb
 have eg:∀ args w,(callFunc 124 args).run Tryz.prog w=.ok (.enter 124 args) w:=enters_of Tryz.func124 (by kernel_rfl) rfl
 have CS:=hid (psearch_any 124 #[.pointer (some ⟨w.heap.size,0,none⟩)] 253402300799 (fun i=>!(Op.bytesLess (timB i).toList s.toList)) _ eg (by decide)
  (fun W i hW hi=>pcl_any i w.heap.size s W (by omega) (hQ1.step hW) ((hW.cell (block_lt_of_cell hcell)).trans hcell)))
 have HP:Hid (∀ m,m≤253402300799→timB m=s→∀ h,h<253402300799→(!(Op.bytesLess (timB h).toList s.toList))=decide (m≤h)):=hid (fun m hm e h hh=>by
  subst e
  rw [Lib.toList_data,Lib.toList_data,timB_less h m (by omega) hm]
  by_cases c:m≤h
  ·rw [decide_eq_true c,decide_eq_false (by omega)];rfl
  ·rw [decide_eq_false c,decide_eq_true (by omega)];rfl)
 clear hcell hQ1 hQ eg
 generalize hp:(fun i=>!(Op.bytesLess (timB i).toList s.toList))=p at *
 have HPP:=hid hp;clear hp
 go_enter Tryz.func70,Tryz.ntmps70
 go_wp2_with fail
 generalize (w.alloc _)=W0 at *
 refine CS.out.mono ?_
 rintro ee W1 ⟨r,rfl,hr,hm,bk⟩;replace hb:=hb.trans (bk.mono hb.size);have HM:=hid hm;clear bk CS hm
 go_wp2_with fail
 go_ret
 exact ⟨r,rfl,hr,fun m h1 h2=>HM.out m h1 (fun h hh=>by first | exact HP.out m h1 h2 h hh | (rw [← HPP.out];exact HP.out m h1 h2 h hh)),hb⟩
end
end Go.Proofs.YteomfleofeeofaaGreatDoor
