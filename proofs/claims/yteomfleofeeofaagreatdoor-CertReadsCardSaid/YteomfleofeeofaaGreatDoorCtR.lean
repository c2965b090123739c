/- Times. -/
import Derived.Test.YteomfleofeeofaaGreatDoorCtA
namespace Go.Proofs.YteomfleofeeofaaGreatDoor
open Go.Lib (hid)
open _root_.List (take_succ_cons drop_succ_cons set_cons_succ set_cons_zero setIfInBounds_toArray)
open _root_.Array (getD_eq_getD_getElem?)
set_option maxHeartbeats 16000000
open Go.Proofs.Tryz
set_option maxRecDepth 100000
set_option linter.unusedSimpArgs false
set_option linter.unusedVariables false
section
open Go.RowKit Go.Sort
theorem qgr(n:Int)(w:World):Rt 25 #[.int .i64 n] w (.bool (isTm n)):=by
 unfold Rt;have hb:=Below.refl w.heap.size w;by_cases h0:0≤n
 ·have d0:decide (0≤n)=true:=decide_eq_true h0;by_cases h1:n≤253402300799
  ·have d1:decide (n≤253402300799)=true:=decide_eq_true h1;rw[isTm,d0,d1];go_enter func25,ntmps25;go_wp2_with fail;go_ret;exact⟨rfl,hb⟩
  ·have d1:decide (n≤253402300799)=false:=decide_eq_false h1;rw[isTm,d0,d1];go_enter func25,ntmps25;go_wp2_with fail;go_ret;exact⟨rfl,hb⟩
 ·have d0:decide (0≤n)=false:=decide_eq_false h0;rw[isTm,d0,Bool.false_and];go_enter func25,ntmps25;go_wp2_with fail;go_ret;exact⟨rfl,hb⟩
theorem rleap_any(y:Nat)(w:World)(hy:y≤100000):Rt 26 #[.int .i64 (y:Int)] w (.bool (qaJ y)):=by
 unfold Rt;have hb:=Below.refl w.heap.size w;by_cases h4:y%4=0
 ·have d4:((y:Int)%4==0)=true:=by simp;omega
  by_cases h1:y%100=0
  ·have d1:((y:Int)%100 != 0)=false:=by simp;omega
   by_cases h2:y%400=0
   ·have d2:((y:Int)%400==0)=true:=by simp;omega
    have HL:Hid (qaJ y=true):=hid ((qcH y).2 (by omega));clear h4 h1 h2;go_enter func26,ntmps26;go_wp2_with fail;go_ret;exact⟨by rw[HL.out];rfl,hb⟩
   ·have d2:((y:Int)%400==0)=false:=by simp;omega
    have HL:Hid (qaJ y=false):=hid (by rw[← Bool.not_eq_true,qcH];omega);clear h4 h1 h2;go_enter func26,ntmps26;go_wp2_with fail;go_ret;exact⟨by rw[HL.out];rfl,hb⟩
  ·have d1:((y:Int)%100 != 0)=true:=by simp;omega
   have HL:Hid (qaJ y=true):=hid ((qcH y).2 (by omega));clear h4 h1;go_enter func26,ntmps26;go_wp2_with fail;go_ret;exact⟨by rw[HL.out];rfl,hb⟩
 ·have d4:((y:Int)%4==0)=false:=by simp;omega
  by_cases h2:y%400=0
  ·exact absurd h2 (by omega)
  ·have d2:((y:Int)%400==0)=false:=by simp;omega
   have HL:Hid (qaJ y=false):=hid (by rw[← Bool.not_eq_true,qcH];omega);clear h4 h2;go_enter func26,ntmps26;go_wp2_with fail;go_ret;exact⟨by rw[HL.out];rfl,hb⟩
theorem rmonth1_any(y:Nat)(w:World)(hy:y≤100000):Rt 27 #[.int .i64 (y:Int),.int .i64 2] w (.int .i64 ((mlen (qaJ y) 1:Nat):Int)):=by
 unfold Rt;have hb:=Below.refl w.heap.size w;have CL:=hid (fun W=>rleap_any y W hy)
 cases hl:qaJ y with
 | true=>
  rw[hl]at CL;clear hl;go_enter func27,ntmps27;go_wp2_with fail;refine (CL.out w).mono ?_;rintro e W1⟨rfl,bk⟩;replace hb:=bws hb bk;clear bk;go_wp2_with fail;go_ret;exact⟨rfl,hb⟩
 | false=>
  rw[hl]at CL;clear hl;go_enter func27,ntmps27;go_wp2_with fail;refine (CL.out w).mono ?_;rintro e W1⟨rfl,bk⟩;replace hb:=bws hb bk;clear bk;have c0:(W1.alloc (.cells #[.int .i64 31,.int .i64 28,.int .i64 31,.int .i64 30,.int .i64 31,.int .i64 30,.int .i64 31,.int .i64 31,.int .i64 30,.int .i64 31,.int .i64 30,.int .i64 31] 3)).cell? ⟨W1.heap.size,1,none⟩=some (.int .i64 28):=by rw[jco _ W1.heap.size 1 _ 3 (0,0) (qad W1 _)];rfl
  replace hb:=hb.trans ((qaf W1 (.cells #[.int .i64 31,.int .i64 28,.int .i64 31,.int .i64 30,.int .i64 31,.int .i64 30,.int .i64 31,.int .i64 31,.int .i64 30,.int .i64 31,.int .i64 30,.int .i64 31] 3)).mono hb.size);go_wp2_with fail;go_ret;exact⟨rfl,hb⟩
def qdC:Array Value:=#[.int .i64 31,.int .i64 28,.int .i64 31,.int .i64 30,.int .i64 31,.int .i64 30,.int .i64 31,.int .i64 31,.int .i64 30,.int .i64 31,.int .i64 30,.int .i64 31]
theorem rmonth_any(y j:Nat)(w:World)(hy:y≤100000)(hj:j<12)(m:Int)(hm:m=(j:Int)+1):Rt 27 #[.int .i64 (y:Int),.int .i64 m] w (.int .i64 ((mlen (qaJ y) j:Nat):Int)):=by
 unfold Rt;by_cases h1:j=1
 ·subst h1;obtain rfl:m=2:=by omega
  exact rmonth1_any y w hy
 have hv:mlen (qaJ y) j=[31,28,31,30,31,30,31,31,30,31,30,31].getD j 0:=if_neg (by simp[h1]);have hb:=qaf w (.cells qdC 3);have hc:=fun (k:Nat) (v:Value) (h:qdC[k]?=some v)=>show (w.alloc (.cells qdC 3)).cell? ⟨w.heap.size,k,none⟩=some v by rw[jco _ w.heap.size k _ 3 (0,0) (qad w _)];exact h
 have HV:=hid hv;have HC:=hid hc;clear hv hc
 match j,hj,h1 with
 | 1,_,h=>exact absurd rfl h
 | 0,_,_=>
  obtain rfl:m=1:=by omega
  have c0:=HC.out 0 _ rfl;clear hm hj h1 HC;go_enter func27,ntmps27;unfold qdC at c0;go_wp2_with fail;go_ret;exact⟨by rw[HV.out];rfl,hb⟩
 | 2,_,_=>
  obtain rfl:m=3:=by omega
  have c0:=HC.out 2 _ rfl;clear hm hj h1 HC;go_enter func27,ntmps27;unfold qdC at c0;go_wp2_with fail;go_ret;exact⟨by rw[HV.out];rfl,hb⟩
 | 3,_,_=>
  obtain rfl:m=4:=by omega
  have c0:=HC.out 3 _ rfl;clear hm hj h1 HC;go_enter func27,ntmps27;unfold qdC at c0;go_wp2_with fail;go_ret;exact⟨by rw[HV.out];rfl,hb⟩
 | 4,_,_=>
  obtain rfl:m=5:=by omega
  have c0:=HC.out 4 _ rfl;clear hm hj h1 HC;go_enter func27,ntmps27;unfold qdC at c0;go_wp2_with fail;go_ret;exact⟨by rw[HV.out];rfl,hb⟩
 | 5,_,_=>
  obtain rfl:m=6:=by omega
  have c0:=HC.out 5 _ rfl;clear hm hj h1 HC;go_enter func27,ntmps27;unfold qdC at c0;go_wp2_with fail;go_ret;exact⟨by rw[HV.out];rfl,hb⟩
 | 6,_,_=>
  obtain rfl:m=7:=by omega
  have c0:=HC.out 6 _ rfl;clear hm hj h1 HC;go_enter func27,ntmps27;unfold qdC at c0;go_wp2_with fail;go_ret;exact⟨by rw[HV.out];rfl,hb⟩
 | 7,_,_=>
  obtain rfl:m=8:=by omega
  have c0:=HC.out 7 _ rfl;clear hm hj h1 HC;go_enter func27,ntmps27;unfold qdC at c0;go_wp2_with fail;go_ret;exact⟨by rw[HV.out];rfl,hb⟩
 | 8,_,_=>
  obtain rfl:m=9:=by omega
  have c0:=HC.out 8 _ rfl;clear hm hj h1 HC;go_enter func27,ntmps27;unfold qdC at c0;go_wp2_with fail;go_ret;exact⟨by rw[HV.out];rfl,hb⟩
 | 9,_,_=>
  obtain rfl:m=10:=by omega
  have c0:=HC.out 9 _ rfl;clear hm hj h1 HC;go_enter func27,ntmps27;unfold qdC at c0;go_wp2_with fail;go_ret;exact⟨by rw[HV.out];rfl,hb⟩
 | 10,_,_=>
  obtain rfl:m=11:=by omega
  have c0:=HC.out 10 _ rfl;clear hm hj h1 HC;go_enter func27,ntmps27;unfold qdC at c0;go_wp2_with fail;go_ret;exact⟨by rw[HV.out];rfl,hb⟩
 | 11,_,_=>
  obtain rfl:m=12:=by omega
  have c0:=HC.out 11 _ rfl;clear hm hj h1 HC;go_enter func27,ntmps27;unfold qdC at c0;go_wp2_with fail;go_ret;exact⟨by rw[HV.out];rfl,hb⟩
 | j+12,h,_=>omega
theorem rdigits_any(n k:Nat)(w:World)(hn:n<9223372036854775808)(hk:k≤20):Rt 28 #[.int .i64 (n:Int),.int .i64 (k:Int)] w (.string ⟨(digL k n).toArray⟩):=by
 unfold Rt;have hb:=Below.refl w.heap.size w;obtain⟨G,z6⟩:∃ G,digL k n=G:=⟨_,rfl⟩;have z4:=hid z6;clear z6;go_enter func28,ntmps28;go_wp2_with fail
 go_loopw [0,5,6] (fun nv ov iv wr=>∃ (i m:Nat) (l:List UInt8),i≤k∧l.length=i∧m≤n∧nv=.int .i64 (m:Int)∧ov=.string ⟨l.toArray⟩∧iv=.int .i64 (i:Int)∧Hid (digL (k-i) m++l=G)∧Below w.heap.size w wr) (fun _ _ iv _=>k-(intOf iv).toNat)
 case atStart=>exact⟨0,n,[],by omega,rfl,jlr _,rfl,rfl,rfl,hid (by rw[List.append_nil];exact z4.out),hb⟩
 case round=>
  clear hb;obtain⟨i,m,l,hik,hl,hmn,rfl,rfl,rfl,HG,hb⟩:=hrel;by_cases hlt:i<k
  ·have hd:decide ((i:Int)<(k:Int))=true:=by simp;omega
   have z7:Hid (digL (k-(i+1)) (m/10)++(UInt8.ofNat (48+m%10)::l)=G):=hid (by
    have:=HG.out;rw[show k-i=(k-(i+1))+1 by omega,digL,List.append_assoc]at this;exact this)
   have hx:((UInt8.ofNat (48+m%10)).toNat:Int)=48+(m:Int)%10:=by rw[qcY _ (by omega)];simp
   generalize UInt8.ofNat (48+m%10)=b at *;have ht:=text_row (wr.alloc (.cells #[.int .u8 (48+(m:Int)%10)] 5)) wr.heap.size 1 1 [b] rfl (by rw[qad];rw[← hx];rfl);have z3:(⟨#[b]⟩:ByteArray).size+(⟨l.toArray⟩:ByteArray).size≤9223372036854775807:=by
    show 1+l.length≤_;omega
   have z0:Hid ((⟨#[b]⟩:ByteArray)++⟨l.toArray⟩=⟨(b :: l).toArray⟩):=hid (by
    apply ByteArray.ext;apply Array.toList_inj.1;rw[ByteArray.data_append,Array.toList_append]
    rfl)
   have z8:=hb.trans ((qaf wr (.cells #[.int .u8 (48+(m:Int)%10)] 5)).mono hb.size);have HL:=hid hl;rw[show (⟨[b].toArray⟩:ByteArray)=⟨#[b]⟩ from rfl]at ht;obtain⟨pb,z2⟩:∃ pb,(⟨#[b]⟩:ByteArray)=pb:=⟨_,rfl⟩;obtain⟨lb,z1⟩:∃ lb,(⟨l.toArray⟩:ByteArray)=lb:=⟨_,rfl⟩;rw[z2,z1]at z0 z3;rw[z2]at ht;rw[z1];clear z2 z1 hx hb HG hl;go_wp2_with fail;go_roundw
   case rel=>exact⟨i+1,m/10,b :: l,by omega,by simp;exact HL.out,by omega,by first|rfl|(congr 1;unfold wrap64;omega),by rw[← z0.out],by go_num,z7,z8⟩
   case measure=>simp[intOf];omega
  ·have hd:decide ((i:Int)<(k:Int))=false:=by simp;omega
   obtain rfl:i=k:=by omega
   have HE:Hid (l=G):=hid (by have:=HG.out;rw[Nat.sub_self]at this;exact this);have z5:Hid ((⟨l.toArray⟩:ByteArray)=⟨(digL i n).toArray⟩):=hid (by rw[z4.out,HE.out]);generalize (⟨l.toArray⟩:ByteArray)=L at *;clear HG HE;go_wp2_with fail;go_ret;exact⟨by first|(rw[z5.out];done)|(rw[z5.out];rfl),hb⟩
theorem qcJ(z:Int)(w:World)(h0:0≤z)(h1:z≤1000000):Rt 28 #[.int .i64 z,.int .i64 2] w (.string (dgB 2 z)):=by
 unfold Rt;have h:=rdigits_any z.toNat 2 w (by omega) (by omega);rwa[show ((z.toNat:Nat):Int)=z by omega]at h
theorem rdig4_any(z:Int)(w:World)(h0:0≤z)(h1:z≤1000000):Rt 28 #[.int .i64 z,.int .i64 4] w (.string (dgB 4 z)):=by
 unfold Rt;have h:=rdigits_any z.toNat 4 w (by omega) (by omega);rwa[show ((z.toNat:Nat):Int)=z by omega]at h
theorem qge(n:Int)(w:World)(h0:-9223372036854775808≤n)(h1:n≤9223372036854775807):Rt 11 #[.int .i64 n] w (.tuple #[.string (timX n),.int .i64 (timE n)]):=by
 unfold Rt;have hb:=Below.refl w.heap.size w;have CT:=hid (fun W=>qgr n W);by_cases ht:isTm n=true
 ·obtain⟨n0,n1⟩:=(qdN n).1 ht;obtain⟨N,rfl⟩:∃ N:Nat,n=(N:Int):=⟨n.toNat,by omega⟩;have HX:Hid (timX (N:Int)=timB N∧timE (N:Int)=0):=hid ⟨by rw[timX,if_pos ht];rfl,if_pos ht⟩;rw[ht]at CT;obtain⟨D,hD⟩:∃ D,N/86400=D:=⟨_,rfl⟩;have zC:(N:Int)/86400=(D:Int):=by omega
  have zt:D≤2932896:=by omega
  have HD:=hid hD;obtain⟨sv,zA⟩:∃ sv:Int,(N:Int)%86400=sv:=⟨_,rfl⟩;have hs0:0≤sv∧sv<86400:=by omega
  have zs:=hid zA;have HN:=hid n1;clear ht n0 n1 h0 h1 hD;go_enter func11,ntmps11;go_wp2_with fail;refine (CT.out w).mono ?_;rintro e W1⟨rfl,bk⟩;replace hb:=bws hb bk;clear bk CT;go_wp2_with fail
  try rw[zC]
  try rw[zA]
  clear zC zA
  go_loopw [4,6,7] (fun dv yv lv wr=>∃ (k r y:Nat),qbP k+r=D∧y=1970+k∧k≤8029∧dv=.int .i64 (r:Int)∧yv=.int .i64 (y:Int)∧Below w.heap.size w wr) (fun dv _ _ _=>(intOf dv).toNat)
  case atStart=>exact⟨0,D,1970,by show 0+D=D;omega,rfl,by omega,rfl,rfl,hb⟩
  case round=>
   clear hb;obtain⟨k,r,y,hk,hy,hk2,rfl,rfl,hb⟩:=hrel;have CL:=hid (fun W=>rleap_any y W (by omega));have zE:=ylen_le k;have zk:Hid (ylen k=if qaJ y=true then 366 else 365):=hid (by rw[ylen,hy]);have z0:=hid hy;have zd:=hid hk;have hr9:r≤2932896:=by omega
   have hy9:y≤100000:=by omega
   cases hl:qaJ y with
   | true=>
    rw[hl]at zk CL;clear hl hk hy;have zq:ylen k=366:=zk.out;clear zk;have z8:=hid zq;clear zq zE;go_wp2_with fail;refine (CL.out wr).mono ?_;rintro e W2⟨rfl,bk⟩;replace hb:=bws hb bk;clear bk CL;by_cases zp:r<366
    ·have hd:decide ((r:Int)<366)=true:=by simp;omega
     have zc:Hid (yrOf D=(k,r)):=hid (yr_of D k r zt zd.out (by rw[z8.out];exact zp));obtain⟨lp,za⟩:∃ lp,qaJ (1970+k)=lp:=⟨_,rfl⟩;have zg:=hid za;have zn:Hid (r<qbv lp 12):=hid (by rw[← za,qfF,z8.out];exact zp);have zB:y≤100000:=by have:=z0.out;omega
     have zr:=z0.out;rw[show qaJ (1970+k)=qaJ y by rw[zr]]at za;have ze:=hid (fun (j:Nat) (hj:j<12) (m:Int) (hm:m=(j:Int)+1) W=>rmonth_any y j W zB hj m hm);rw[za]at ze;clear za zr z8;go_wp2_with fail
     go_loopw [4,8] (fun dv mv wr=>∃ (j e:Nat),qbv lp j+e=r∧j<12∧dv=.int .i64 (e:Int)∧mv=.int .i64 ((j:Int)+1)∧Below w.heap.size w wr) (fun dv _ _=>(intOf dv).toNat)
     case atStart=>exact⟨0,r,by show 0+r=r;omega,by omega,rfl,rfl,hb⟩
     case round=>
      clear hb;obtain⟨j,e,zo,z9,rfl,rfl,hb⟩:=hrel;have CM:=hid (ze.out j z9 ((j:Int)+1) rfl);have zz:=qdY lp j;have zh:Hid (28≤mlen lp j):=hid (mlen_ge lp j z9);obtain⟨ml,zj⟩:∃ ml,mlen lp j=ml:=⟨_,rfl⟩;rw[zj]at CM zz zh;have zi:=hid zj;have z7:=hid zo;have zF:e≤400:=by omega
      clear zj zo;have wj:wrap64 ((j:Int)+1+1)=(j:Int)+1+1:=by unfold wrap64;omega
      by_cases zG:ml≤e
      ·have zy:decide ((ml:Int)≤(e:Int))=true:=by simp;omega
       have zu:Hid (j+1<12):=hid (by
        by_cases c:j=11
        ·exfalso;have a:=zn.out;have b:=z7.out;have d:=zi.out;subst c;rw[show qbv lp 12=qbv lp 11+mlen lp 11 from rfl]at a;omega
        ·omega)
       have zf:Hid (qbv lp (j+1)+(e-ml)=r):=hid (by rw[qbv,zi.out];have:=z7.out;omega);have zH:28≤ml:=zh.out;clear z7;go_wp2_with fail;refine (CM.out _).mono ?_;rintro ee W3⟨rfl,bk⟩;replace hb:=bws hb bk;clear bk;go_wp2_with fail;refine (CM.out _).mono ?_;rintro ee W4⟨rfl,bk⟩;replace hb:=bws hb bk;clear bk CM;go_wp2_with fail;go_roundw
       case rel=>exact⟨j+1,e-ml,zf.out,zu.out,by first|(congr 1;unfold wrap64;omega)|(congr 1;omega),by first|(congr 1;unfold wrap64;omega)|(congr 1;omega)|rfl,hb⟩
       case measure=>simp[intOf];(try unfold wrap64);omega
      ·have zy:decide ((ml:Int)≤(e:Int))=false:=by simp;omega
       have zm:Hid (moOf D=(j,e)):=hid (mo_of D j e zt (by rw[zc.out];simp only;rw[zg.out];exact z7.out) (by rw[zc.out];simp only;rw[zg.out,zi.out];omega));have zb:(y:Int)=((1970+k:Nat):Int):=by rw[z0.out]
       have zw:Hid (timB N=dgB 4 (y:Int)++dgB 2 ((j:Int)+1)++dgB 2 ((e:Int)+1)++dgB 2 (sv/3600)++dgB 2 (sv/60%60)++dgB 2 (sv%60)++⟨#[90]⟩):=hid (by rw[zb,← zs.out];exact qgQ N k r j e (by have:=HN.out;omega) (by rw[HD.out];exact zc.out) (by rw[HD.out];exact zm.out));have C1:=hid (fun W=>rdig4_any (y:Int) W (by omega) (by omega));have C2:=hid (fun W=>qcJ ((j:Int)+1) W (by omega) (by omega));have C3:=hid (fun W=>qcJ ((e:Int)+1) W (by omega) (by omega));have C4:=hid (fun W=>qcJ (sv/3600) W (by omega) (by omega));have C5:=hid (fun W=>qcJ (sv/60%60) W (by omega) (by omega));have C6:=hid (fun W=>qcJ (sv%60) W (by omega) (by omega));have z1:=qbM 4 (y:Int);have z2:=qbM 2 ((j:Int)+1);have z3:=qbM 2 ((e:Int)+1);have z4:=qbM 2 (sv/3600);have z5:=qbM 2 (sv/60%60);have z6:=qbM 2 (sv%60);generalize dgB 4 (y:Int)=A1 at *;generalize dgB 2 ((j:Int)+1)=A2 at *;generalize dgB 2 ((e:Int)+1)=A3 at *;generalize dgB 2 (sv/3600)=A4 at *;generalize dgB 2 (sv/60%60)=A5 at *;generalize dgB 2 (sv%60)=A6 at *;have k1:A1.size+A2.size≤9223372036854775807:=by omega
       have k2:A1.size+A2.size+A3.size≤9223372036854775807:=by omega
       have k3:A1.size+A2.size+A3.size+A4.size≤9223372036854775807:=by omega
       have k4:A1.size+A2.size+A3.size+A4.size+A5.size≤9223372036854775807:=by omega
       have k5:A1.size+A2.size+A3.size+A4.size+A5.size+A6.size≤9223372036854775807:=by omega
       have k6:A1.size+A2.size+A3.size+A4.size+A5.size+A6.size+1≤9223372036854775807:=by omega
       clear z1 z2 z3 z4 z5 z6 zm z7 zb zh zn zg zc zd z0 HD zs HN;go_wp2_with fail;refine (CM.out _).mono ?_;rintro ee W3⟨rfl,bk⟩;replace hb:=bws hb bk;clear bk CM ze;go_wp2_with fail;refine (C1.out _).mono ?_;rintro ee V1⟨rfl,bk⟩;replace hb:=bws hb bk;clear bk C1;go_wp2_with fail;refine (C2.out _).mono ?_;rintro ee V2⟨rfl,bk⟩;replace hb:=bws hb bk;clear bk C2;go_wp2_with fail;refine (C3.out _).mono ?_;rintro ee V3⟨rfl,bk⟩;replace hb:=bws hb bk;clear bk C3;go_wp2_with fail;refine (C4.out _).mono ?_;rintro ee V4⟨rfl,bk⟩;replace hb:=bws hb bk;clear bk C4;go_wp2_with fail;refine (C5.out _).mono ?_;rintro ee V5⟨rfl,bk⟩;replace hb:=bws hb bk;clear bk C5;go_wp2_with fail;refine (C6.out _).mono ?_;rintro ee V6⟨rfl,bk⟩;replace hb:=bws hb bk;clear bk C6;go_wp2_with fail;go_ret2;exact⟨by rw[HX.out.1,HX.out.2,zw.out];rfl,hb⟩
    ·have hd:decide ((r:Int)<366)=false:=by simp;omega
     have hr:366≤r:=by omega
     have zl:Hid (qbP (k+1)+(r-366)=D):=hid (by rw[qbP,z8.out];have:=zd.out;omega);have zv:Hid (k+1≤8029):=hid (by
      by_cases c:k=8029
      ·exfalso;have a:=qev 8030 9999 rfl;have b:=zl.out;rw[c]at b
       change qbP 8030+_=D at b
       omega
      ·omega)
     have zx:Hid (y+1=1970+(k+1)):=hid (by have:=z0.out;omega);clear zd z0 z8;go_wp2_with fail;go_roundw
     case rel=>exact⟨k+1,r-366,y+1,zl.out,zx.out,zv.out,by first|(congr 1;unfold wrap64;omega)|(congr 1;omega),by go_num,hb⟩
     case measure=>simp[intOf];(try unfold wrap64);omega
   | false=>
    rw[hl]at zk CL;clear hl hk hy;have zq:ylen k=365:=zk.out;clear zk;have z8:=hid zq;clear zq zE;go_wp2_with fail;refine (CL.out wr).mono ?_;rintro e W2⟨rfl,bk⟩;replace hb:=bws hb bk;clear bk CL;by_cases zp:r<365
    ·have hd:decide ((r:Int)<365)=true:=by simp;omega
     have zc:Hid (yrOf D=(k,r)):=hid (yr_of D k r zt zd.out (by rw[z8.out];exact zp));obtain⟨lp,za⟩:∃ lp,qaJ (1970+k)=lp:=⟨_,rfl⟩;have zg:=hid za;have zn:Hid (r<qbv lp 12):=hid (by rw[← za,qfF,z8.out];exact zp);have zB:y≤100000:=by have:=z0.out;omega
     have zr:=z0.out;rw[show qaJ (1970+k)=qaJ y by rw[zr]]at za;have ze:=hid (fun (j:Nat) (hj:j<12) (m:Int) (hm:m=(j:Int)+1) W=>rmonth_any y j W zB hj m hm);rw[za]at ze;clear za zr z8;go_wp2_with fail
     go_loopw [4,8] (fun dv mv wr=>∃ (j e:Nat),qbv lp j+e=r∧j<12∧dv=.int .i64 (e:Int)∧mv=.int .i64 ((j:Int)+1)∧Below w.heap.size w wr) (fun dv _ _=>(intOf dv).toNat)
     case atStart=>exact⟨0,r,by show 0+r=r;omega,by omega,rfl,rfl,hb⟩
     case round=>
      clear hb;obtain⟨j,e,zo,z9,rfl,rfl,hb⟩:=hrel;have CM:=hid (ze.out j z9 ((j:Int)+1) rfl);have zz:=qdY lp j;have zh:Hid (28≤mlen lp j):=hid (mlen_ge lp j z9);obtain⟨ml,zj⟩:∃ ml,mlen lp j=ml:=⟨_,rfl⟩;rw[zj]at CM zz zh;have zi:=hid zj;have z7:=hid zo;have zF:e≤400:=by omega
      clear zj zo;have wj:wrap64 ((j:Int)+1+1)=(j:Int)+1+1:=by unfold wrap64;omega
      by_cases zG:ml≤e
      ·have zy:decide ((ml:Int)≤(e:Int))=true:=by simp;omega
       have zu:Hid (j+1<12):=hid (by
        by_cases c:j=11
        ·exfalso;have a:=zn.out;have b:=z7.out;have d:=zi.out;subst c;rw[show qbv lp 12=qbv lp 11+mlen lp 11 from rfl]at a;omega
        ·omega)
       have zf:Hid (qbv lp (j+1)+(e-ml)=r):=hid (by rw[qbv,zi.out];have:=z7.out;omega);have zH:28≤ml:=zh.out;clear z7;go_wp2_with fail;refine (CM.out _).mono ?_;rintro ee W3⟨rfl,bk⟩;replace hb:=bws hb bk;clear bk;go_wp2_with fail;refine (CM.out _).mono ?_;rintro ee W4⟨rfl,bk⟩;replace hb:=bws hb bk;clear bk CM;go_wp2_with fail;go_roundw
       case rel=>exact⟨j+1,e-ml,zf.out,zu.out,by first|(congr 1;unfold wrap64;omega)|(congr 1;omega),by first|(congr 1;unfold wrap64;omega)|(congr 1;omega)|rfl,hb⟩
       case measure=>simp[intOf];(try unfold wrap64);omega
      ·have zy:decide ((ml:Int)≤(e:Int))=false:=by simp;omega
       have zm:Hid (moOf D=(j,e)):=hid (mo_of D j e zt (by rw[zc.out];simp only;rw[zg.out];exact z7.out) (by rw[zc.out];simp only;rw[zg.out,zi.out];omega));have zb:(y:Int)=((1970+k:Nat):Int):=by rw[z0.out]
       have zw:Hid (timB N=dgB 4 (y:Int)++dgB 2 ((j:Int)+1)++dgB 2 ((e:Int)+1)++dgB 2 (sv/3600)++dgB 2 (sv/60%60)++dgB 2 (sv%60)++⟨#[90]⟩):=hid (by rw[zb,← zs.out];exact qgQ N k r j e (by have:=HN.out;omega) (by rw[HD.out];exact zc.out) (by rw[HD.out];exact zm.out));have C1:=hid (fun W=>rdig4_any (y:Int) W (by omega) (by omega));have C2:=hid (fun W=>qcJ ((j:Int)+1) W (by omega) (by omega));have C3:=hid (fun W=>qcJ ((e:Int)+1) W (by omega) (by omega));have C4:=hid (fun W=>qcJ (sv/3600) W (by omega) (by omega));have C5:=hid (fun W=>qcJ (sv/60%60) W (by omega) (by omega));have C6:=hid (fun W=>qcJ (sv%60) W (by omega) (by omega));have z1:=qbM 4 (y:Int);have z2:=qbM 2 ((j:Int)+1);have z3:=qbM 2 ((e:Int)+1);have z4:=qbM 2 (sv/3600);have z5:=qbM 2 (sv/60%60);have z6:=qbM 2 (sv%60);generalize dgB 4 (y:Int)=A1 at *;generalize dgB 2 ((j:Int)+1)=A2 at *;generalize dgB 2 ((e:Int)+1)=A3 at *;generalize dgB 2 (sv/3600)=A4 at *;generalize dgB 2 (sv/60%60)=A5 at *;generalize dgB 2 (sv%60)=A6 at *;have k1:A1.size+A2.size≤9223372036854775807:=by omega
       have k2:A1.size+A2.size+A3.size≤9223372036854775807:=by omega
       have k3:A1.size+A2.size+A3.size+A4.size≤9223372036854775807:=by omega
       have k4:A1.size+A2.size+A3.size+A4.size+A5.size≤9223372036854775807:=by omega
       have k5:A1.size+A2.size+A3.size+A4.size+A5.size+A6.size≤9223372036854775807:=by omega
       have k6:A1.size+A2.size+A3.size+A4.size+A5.size+A6.size+1≤9223372036854775807:=by omega
       clear z1 z2 z3 z4 z5 z6 zm z7 zb zh zn zg zc zd z0 HD zs HN;go_wp2_with fail;refine (CM.out _).mono ?_;rintro ee W3⟨rfl,bk⟩;replace hb:=bws hb bk;clear bk CM ze;go_wp2_with fail;refine (C1.out _).mono ?_;rintro ee V1⟨rfl,bk⟩;replace hb:=bws hb bk;clear bk C1;go_wp2_with fail;refine (C2.out _).mono ?_;rintro ee V2⟨rfl,bk⟩;replace hb:=bws hb bk;clear bk C2;go_wp2_with fail;refine (C3.out _).mono ?_;rintro ee V3⟨rfl,bk⟩;replace hb:=bws hb bk;clear bk C3;go_wp2_with fail;refine (C4.out _).mono ?_;rintro ee V4⟨rfl,bk⟩;replace hb:=bws hb bk;clear bk C4;go_wp2_with fail;refine (C5.out _).mono ?_;rintro ee V5⟨rfl,bk⟩;replace hb:=bws hb bk;clear bk C5;go_wp2_with fail;refine (C6.out _).mono ?_;rintro ee V6⟨rfl,bk⟩;replace hb:=bws hb bk;clear bk C6;go_wp2_with fail;go_ret2;exact⟨by rw[HX.out.1,HX.out.2,zw.out];rfl,hb⟩
    ·have hd:decide ((r:Int)<365)=false:=by simp;omega
     have hr:365≤r:=by omega
     have zl:Hid (qbP (k+1)+(r-365)=D):=hid (by rw[qbP,z8.out];have:=zd.out;omega);have zv:Hid (k+1≤8029):=hid (by
      by_cases c:k=8029
      ·exfalso;have a:=qev 8030 9999 rfl;have b:=zl.out;rw[c]at b
       change qbP 8030+_=D at b
       omega
      ·omega)
     have zx:Hid (y+1=1970+(k+1)):=hid (by have:=z0.out;omega);clear zd z0 z8;go_wp2_with fail;go_roundw
     case rel=>exact⟨k+1,r-365,y+1,zl.out,zx.out,zv.out,by first|(congr 1;unfold wrap64;omega)|(congr 1;omega),by go_num,hb⟩
     case measure=>simp[intOf];(try unfold wrap64);omega
 ·have zD:isTm n=false:=by simpa using ht
  have HX:Hid (timX n=⟨#[]⟩∧timE n=1):=hid ⟨if_neg ht,if_neg ht⟩;rw[zD]at CT;clear ht zD;go_enter func11,ntmps11;go_wp2_with fail;refine (CT.out w).mono ?_;rintro e W1⟨rfl,bk⟩;replace hb:=bws hb bk;clear bk;go_wp2_with fail;go_ret2;exact⟨by rw[HX.out.1,HX.out.2];rfl,hb⟩
theorem all_bytes(l:List UInt8)(p:UInt8→Bool)(q:Nat→Prop)(z0:∀ x:UInt8,p x=true↔q x.toNat):l.all p=true↔∀ i,i<l.length→q (rdB l i):=by
 rw[List.all_eq_true];constructor
 ·intro h i hi;rw[rdB,List.getD_eq_getElem?_getD,List.getElem?_eq_getElem hi,Option.getD_some];exact (z0 _).1 (h _ (List.getElem_mem hi))
 ·intro h x hx;obtain⟨i,hi,rfl⟩:=List.mem_iff_getElem.1 hx;have:=h i hi;rw[rdB,List.getD_eq_getElem?_getD,List.getElem?_eq_getElem hi,Option.getD_some]at this;exact (z0 _).2 this
theorem nm_all(s:ByteArray):(s.data.toList.all fun x=>decide (32≤x.toNat)&&decide (x.toNat≤126))=true↔∀ i,i<s.size→32≤rdB s.data.toList i∧rdB s.data.toList i≤126:=by
 rw[all_bytes s.data.toList _ (fun b=>32≤b∧b≤126) (fun x=>by simp),← Lib.size_eq]
theorem isNm_bad(s:ByteArray)(k:Nat)(hk:k<s.size)(h:¬ (32≤rdB s.data.toList k∧rdB s.data.toList k≤126)):isNm s=false:=by
 rw[isNm]
 cases e:(s.data.toList.all fun x=>decide (32≤x.toNat)&&decide (x.toNat≤126)) with
 | false=>rw[Bool.and_false]
 | true=>exact absurd ((nm_all s).1 e k hk) h
theorem isNm_good(s:ByteArray)(h:∀ i,i<s.size→32≤rdB s.data.toList i∧rdB s.data.toList i≤126):isNm s=(decide (1≤s.size)&&decide (s.size≤32)):=by
 rw[isNm,(nm_all s).2 h,Bool.and_true]
theorem rIsName_any(s:ByteArray)(w:World)(hs:s.size≤1000000000):Rt 58 #[.string s] w (.bool (isNm s)):=by
 unfold Rt;have hb:=Below.refl w.heap.size w;have z1:=hid (fun k (h:k<s.size)=>qce s k h);have z2:=hid (fun k=>qbA s.data.toList k);go_enter func58,ntmps58;go_wp2_with fail
 go_loopw [3] (fun iv wr=>∃ k:Nat,k≤s.size∧iv=.int .i64 (k:Int)∧(∀ i,i<k→32≤rdB s.data.toList i∧rdB s.data.toList i≤126)∧w=wr) (fun iv _=>s.size-(intOf iv).toNat)
 case atStart=>exact⟨0,by omega,rfl,fun i hi=>by omega,rfl⟩
 case round=>
  obtain⟨k,hk,rfl,z4,rfl⟩:=hrel;have HP:=hid z4;clear z4;by_cases z6:k<s.size
  ·have hd:decide ((k:Int)<(s.size:Int))=true:=by simp;omega
   have hik:(k:Int)<(s.size:Int):=by omega
   have tk:=z1.out k z6;have z3:=z2.out k;obtain⟨b,z5⟩:∃ b,rdB s.data.toList k=b:=⟨_,rfl⟩;rw[z5]at tk z3;have z0:=hid z5;clear z5;by_cases c1:b<32
   ·have d1:decide ((b:Int)<32)=true:=by simp;omega
    have HF:Hid (isNm s=false):=hid (isNm_bad s k z6 (by rw[z0.out];omega));clear z0 HP z1 z2;go_wp2_with fail;go_ret;exact⟨by rw[HF.out];rfl,hb⟩
   ·have d1:decide ((b:Int)<32)=false:=by simp;omega
    by_cases c2:126<b
    ·have d2:decide ((126:Int)<(b:Int))=true:=by simp;omega
     have HF:Hid (isNm s=false):=hid (isNm_bad s k z6 (by rw[z0.out];omega));clear z0 HP z1 z2;go_wp2_with fail;go_ret;exact⟨by rw[HF.out];rfl,hb⟩
    ·have d2:decide ((126:Int)<(b:Int))=false:=by simp;omega
     have z7:Hid (∀ i,i<k+1→32≤rdB s.data.toList i∧rdB s.data.toList i≤126):=hid (fun i hi=>by
      by_cases c:i<k
      ·exact HP.out i c
      ·obtain rfl:i=k:=by omega
       rw[z0.out];omega)
     clear z0 HP z1 z2;go_wp2_with fail;go_roundw
     case rel=>exact⟨k+1,by omega,by go_num,z7.out,by first|rfl|trivial⟩
     case measure=>simp[intOf];omega
  ·have hd:decide ((k:Int)<(s.size:Int))=false:=by simp;omega
   obtain rfl:k=s.size:=by omega
   have HG:=hid (isNm_good s HP.out);clear HP z1 z2;by_cases c1:1≤s.size
   ·have d1:decide ((1:Int)≤(s.size:Int))=true:=by simp;omega
    by_cases c2:s.size≤32
    ·have d2:decide ((s.size:Int)≤32)=true:=by simp;omega
     have HF:Hid (isNm s=true):=hid (by rw[HG.out,decide_eq_true c1,decide_eq_true c2];rfl);clear HG c1 c2;go_wp2_with fail;go_ret;exact⟨by rw[HF.out];rfl,hb⟩
    ·have d2:decide ((s.size:Int)≤32)=false:=by simp;omega
     have HF:Hid (isNm s=false):=hid (by rw[HG.out,decide_eq_false c2,Bool.and_false]);clear HG c1 c2;go_wp2_with fail;go_ret;exact⟨by rw[HF.out];rfl,hb⟩
   ·have d1:decide ((1:Int)≤(s.size:Int))=false:=by simp;omega
    have HF:Hid (isNm s=false):=hid (by rw[HG.out,decide_eq_false c1,Bool.false_and]);clear HG c1;go_wp2_with fail;go_ret;exact⟨by rw[HF.out];rfl,hb⟩
theorem isTx_bad(s:ByteArray)(k:Nat)(hk:k<14)(hs:s.size=15)(h:¬ (48≤rdB s.data.toList k∧rdB s.data.toList k≤57)):isTx s=false:=by
 have hl:s.data.toList.length=15:=by rw[← Lib.size_eq];exact hs
 rw[isTx]
 cases e:((s.data.toList.take 14).all fun x=>decide (48≤x.toNat)&&decide (x.toNat≤57)) with
 | false=>rw[Bool.and_false]
 | true=>
  have:=(all_bytes (s.data.toList.take 14) _ (fun b=>48≤b∧b≤57) (fun x=>by simp)).1 e k (by rw[List.length_take];omega);rw[rdB,List.getD_eq_getElem?_getD,List.getElem?_take,if_pos hk,← List.getD_eq_getElem?_getD]at this;exact absurd this h
theorem isTx_good(s:ByteArray)(hs:s.size=15)(hz:rdB s.data.toList 14=90)(h:∀ k,k<14→48≤rdB s.data.toList k∧rdB s.data.toList k≤57):isTx s=true:=by
 have hl:s.data.toList.length=15:=by rw[← Lib.size_eq];exact hs
 rw[isTx,Bool.and_eq_true,Bool.and_eq_true];refine⟨⟨by rw[hs];rfl,?_⟩,?_⟩
 ·rw[beq_iff_eq];exact UInt8.toNat_inj.1 hz
 ·rw[all_bytes (s.data.toList.take 14) _ (fun b=>48≤b∧b≤57) (fun x=>by simp)];intro i hi;rw[List.length_take]at hi;have:=h i (by omega);rw[rdB,List.getD_eq_getElem?_getD,List.getElem?_take,if_pos (by omega),← List.getD_eq_getElem?_getD];exact this
theorem isTx_size(s:ByteArray)(h:s.size≠15):isTx s=false:=by
 rw[isTx,show (s.size==15)=false by simpa using h]
 rfl
theorem isTx_z(s:ByteArray)(h:rdB s.data.toList 14≠90):isTx s=false:=by
 rw[isTx];have:(s.data.toList.getD 14 0==90)=false:=by
  rw[beq_eq_false_iff_ne];exact fun e=>h (by rw[rdB,e];rfl)
 rw[this,Bool.and_false,Bool.false_and]
theorem tim_nat(n:Nat)(h:n≤253402300799):timX (n:Int)=timB n∧timE (n:Int)=0:=by
 have ht:isTm (n:Int)=true:=(qdN _).2 (by omega);exact⟨by rw[timX,if_pos ht];rfl,if_pos ht⟩
theorem tx_eq(n:Nat)(s:ByteArray)(hn:n≤253402300799)(h:isTx s=true):timB n=s↔timV n=numT s:=by
 obtain⟨a,b,_⟩:=qgK s h;constructor
 ·intro e;have:(timB n).data.toList=s.data.toList:=by rw[e]
  rw[qc7,a]at this;exact digL_inj 14 _ _ (by rw[ten14];exact qeO n hn) b (List.append_inj' this rfl).1
 ·intro e;apply ByteArray.ext;apply Array.toList_inj.1;rw[qc7,e,← a]
theorem rAt_any(s:ByteArray)(w:World)(hs:s.size≤1000000000):Rt 79 #[.string s] w (.int .i64 (atS s)):=by
 unfold Rt;have hb:=Below.refl w.heap.size w;by_cases za:s.size=15
 ·have zo:((s.size:Int) != 15)=false:=by simp;omega
  have zs:(14:Int)<(s.size:Int):=by omega
  have zm:=qce s 14 (by omega);have zi:=qbA s.data.toList 14;by_cases hz:rdB s.data.toList 14=90
  ·have dz:((rdB s.data.toList 14:Int) != 90)=false:=by simp;omega
   have z8:=hid (fun k (h:k<s.size)=>qce s k h);have z9:=hid (fun k=>qbA s.data.toList k);have z2:=hid za;have HZ:=hid hz;generalize rdB s.data.toList 14=z at zm zi dz;clear hz za;go_enter func79,ntmps79;go_wp2_with fail;clear zm zi dz zo
   go_loopw [3] (fun iv wr=>∃ k:Nat,k≤14∧iv=.int .i64 (k:Int)∧(∀ i,i<k→48≤rdB s.data.toList i∧rdB s.data.toList i≤57)∧w=wr) (fun iv _=>14-(intOf iv).toNat)
   case atStart=>exact⟨0,by omega,rfl,fun i hi=>by omega,rfl⟩
   case round=>
    obtain⟨k,hk,rfl,ze,rfl⟩:=hrel;have HP:=hid ze;clear ze;by_cases zp:k<14
    ·have hd:decide ((k:Int)<14)=true:=by simp;omega
     have hik:(k:Int)<(s.size:Int):=by omega
     have tk:=z8.out k (by omega);have zb:=z9.out k;obtain⟨b,zj⟩:∃ b,rdB s.data.toList k=b:=⟨_,rfl⟩;rw[zj]at tk zb;have z4:=hid zj;clear zj;by_cases c1:b<48
     ·have d1:decide ((b:Int)<48)=true:=by simp;omega
      have HF:Hid (atS s = -1):=hid (by rw[atS,isTx_bad s k zp z2.out (by rw[z4.out];omega)];rfl);clear z4 HP z8 z9 z2 HZ;go_wp2_with fail;go_ret;exact⟨by rw[HF.out];rfl,hb⟩
     ·have d1:decide ((b:Int)<48)=false:=by simp;omega
      by_cases c2:57<b
      ·have d2:decide ((57:Int)<(b:Int))=true:=by simp;omega
       have HF:Hid (atS s = -1):=hid (by rw[atS,isTx_bad s k zp z2.out (by rw[z4.out];omega)];rfl);clear z4 HP z8 z9 z2 HZ;go_wp2_with fail;go_ret;exact⟨by rw[HF.out];rfl,hb⟩
      ·have d2:decide ((57:Int)<(b:Int))=false:=by simp;omega
       have zr:Hid (∀ i,i<k+1→48≤rdB s.data.toList i∧rdB s.data.toList i≤57):=hid (fun i hi=>by
        by_cases c:i<k
        ·exact HP.out i c
        ·obtain rfl:i=k:=by omega
         rw[z4.out];omega)
       clear z4 HP z8 z9 z2 HZ;go_wp2_with fail;go_roundw
       case rel=>exact⟨k+1,by omega,by go_num,zr.out,by first|rfl|trivial⟩
       case measure=>simp[intOf];omega
    ·have hd:decide ((k:Int)<14)=false:=by simp;omega
     obtain rfl:k=14:=by omega
     have HT:=hid (isTx_good s z2.out HZ.out HP.out);clear HP z8 z9 z2 HZ zs;have HA:Hid (atS s=if timV (bsF 38 0 253402300799 (numT s))=numT s then ((bsF 38 0 253402300799 (numT s):Nat):Int) else -1):=hid (if_pos HT.out);obtain⟨v,hv⟩:∃ v,numT s=v:=⟨_,rfl⟩;have HV:=hid hv;rw[hv]at HA;clear hv;obtain⟨R,hR⟩:∃ R,bsF 38 0 253402300799 v=R:=⟨_,rfl⟩;rw[hR]at HA;have HR:=hid hR;clear hR;go_wp2_with fail
     go_loopw [4,5,6,7,8] (fun lv hv _ _ _ wr=>∃ (f low z0:Nat),low≤z0∧z0≤253402300799∧z0-low<2^f∧Hid (bsF f low z0 v=R)∧lv=.int .i64 (low:Int)∧hv=.int .i64 (z0:Int)∧Below w.heap.size w wr) (fun lv hv _ _ _ _=>(intOf hv-intOf lv).toNat)
     case atStart=>exact⟨38,0,253402300799,by omega,by omega,by decide,HR,rfl,rfl,hb⟩
     case round=>
      clear hb;obtain⟨f,low,z0,hlh,hh,hf,HB,rfl,rfl,hb⟩:=hrel;by_cases zc:low<z0
      ·have zt:decide ((low:Int)<(z0:Int))=true:=by simp;omega
       obtain⟨z1,zd⟩:∃ z1,z1=(low+z0)/2:=⟨_,rfl⟩;have hm1:((low:Int)+(z0:Int))/2=(z1:Int):=by omega
       have z3:z1≤253402300799:=by omega
       obtain⟨g,rfl⟩:∃ g,f=g+1:=⟨f-1,by
        cases f with
        | zero=>simp at hf;omega
        | succ g=>omega⟩
       have CT:=hid (fun W=>qge (z1:Int) W (by omega) (by omega));rw[(tim_nat z1 z3).1,(tim_nat z1 z3).2]at CT;have z6:=hid (tx_less z1 s z3 HT.out);rw[HV.out]at z6;have zf:Hid ((if timV z1<v then bsF g (z1+1) z0 v else bsF g low z1 v)=R):=hid (by
        have:=HB.out;rw[bsF,if_pos zc,← zd]at this;exact this)
       have zl:(2:Nat)^(g+1)=2^g*2:=Nat.pow_succ ..;have zu:z0-(z1+1)<2^g:=by omega
       have zv:z1-low<2^g:=by omega
       have zx:low≤z1:=by omega
       have hmh:z1<z0:=by omega
       obtain⟨tb,z7⟩:∃ tb,timB z1=tb:=⟨_,rfl⟩;rw[z7,← Lib.toList_data,← Lib.toList_data]at z6;rw[z7]at CT;clear zd z7 HB zl hf;by_cases c:timV z1<v
       ·have zw:Op.bytesLess tb.toList s.toList=true:=by rw[z6.out];exact decide_eq_true c
        have zh:Hid (bsF g (z1+1) z0 v=R):=hid (by have:=zf.out;rwa[if_pos c]at this);clear zf z6 c;go_wp2_with fail;refine (CT.out _).mono ?_;rintro ee W3⟨rfl,bk⟩;replace hb:=bws hb bk;clear bk CT;go_wp2_with fail;go_roundw
        case rel=>
         refine⟨_,_,_,_,_,_,_,_,_,_,_,_,_,_,_,_,_,_,_,_,_,_,_,?_,rfl⟩;exact⟨g,z1+1,z0,by omega,hh,zu,zh,by first|(congr 1;unfold wrap64;omega)|go_num,rfl,hb⟩
        case measure=>simp[intOf];(try unfold wrap64);omega
       ·have zw:Op.bytesLess tb.toList s.toList=false:=by rw[z6.out];exact decide_eq_false c
        have zh:Hid (bsF g low z1 v=R):=hid (by have:=zf.out;rwa[if_neg c]at this);clear zf z6 c;go_wp2_with fail;refine (CT.out _).mono ?_;rintro ee W3⟨rfl,bk⟩;replace hb:=bws hb bk;clear bk CT;go_wp2_with fail;go_roundw
        case rel=>
         refine⟨_,_,_,_,_,_,_,_,_,_,_,_,_,_,_,_,_,_,_,_,_,_,_,?_,rfl⟩;exact⟨g,low,z1,zx,by omega,zv,zh,rfl,rfl,hb⟩
        case measure=>simp[intOf];(try unfold wrap64);omega
      ·have zt:decide ((low:Int)<(z0:Int))=false:=by simp;omega
       have zn:Hid (R=low):=hid (by
        have:=HB.out
        cases f with
        | zero=>exact this.symm
        | succ g=>rw[bsF,if_neg zc]at this;exact this.symm)
       have zk:low≤253402300799:=by omega
       have CT:=hid (fun W=>qge (low:Int) W (by omega) (by omega));rw[(tim_nat low zk).1,(tim_nat low zk).2]at CT;have z5:=hid (tx_eq low s zk HT.out);rw[HV.out]at z5;obtain⟨tb,z7⟩:∃ tb,timB low=tb:=⟨_,rfl⟩;rw[z7]at z5 CT;clear z7 HB;by_cases c:timV low=v
       ·have zq:=z5.out.2 c;have zg:Hid (atS s=(low:Int)):=hid (by rw[HA.out,zn.out,if_pos c]);have zy:(tb.toList==s.toList)=true:=by rw[zq];simp
        clear c z5 HA zq;go_wp2_with fail;refine (CT.out _).mono ?_;rintro ee W3⟨rfl,bk⟩;replace hb:=bws hb bk;clear bk CT;go_wp2_with fail;go_ret;exact⟨by rw[zg.out];rfl,hb⟩
       ·have zg:Hid (atS s = -1):=hid (by rw[HA.out,zn.out,if_neg c]);have zy:(tb.toList==s.toList)=false:=by
         rw[beq_eq_false_iff_ne];intro e;refine c (z5.out.1 ?_);rw[Lib.toList_data,Lib.toList_data]at e;exact ByteArray.ext (Array.toList_inj.1 e)
        clear c z5 HA;go_wp2_with fail;refine (CT.out _).mono ?_;rintro ee W3⟨rfl,bk⟩;replace hb:=bws hb bk;clear bk CT;go_wp2_with fail;go_ret;exact⟨by rw[zg.out];rfl,hb⟩
  ·have dz:((rdB s.data.toList 14:Int) != 90)=true:=by simp;omega
   have HF:Hid (atS s = -1):=hid (by rw[atS,isTx_z s hz];rfl);generalize rdB s.data.toList 14=z at zm zi dz;clear hz za;go_enter func79,ntmps79;go_wp2_with fail;go_ret;exact⟨by rw[HF.out];rfl,hb⟩
 ·have zo:((s.size:Int) != 15)=true:=by simp;omega
  have HF:Hid (atS s = -1):=hid (by rw[atS,isTx_size s za];rfl);clear za;go_enter func79,ntmps79;go_wp2_with fail;go_ret;exact⟨by rw[HF.out];rfl,hb⟩
theorem qbW(z0:Int)(b:ByteArray)(w:World)(h0:-9223372036854775808≤z0)(h1:z0≤9223372036854775807):Rt 63 #[.int .i64 z0,.string b] w (.string (wrX z0 b)):=by
 unfold Rt;have hb:=Below.refl w.heap.size w;have CW:=hid (fun W=>qdr z0 b W h0 h1);generalize wrX z0 b=x at *;generalize wrE z0 b=q at *;clear h0 h1;go_enter func63,ntmps63;go_wp2_with fail;refine (CW.out w).mono ?_;rintro e W1⟨rfl,bk⟩;replace hb:=bws hb bk;clear bk;go_wp2_with fail;go_ret;exact⟨rfl,hb⟩
theorem four_ints(W:World)(a b c d:Int):IntsAt (W.alloc (.cells #[.int .i64 a,.int .i64 b,.int .i64 c,.int .i64 d] 3)) (some ⟨W.heap.size,0,none⟩) [a,b,c,d]:=fun j hj=>⟨W.heap.size,0,rfl,by
 rw[Nat.zero_add,jco _ W.heap.size j _ 3 (0,0) (qad W _)]
 match j,hj with
 | 0,_=>rfl
 | 1,_=>rfl
 | 2,_=>rfl
 | 3,_=>rfl
 | j+4,hj=>simp at hj;omega⟩
theorem four_bounds(a b c d:Int)(ha:0≤a∧a≤1000)(hb:0≤b∧b≤1000)(hc:0≤c∧c≤1000)(hd:0≤d∧d≤1000)(k:Nat):(-9223372036854775808:Int)≤[a,b,c,d].getD k 0∧[a,b,c,d].getD k 0≤9223372036854775807:=by
 match k with
 | 0=>simp;omega
 | 1=>simp;omega
 | 2=>simp;omega
 | 3=>simp;omega
 | k+4=>simp
theorem rAlg_any(w:World):Rt 61 #[] w (.string algB):=by
 unfold Rt;have hb:=Below.refl w.heap.size w;have C2:=hid (fun ao (W:World) (hI:IntsAt W ao [1,3,101,112])=>rOid_any ao 4 4 [1,3,101,112] W rfl (by decide) (four_bounds 1 3 101 112 (by decide) (by decide) (by decide) (by decide)) hI);have CT:=hid (fun W=>qbW 48 (oidX [1,3,101,112]) W (by decide) (by decide));rw[show wrX 48 (oidX [1,3,101,112])=algB from rfl]at CT;have HA:Hid (algB=algB):=hid rfl;generalize algB=al at *;generalize oidX [1,3,101,112]=ob at *;generalize qcc [1,3,101,112]=oe at *;have z0:=four_ints w 1 3 101 112;have bn:=qaf w (.cells #[.int .i64 1,.int .i64 3,.int .i64 101,.int .i64 112] 3);go_enter func61,ntmps61;go_wp2_with fail;refine (C2.out _ _ z0).mono ?_;rintro e W2⟨rfl,bk⟩;replace hb:=bn.trans (bk.mono bn.size);clear bk bn z0 C2;go_wp2_with fail;refine (CT.out _).mono ?_;rintro e W3⟨rfl,bk⟩;replace hb:=bws hb bk;clear bk;go_wp2_with fail;go_ret;exact⟨rfl,hb⟩
theorem rNamed_any(nm:ByteArray)(w:World)(hn:nm.size≤1000000000):Rt 62 #[.string nm] w (.string (qaH nm)):=by
 unfold Rt;have hb:=Below.refl w.heap.size w;have C2:=hid (fun ao (W:World) (hI:IntsAt W ao [2,5,4,3])=>rOid_any ao 4 4 [2,5,4,3] W rfl (by decide) (four_bounds 2 5 4 3 (by decide) (by decide) (by decide) (by decide)) hI);have T1:=hid (fun W=>qbW 12 nm W (by decide) (by decide));have T2:=hid (fun W=>qbW 48 (oidX [2,5,4,3]++wrX 12 nm) W (by decide) (by decide));have T3:=hid (fun W=>qbW 49 (wrX 48 (oidX [2,5,4,3]++wrX 12 nm)) W (by decide) (by decide));have T4:=hid (fun W=>qbW 48 (wrX 49 (wrX 48 (oidX [2,5,4,3]++wrX 12 nm))) W (by decide) (by decide));rw[show wrX 48 (wrX 49 (wrX 48 (oidX [2,5,4,3]++wrX 12 nm)))=qaH nm from rfl]at T4;have h1:=qcz 12 nm;have h2:(oidX [2,5,4,3]).size=5:=by decide
 have hsum:(oidX [2,5,4,3]).size+(wrX 12 nm).size≤9223372036854775807:=by omega
 generalize qaH nm=nb at *;generalize wrX 49 (wrX 48 (oidX [2,5,4,3]++wrX 12 nm))=x3 at *;generalize wrX 48 (oidX [2,5,4,3]++wrX 12 nm)=x2 at *;generalize wrX 12 nm=x1 at *;generalize oidX [2,5,4,3]=ob at *;generalize qcc [2,5,4,3]=oe at *;clear h1 h2 hn;have z0:=four_ints w 2 5 4 3;have bn:=qaf w (.cells #[.int .i64 2,.int .i64 5,.int .i64 4,.int .i64 3] 3);go_enter func62,ntmps62;go_wp2_with fail;refine (C2.out _ _ z0).mono ?_;rintro e W2⟨rfl,bk⟩;replace hb:=bn.trans (bk.mono bn.size);clear bk bn z0 C2;go_wp2_with fail;refine (T1.out _).mono ?_;rintro e W3⟨rfl,bk⟩;replace hb:=bws hb bk;clear bk;go_wp2_with fail;refine (T2.out _).mono ?_;rintro e W4⟨rfl,bk⟩;replace hb:=bws hb bk;clear bk;go_wp2_with fail;refine (T3.out _).mono ?_;rintro e W5⟨rfl,bk⟩;replace hb:=bws hb bk;clear bk;go_wp2_with fail;refine (T4.out _).mono ?_;rintro e W6⟨rfl,bk⟩;replace hb:=bws hb bk;clear bk;go_wp2_with fail;go_ret;exact⟨rfl,hb⟩
theorem rWhole_any(z1 z0:ByteArray)(w:World)(hn:z1.size≤1000000000)(hs:z0.size≤1000000000):Rt 37 #[.string z1,.string z0] w (.string (whoB z1 z0)):=by
 unfold Rt;have hb:=Below.refl w.heap.size w;have CA:=hid rAlg_any;have T1:=hid (fun W=>qbW 3 (qaD++z0) W (by decide) (by decide));have T2:=hid (fun W=>qbW 48 (z1++algB++wrX 3 (qaD++z0)) W (by decide) (by decide));rw[show wrX 48 (z1++algB++wrX 3 (qaD++z0))=whoB z1 z0 from rfl]at T2;have h1:=qcz 3 (qaD++z0);have h2:=qda z0;have h3:algB.size=7:=by rw[qeY];rfl
 have k1:z1.size+algB.size≤9223372036854775807:=by omega
 have k2:1+z0.size≤9223372036854775807:=by omega
 have k3:z1.size+algB.size+(wrX 3 (qaD++z0)).size≤9223372036854775807:=by omega
 rw[show qaD=(⟨#[0]⟩:ByteArray) from rfl]at *;generalize whoB z1 z0=wb at *;generalize wrX 3 (⟨#[0]⟩++z0)=x1 at *;generalize algB=al at *;clear h1 h2 h3 hn hs;go_enter func37,ntmps37;go_wp2_with fail;refine (CA.out _).mono ?_;rintro e W2⟨rfl,bk⟩;replace hb:=bws hb bk;clear bk;go_wp2_with fail;refine (T1.out _).mono ?_;rintro e W3⟨rfl,bk⟩;replace hb:=bws hb bk;clear bk;go_wp2_with fail;refine (T2.out _).mono ?_;rintro e W4⟨rfl,bk⟩;replace hb:=bws hb bk;clear bk;go_wp2_with fail;go_ret;exact⟨rfl,hb⟩
theorem qb2(s:ByteArray)(z0:Int)(w:World)(hs:s.size≤1000000000):Rt 77 #[.string s,.int .i64 z0] w (.tuple #[.string (inT s z0).1,.string (inT s z0).2]):=by
 unfold Rt;have hb:=Below.refl w.heap.size w;have CR:=hid (fun W=>rRead_any s W hs);by_cases c1:qbS s=0
 ·have d1:(qbS s != 0)=false:=by simp;exact c1
  by_cases c2:qc5 s=z0
  ·have d2:(qc5 s != z0)=false:=by simp;exact c2
   have HI:Hid (inT s z0=(qba s,qbD s)):=hid (if_pos ⟨c1,c2⟩);generalize qbS s=q at *;generalize qc5 s=t at *;generalize qba s=bd at *;generalize qbD s=rs at *;clear c1 c2 hs;go_enter func77,ntmps77;go_wp2_with fail;refine (CR.out _).mono ?_;rintro e W2⟨rfl,bk⟩;replace hb:=bws hb bk;clear bk;go_wp2_with fail;go_ret2;exact⟨by rw[HI.out];rfl,hb⟩
  ·have d2:(qc5 s != z0)=true:=by simp;exact c2
   have HI:Hid (inT s z0=(qbT,qbT)):=hid (if_neg (fun h=>c2 h.2));generalize qbS s=q at *;generalize qc5 s=t at *;generalize qba s=bd at *;generalize qbD s=rs at *;clear c1 c2 hs;go_enter func77,ntmps77;go_wp2_with fail;refine (CR.out _).mono ?_;rintro e W2⟨rfl,bk⟩;replace hb:=bws hb bk;clear bk;go_wp2_with fail;go_ret2;exact⟨by rw[HI.out];rfl,hb⟩
 ·have d1:(qbS s != 0)=true:=by simp;exact c1
  have HI:Hid (inT s z0=(qbT,qbT)):=hid (if_neg (fun h=>c1 h.1));generalize qbS s=q at *;generalize qc5 s=t at *;generalize qba s=bd at *;generalize qbD s=rs at *;clear c1 hs;go_enter func77,ntmps77;go_wp2_with fail;refine (CR.out _).mono ?_;rintro e W2⟨rfl,bk⟩;replace hb:=bws hb bk;clear bk;go_wp2_with fail;go_ret2;exact⟨by rw[HI.out];rfl,hb⟩
def cerL(c:CertF):Array Value:=#[.int .i64 c.ser,.string c.nm,.int .i64 c.fr,.int .i64 c.to,.string c.key]
theorem qam{W:World}{g:Nat}{t:TypeId}{sr:Int}{b:ByteArray}{d e:Int}{f:ByteArray}(h:W.heap[g]?=some (.cells #[.int .i64 sr,.string b,.int .i64 d,.int .i64 e,.string f] t)):W.cell? ⟨g,0,none⟩=some (.int .i64 sr)∧W.cell? ⟨g,1,none⟩=some (.string b)∧W.cell? ⟨g,2,none⟩=some (.int .i64 d)∧W.cell? ⟨g,3,none⟩=some (.int .i64 e)∧W.cell? ⟨g,4,none⟩=some (.string f):=by
 refine⟨?_,?_,?_,?_,?_⟩<;>(rw[jco W g _ _ t (0,0) h];rfl)
theorem rRight_any(sr:Int)(b:ByteArray)(d e:Int)(f:ByteArray)(w:World)(hs:b.size≤1000000000):Rt 33 #[.agg #[.int .i64 sr,.string b,.int .i64 d,.int .i64 e,.string f]] w (.bool (qbw ⟨sr,b,d,e,f⟩)):=by
 unfold Rt;have CN:=hid (fun W=>rIsName_any b W hs);have CF:=hid (fun W=>qgr d W);have CT:=hid (fun W=>qgr e W);have HR:Hid (qbw ⟨sr,b,d,e,f⟩=(decide (1≤sr)&&isNm b&&isTm d&&isTm e&&decide (d≤e))):=hid rfl;clear hs;by_cases h1:1≤sr
 ·have d1:decide (1≤sr)=true:=decide_eq_true h1
  cases hn:isNm b with
  | true=>
   rw[hn]at CN
   cases hf:isTm d with
   | true=>
    rw[hf]at CF
    cases ht:isTm e with
    | true=>
     rw[ht]at CT;by_cases h2:d≤e
     ·have d2:decide (d≤e)=true:=decide_eq_true h2;have HV:Hid (qbw ⟨sr,b,d,e,f⟩=true):=hid (by rw[HR.out];simp[d1,hn,hf,ht,d2]);clear HR hn hf ht h1 h2;have HG:=hid (qad w (.cells #[.int .i64 sr,.string b,.int .i64 d,.int .i64 e,.string f] 28));have hb:=qaf w (.cells #[.int .i64 sr,.string b,.int .i64 d,.int .i64 e,.string f] 28);obtain⟨c0,c1,c2,c3,c4⟩:=qam HG.out;go_enter func33,ntmps33;go_wp2_with fail;generalize (w.alloc _)=W0 at *;generalize z0:w.heap.size=g at *;have z1:=hid z0;clear z0;refine (CN.out _).mono ?_;rintro ee V0⟨rfl,bk⟩;replace hb:=bwt hb HG bk;replace HG:=hkp HG bk;clear bk CN c0 c1 c2 c3 c4;obtain⟨c0,c1,c2,c3,c4⟩:=qam HG.out;go_wp2_with fail;refine (CF.out _).mono ?_;rintro ee V1⟨rfl,bk⟩;replace hb:=bwt hb HG bk;replace HG:=hkp HG bk;clear bk CF c0 c1 c2 c3 c4;obtain⟨c0,c1,c2,c3,c4⟩:=qam HG.out;go_wp2_with fail;refine (CT.out _).mono ?_;rintro ee V2⟨rfl,bk⟩;replace hb:=bwt hb HG bk;replace HG:=hkp HG bk;clear bk CT c0 c1 c2 c3 c4;obtain⟨c0,c1,c2,c3,c4⟩:=qam HG.out;go_wp2_with fail;go_ret;exact⟨by rw[HV.out];rfl,by first|exact hb|(rw[z1.out];exact hb)⟩
     ·have d2:decide (d≤e)=false:=decide_eq_false h2;have HV:Hid (qbw ⟨sr,b,d,e,f⟩=false):=hid (by rw[HR.out];simp[d1,hn,hf,ht,d2]);clear HR hn hf ht h1 h2;have HG:=hid (qad w (.cells #[.int .i64 sr,.string b,.int .i64 d,.int .i64 e,.string f] 28));have hb:=qaf w (.cells #[.int .i64 sr,.string b,.int .i64 d,.int .i64 e,.string f] 28);obtain⟨c0,c1,c2,c3,c4⟩:=qam HG.out;go_enter func33,ntmps33;go_wp2_with fail;generalize (w.alloc _)=W0 at *;generalize z0:w.heap.size=g at *;have z1:=hid z0;clear z0;refine (CN.out _).mono ?_;rintro ee V0⟨rfl,bk⟩;replace hb:=bwt hb HG bk;replace HG:=hkp HG bk;clear bk CN c0 c1 c2 c3 c4;obtain⟨c0,c1,c2,c3,c4⟩:=qam HG.out;go_wp2_with fail;refine (CF.out _).mono ?_;rintro ee V1⟨rfl,bk⟩;replace hb:=bwt hb HG bk;replace HG:=hkp HG bk;clear bk CF c0 c1 c2 c3 c4;obtain⟨c0,c1,c2,c3,c4⟩:=qam HG.out;go_wp2_with fail;refine (CT.out _).mono ?_;rintro ee V2⟨rfl,bk⟩;replace hb:=bwt hb HG bk;replace HG:=hkp HG bk;clear bk CT c0 c1 c2 c3 c4;obtain⟨c0,c1,c2,c3,c4⟩:=qam HG.out;go_wp2_with fail;go_ret;exact⟨by rw[HV.out];rfl,by first|exact hb|(rw[z1.out];exact hb)⟩
    | false=>
     rw[ht]at CT;have HV:Hid (qbw ⟨sr,b,d,e,f⟩=false):=hid (by rw[HR.out];simp[d1,hn,hf,ht]);clear HR hn hf ht h1;have HG:=hid (qad w (.cells #[.int .i64 sr,.string b,.int .i64 d,.int .i64 e,.string f] 28));have hb:=qaf w (.cells #[.int .i64 sr,.string b,.int .i64 d,.int .i64 e,.string f] 28);obtain⟨c0,c1,c2,c3,c4⟩:=qam HG.out;go_enter func33,ntmps33;go_wp2_with fail;generalize (w.alloc _)=W0 at *;generalize z0:w.heap.size=g at *;have z1:=hid z0;clear z0;refine (CN.out _).mono ?_;rintro ee V0⟨rfl,bk⟩;replace hb:=bwt hb HG bk;replace HG:=hkp HG bk;clear bk CN c0 c1 c2 c3 c4;obtain⟨c0,c1,c2,c3,c4⟩:=qam HG.out;go_wp2_with fail;refine (CF.out _).mono ?_;rintro ee V1⟨rfl,bk⟩;replace hb:=bwt hb HG bk;replace HG:=hkp HG bk;clear bk CF c0 c1 c2 c3 c4;obtain⟨c0,c1,c2,c3,c4⟩:=qam HG.out;go_wp2_with fail;refine (CT.out _).mono ?_;rintro ee V2⟨rfl,bk⟩;replace hb:=bwt hb HG bk;replace HG:=hkp HG bk;clear bk CT c0 c1 c2 c3 c4;obtain⟨c0,c1,c2,c3,c4⟩:=qam HG.out;go_wp2_with fail;go_ret;exact⟨by rw[HV.out];rfl,by first|exact hb|(rw[z1.out];exact hb)⟩
   | false=>
    rw[hf]at CF;have HV:Hid (qbw ⟨sr,b,d,e,f⟩=false):=hid (by rw[HR.out];simp[d1,hn,hf]);clear HR hn hf h1;have HG:=hid (qad w (.cells #[.int .i64 sr,.string b,.int .i64 d,.int .i64 e,.string f] 28));have hb:=qaf w (.cells #[.int .i64 sr,.string b,.int .i64 d,.int .i64 e,.string f] 28);obtain⟨c0,c1,c2,c3,c4⟩:=qam HG.out;go_enter func33,ntmps33;go_wp2_with fail;generalize (w.alloc _)=W0 at *;generalize z0:w.heap.size=g at *;have z1:=hid z0;clear z0;refine (CN.out _).mono ?_;rintro ee V0⟨rfl,bk⟩;replace hb:=bwt hb HG bk;replace HG:=hkp HG bk;clear bk CN c0 c1 c2 c3 c4;obtain⟨c0,c1,c2,c3,c4⟩:=qam HG.out;go_wp2_with fail;refine (CF.out _).mono ?_;rintro ee V1⟨rfl,bk⟩;replace hb:=bwt hb HG bk;replace HG:=hkp HG bk;clear bk CF c0 c1 c2 c3 c4;obtain⟨c0,c1,c2,c3,c4⟩:=qam HG.out;go_wp2_with fail;go_ret;exact⟨by rw[HV.out];rfl,by first|exact hb|(rw[z1.out];exact hb)⟩
  | false=>
   rw[hn]at CN;have HV:Hid (qbw ⟨sr,b,d,e,f⟩=false):=hid (by rw[HR.out];simp[d1,hn]);clear HR hn h1;have HG:=hid (qad w (.cells #[.int .i64 sr,.string b,.int .i64 d,.int .i64 e,.string f] 28));have hb:=qaf w (.cells #[.int .i64 sr,.string b,.int .i64 d,.int .i64 e,.string f] 28);obtain⟨c0,c1,c2,c3,c4⟩:=qam HG.out;go_enter func33,ntmps33;go_wp2_with fail;generalize (w.alloc _)=W0 at *;generalize z0:w.heap.size=g at *;have z1:=hid z0;clear z0;refine (CN.out _).mono ?_;rintro ee V0⟨rfl,bk⟩;replace hb:=bwt hb HG bk;replace HG:=hkp HG bk;clear bk CN c0 c1 c2 c3 c4;obtain⟨c0,c1,c2,c3,c4⟩:=qam HG.out;go_wp2_with fail;go_ret;exact⟨by rw[HV.out];rfl,by first|exact hb|(rw[z1.out];exact hb)⟩
 ·have d1:decide (1≤sr)=false:=decide_eq_false h1;have HV:Hid (qbw ⟨sr,b,d,e,f⟩=false):=hid (by rw[HR.out];simp[d1]);clear HR h1;have HG:=hid (qad w (.cells #[.int .i64 sr,.string b,.int .i64 d,.int .i64 e,.string f] 28));have hb:=qaf w (.cells #[.int .i64 sr,.string b,.int .i64 d,.int .i64 e,.string f] 28);obtain⟨c0,c1,c2,c3,c4⟩:=qam HG.out;go_enter func33,ntmps33;go_wp2_with fail;generalize (w.alloc _)=W0 at *;generalize z0:w.heap.size=g at *;have z1:=hid z0;clear z0;go_ret;exact⟨by rw[HV.out];rfl,by first|exact hb|(rw[z1.out];exact hb)⟩
theorem rInner_any(sr:Int)(b:ByteArray)(d e:Int)(f:ByteArray)(w:World)(z0:-9223372036854775808≤sr)(z1:sr≤9223372036854775807)(z2:-9223372036854775808≤d)(z3:d≤9223372036854775807)(z4:-9223372036854775808≤e)(z5:e≤9223372036854775807)(hs:b.size≤1000000)(hf:f.size≤1000000):Rt 35 #[.agg #[.int .i64 sr,.string b,.int .i64 d,.int .i64 e,.string f]] w (.string (innB ⟨sr,b,d,e,f⟩)):=by
 unfold Rt;have CA:=hid rAlg_any;have CN:=hid (fun W=>rNamed_any b W (by omega));have CF:=hid (fun W=>qge d W z2 z3);have CT:=hid (fun W=>qge e W z4 z5);have CI:=hid (fun W=>rIntLoop_any sr W z0 z1);have C1:=hid (fun W=>qbW 24 (timX d) W (by decide) (by decide));have C2:=hid (fun W=>qbW 24 (timX e) W (by decide) (by decide));have C3:=hid (fun W=>qbW 48 (wrX 24 (timX d)++wrX 24 (timX e)) W (by decide) (by decide));have C4:=hid (fun W=>qbW 3 (qaD++f) W (by decide) (by decide));have C5:=hid (fun W=>qbW 48 (algB++wrX 3 (qaD++f)) W (by decide) (by decide));have C6:=hid (fun W=>qbW 48 (wrX 2 (intB sr)++algB++qaH b++valB ⟨sr,b,d,e,f⟩++qaH b++keyB ⟨sr,b,d,e,f⟩) W (by decide) (by decide));rw[show wrX 48 (wrX 24 (timX d)++wrX 24 (timX e))=valB ⟨sr,b,d,e,f⟩ from rfl]at C3;rw[show wrX 48 (algB++wrX 3 (qaD++f))=keyB ⟨sr,b,d,e,f⟩ from rfl]at C5;rw[show wrX 48 (wrX 2 (intB sr)++algB++qaH b++valB ⟨sr,b,d,e,f⟩++qaH b++keyB ⟨sr,b,d,e,f⟩)=innB ⟨sr,b,d,e,f⟩ from rfl]at C6;obtain⟨s1,s2,s3,s4,s5,s6,s7⟩:=qdt ⟨sr,b,d,e,f⟩;obtain⟨n1,n2,n3,n4⟩:=qd4 b;have t1:=qdm d;have t2:=qdm e;have w1:=qcz 24 (timX d);have w2:=qcz 24 (timX e);have w3:=qcz 2 (intB sr);have w4:=qga sr;have w5:=qcz 3 (qaD++f);have w6:=qda f;have z8:algB.size=7:=by rw[qeY];rfl
 simp only at s1 s2 s3 s4 s5 s6 s7;have k1:(wrX 2 (intB sr)).size+algB.size≤9223372036854775807:=by omega
 have k2:(wrX 2 (intB sr)).size+algB.size+(qaH b).size≤9223372036854775807:=by omega
 have k3:(wrX 24 (timX d)).size+(wrX 24 (timX e)).size≤9223372036854775807:=by omega
 have k4:(wrX 2 (intB sr)).size+algB.size+(qaH b).size+(valB ⟨sr,b,d,e,f⟩).size≤9223372036854775807:=by omega
 have k5:(wrX 2 (intB sr)).size+algB.size+(qaH b).size+(valB ⟨sr,b,d,e,f⟩).size+(qaH b).size≤9223372036854775807:=by omega
 have k6:1+f.size≤9223372036854775807:=by omega
 have k7:algB.size+(wrX 3 (qaD++f)).size≤9223372036854775807:=by omega
 have k8:(wrX 2 (intB sr)).size+algB.size+(qaH b).size+(valB ⟨sr,b,d,e,f⟩).size+(qaH b).size+(keyB ⟨sr,b,d,e,f⟩).size≤9223372036854775807:=by omega
 clear s1 s2 s3 s4 s5 s6 s7 n1 n2 n3 n4 t1 t2 w1 w2 w3 w4 w5 w6 z8 z0 z1 z2 z3 z4 z5 hs hf;have HZ:Hid (qaD=⟨#[0]⟩):=hid rfl;rw[show qaD=(⟨#[0]⟩:ByteArray) from rfl]at *;generalize innB ⟨sr,b,d,e,f⟩=io at *;generalize keyB ⟨sr,b,d,e,f⟩=kb at *;generalize valB ⟨sr,b,d,e,f⟩=vb at *;generalize wrX 3 (⟨#[0]⟩++f)=xk at *;generalize wrX 24 (timX d)=wf at *;generalize wrX 24 (timX e)=wt at *;generalize timX d=tf at *;generalize timX e=tt at *;generalize timE d=qf at *;generalize timE e=qt at *;generalize wrX 2 (intB sr)=ib at *;generalize qaH b=nb at *;generalize algB=al at *;have HG:=hid (qad w (.cells #[.int .i64 sr,.string b,.int .i64 d,.int .i64 e,.string f] 28));have hb:=qaf w (.cells #[.int .i64 sr,.string b,.int .i64 d,.int .i64 e,.string f] 28);obtain⟨c0,c1,c2,c3,c4⟩:=qam HG.out;go_enter func35,ntmps35;go_wp2_with fail;generalize (w.alloc _)=W0 at *;generalize z6:w.heap.size=g at *;have z7:=hid z6;clear z6;refine (CA.out _).mono ?_;rintro ee V0⟨rfl,bk⟩;replace hb:=bwt hb HG bk;replace HG:=hkp HG bk;clear bk CA c0 c1 c2 c3 c4;obtain⟨c0,c1,c2,c3,c4⟩:=qam HG.out;go_wp2_with fail;refine (CN.out _).mono ?_;rintro ee V1⟨rfl,bk⟩;replace hb:=bwt hb HG bk;replace HG:=hkp HG bk;clear bk CN c0 c1 c2 c3 c4;obtain⟨c0,c1,c2,c3,c4⟩:=qam HG.out;go_wp2_with fail;refine (CF.out _).mono ?_
 rintro ee V2⟨rfl,bk⟩;replace hb:=bwt hb HG bk;replace HG:=hkp HG bk;clear bk CF c0 c1 c2 c3 c4;obtain⟨c0,c1,c2,c3,c4⟩:=qam HG.out;go_wp2_with fail;refine (CT.out _).mono ?_;rintro ee V3⟨rfl,bk⟩;replace hb:=bwt hb HG bk;replace HG:=hkp HG bk;clear bk CT c0 c1 c2 c3 c4;obtain⟨c0,c1,c2,c3,c4⟩:=qam HG.out;go_wp2_with fail;refine qaA 25 50 [(Told.val (.pointer (some ⟨g,0,none⟩)),[1]),
   (Told.val (.int .i64 sr),[25]),
   (Told.val (.string (ib)),[26]),
   (Told.val (.string (al)),[3]),
   (Told.val (.string (ib++al)),[27,28]),
   (Told.val (.string (nb)),[4]),
   (Told.val (.string (ib++al++nb)),[29,30]),
   (Told.val (.string (tf)),[5]),
   (Told.val (.string (wf)),[32]),
   (Told.val (.string (tt)),[7]),
   (Told.val (.string (wt)),[34]),
   (Told.val (.string (wf++wt)),[33,35]),
   (Told.val (.string (vb)),[36]),
   (Told.val (.string (ib++al++nb++vb)),[31,37]),
   (Told.val (.string (nb)),[4]),
   (Told.val (.string (ib++al++nb++vb++nb)),[38,39]),
   (Told.val (.string (al)),[3]),
   (Told.val (.pointer (some ⟨g,4,none⟩)),[1]),
   (Told.val (.string (f)),[42]),
   (Told.val (.string (⟨#[0]⟩++f)),[43]),
   (Told.val (.string (xk)),[44]),
   (Told.val (.string (al++xk)),[41,45]),
   (Told.val (.string (kb)),[46]),
   (Told.val (.string (ib++al++nb++vb++nb++kb)),[40,47]),
   (Told.val (.string (io)),[48])]
  (by kernel_rfl) (by kernel_rfl) rfl ?_ ?_
 ·simp only[take_succ_cons,List.take_zero,qaQ,and_true];refine And.intro ?_ (And.intro ?_ (And.intro ?_ (And.intro ?_ (And.intro ?_ (And.intro ?_ (And.intro ?_ (And.intro ?_ (And.intro ?_ (And.intro ?_ (And.intro ?_ (And.intro ?_ (And.intro ?_ (And.intro ?_ (And.intro ?_ (And.intro ?_ (And.intro ?_ (And.intro ?_ (And.intro ?_ (And.intro ?_ (And.intro ?_ (And.intro ?_ (And.intro ?_ (And.intro ?_ (?_))))))))))))))))))))))))
  ·intro a w hb h;refine qag ?_;simp[go_sem,ud0 h rfl,qaa]
  ·intro a w hb h;have hc:=(hb.cell (jbc c0)).trans c0;refine qag ?_;simp[go_sem,td0 h rfl,qaa,hc]
  ·intro a w hb h;refine qag ?_;simp[go_sem,td0 h rfl,qaa];exact CI.out _
  ·intro a w hb h;refine qag ?_;simp[go_sem,ud0 h rfl,qaa]
  ·intro a w hb h;refine qag ?_;simp[go_sem,td0 h rfl,td1 h rfl,qaa,Nat.not_lt.2 k1]
  ·intro a w hb h;refine qag ?_;simp[go_sem,ud0 h rfl,qaa]
  ·intro a w hb h;refine qag ?_;simp[go_sem,td0 h rfl,td1 h rfl,qaa,Nat.not_lt.2 k2]
  ·intro a w hb h;refine qag ?_;simp[go_sem,ud0 h rfl,qaa]
  ·intro a w hb h;refine qag ?_;simp[go_sem,td0 h rfl,qaa];exact C1.out _
  ·intro a w hb h;refine qag ?_;simp[go_sem,ud0 h rfl,qaa]
  ·intro a w hb h;refine qag ?_;simp[go_sem,td0 h rfl,qaa];exact C2.out _
  ·intro a w hb h;refine qag ?_;simp[go_sem,td0 h rfl,td1 h rfl,qaa,Nat.not_lt.2 k3]
  ·intro a w hb h;refine qag ?_;simp[go_sem,td0 h rfl,qaa];exact C3.out _
  ·intro a w hb h;refine qag ?_;simp[go_sem,td0 h rfl,td1 h rfl,qaa,Nat.not_lt.2 k4]
  ·intro a w hb h;refine qag ?_;simp[go_sem,ud0 h rfl,qaa]
  ·intro a w hb h;refine qag ?_;simp[go_sem,td0 h rfl,td1 h rfl,qaa,Nat.not_lt.2 k5]
  ·intro a w hb h;refine qag ?_;simp[go_sem,ud0 h rfl,qaa]
  ·intro a w hb h;refine qag ?_;simp[go_sem,ud0 h rfl,qaa]
  ·intro a w hb h;have hc:=(hb.cell (jbc c4)).trans c4;refine qag ?_;simp[go_sem,td0 h rfl,qaa,hc]
  ·intro a w hb h;refine qag ?_;simp[go_sem,td0 h rfl,qaa,Nat.not_lt.2 k6]
  ·intro a w hb h;refine qag ?_;simp[go_sem,td0 h rfl,qaa];exact C4.out _
  ·intro a w hb h;refine qag ?_;simp[go_sem,td0 h rfl,td1 h rfl,qaa,Nat.not_lt.2 k7]
  ·intro a w hb h;refine qag ?_;simp[go_sem,td0 h rfl,qaa];exact C5.out _
  ·intro a w hb h;refine qag ?_;simp[go_sem,td0 h rfl,td1 h rfl,qaa,Nat.not_lt.2 k8]
  ·intro a w hb h;refine qag ?_;simp[go_sem,td0 h rfl,qaa];exact C6.out _
 simp only[zks,qaW,Act.put,zkt];rintro X bk _ rfl _ rfl _ rfl _ rfl _ rfl _ rfl _ rfl _ rfl _ rfl _ rfl _ rfl _ rfl _ rfl _ rfl _ rfl _ rfl _ rfl _ rfl _ rfl _ rfl _ rfl _ rfl _ rfl _ rfl _ rfl;replace hb:=bwt hb HG bk;clear bk c0 c1 c2 c3 c4;go_wp2_with fail;go_ret;exact⟨rfl,by first|exact hb|(rw[z7.out];exact hb)⟩
def cRow(a:Int)(b:ByteArray)(d e:Int)(f:ByteArray):Array Value:=#[.int .i64 a,.string b,.int .i64 d,.int .i64 e,.string f]
theorem qdn:(Tryz.prog.info? 28).map (fun i=>(i.zero,i.size))=some (some (.agg (cRow 0 ⟨#[]⟩ 0 0 ⟨#[]⟩)),5):=by kernel_rfl
theorem qaq(a:Int)(b:ByteArray)(d e:Int)(f:ByteArray):(Tryz.prog.info? 28).map (·.size)=some (cRow a b d e f).size:=by
 have h:=qdn
 cases hq:Tryz.prog.info? 28 with
 | none=>rw[hq]at h;cases h
 | some i=>
  rw[hq]at h;simp only[Option.map_some,Option.some.injEq,Prod.mk.injEq]at h ⊢;rw[h.2];rfl
theorem qa7(a:Int)(b:ByteArray)(d e:Int)(f:ByteArray):(cRow a b d e f).all (·.oneCell')=true:=by simp[cRow,Value.oneCell']
theorem qaM{P:Program}{fn:Func}{p u:Tmp}{ty:TypeId}(h:fn.results=#[.cell p ty,.tmp u])(tmps:Array Value)(w:World)(g:Nat)(t:TypeId)(cs:Array Value)(fr:Nat×Nat)(d:TypeDesc)
  (hp:tmps.getD p undef=.pointer (some ⟨g,0,none⟩)) (hg:w.heap[g]?=some (.cells cs t fr)) (hu:P.underlying ty=some d) (hd:(match d with|.struct _|.array _ _=>true|_=>false)=true) (hi:(P.info? ty).map (·.size)=some cs.size) :
  (results fn tmps).run P w=.ok (.tuple #[.agg cs,tmps.getD u undef]) w:=by
 have e1:=run_loadVar_row w g t ty cs fr d hg hu hd hi;simp only[results,h];simp at hp;simp[Sem.run_bind,Result.andThen,hp,asAddr,e1]
theorem qfQ{W:World}{g i:Nat}{v:Value}{cs:Array Value}{t:TypeId}(h:W.heap[g]?=some (.cells cs t)):(W.setCell ⟨g,i,none⟩ v).heap[g]?=some (.cells (cs.setIfInBounds i v) t):=Go.heap_setCell_same _ _ _ _ _ _ h
theorem rParts_any(s:ByteArray)(w:World)(hs:s.size≤1000):Rt 40 #[.string s] w (.tuple #[.agg (cerL (parT s).1),.string (parT s).2]):=by
 unfold Rt;have HS:=hid hs;obtain⟨hz,hi⟩:=jzi qdn;have HR:=hid (qah (o:=.cells (cRow 0 ⟨#[]⟩ 0 0 ⟨#[]⟩) 28) (qad w (.cells (cRow 0 ⟨#[]⟩ 0 0 ⟨#[]⟩) 28)));have HG:=hid (qaz w (.cells (cRow 0 ⟨#[]⟩ 0 0 ⟨#[]⟩) 28) (.cells (cRow 0 ⟨#[]⟩ 0 0 ⟨#[]⟩) 28));have hb:=qaL w (.cells (cRow 0 ⟨#[]⟩ 0 0 ⟨#[]⟩) 28) (.cells (cRow 0 ⟨#[]⟩ 0 0 ⟨#[]⟩) 28);obtain⟨u1,zN⟩:∃ u,inT s 48=u:=⟨_,rfl⟩;have yf:=qbr s 48;rw[zN]at yf;obtain⟨u2,zO⟩:∃ u,inT u1.1 48=u:=⟨_,rfl⟩;have yg:=qbr u1.1 48;rw[zO]at yg;obtain⟨u3,zP⟩:∃ u,inT u2.2 48=u:=⟨_,rfl⟩;have yh:=qbr u2.2 48;rw[zP]at yh;obtain⟨u4,zQ⟩:∃ u,inT u3.2 3=u:=⟨_,rfl⟩;have yi:=qbr u3.2 3;rw[zQ]at yi;obtain⟨u5,zR⟩:∃ u,inT u2.1 2=u:=⟨_,rfl⟩;have yj:=qbr u2.1 2;rw[zR]at yj;obtain⟨u7,zS⟩:∃ u,inT u5.2 48=u:=⟨_,rfl⟩;have yk:=qbr u5.2 48;rw[zS]at yk;obtain⟨u8,zT⟩:∃ u,inT u7.2 48=u:=⟨_,rfl⟩;have yl:=qbr u7.2 48;rw[zT]at yl;obtain⟨u9,zU⟩:∃ u,inT u8.1 49=u:=⟨_,rfl⟩;have ym:=qbr u8.1 49;rw[zU]at ym;obtain⟨zV,z8⟩:∃ u,inT u9.1 48=u:=⟨_,rfl⟩;have zl:=qbr u9.1 48;rw[z8]at zl;obtain⟨zW,z9⟩:∃ u,inT zV.1 6=u:=⟨_,rfl⟩;have zm:=qbr zV.1 6;rw[z9]at zm;obtain⟨yo,za⟩:∃ u,inT zW.2 12=u:=⟨_,rfl⟩;have zn:=qbr zW.2 12;rw[za]at zn;obtain⟨zj,zb⟩:∃ u,inT u8.2 48=u:=⟨_,rfl⟩;have zo:=qbr u8.2 48;rw[zb]at zo;obtain⟨zk,zc⟩:∃ u,inT zj.1 24=u:=⟨_,rfl⟩
 have zp:=qbr zj.1 24;rw[zc]at zp;obtain⟨yd,zd⟩:∃ u,inT zk.2 24=u:=⟨_,rfl⟩;have zq:=qbr zk.2 24;rw[zd]at zq;obtain⟨zX,ze⟩:∃ u,inT zj.2 48=u:=⟨_,rfl⟩;have zr:=qbr zj.2 48;rw[ze]at zr;obtain⟨zY,zf⟩:∃ u,inT zX.2 48=u:=⟨_,rfl⟩;have zs:=qbr zX.2 48;rw[zf]at zs;obtain⟨zZ,zg⟩:∃ u,inT zY.1 48=u:=⟨_,rfl⟩;have zt:=qbr zY.1 48;rw[zg]at zt;obtain⟨yp,zh⟩:∃ u,inT zZ.2 3=u:=⟨_,rfl⟩;have zu:=qbr zZ.2 3;rw[zh]at zu;have z4:Hid (parT s=(⟨riV u5.1,yo.1,atS zk.1,atS yd.1,qcV yp.1 33⟩,qcV u4.1 65)):=hid (by simp only[parT,zN,zO,zP,zQ,zR,zS,zT,zU,z8,z9,za,zb,zc,zd,ze,zf,zg,zh]);have C1:=hid (fun W=>qb2 s 48 W (by omega));rw[zN]at C1;have C2:=hid (fun W=>qb2 u1.1 48 W (by omega));rw[zO]at C2;have C3:=hid (fun W=>qb2 u2.2 48 W (by omega));rw[zP]at C3;have C4:=hid (fun W=>qb2 u3.2 3 W (by omega));rw[zQ]at C4;have C5:=hid (fun W=>qb2 u2.1 2 W (by omega));rw[zR]at C5;have C6:=hid (fun W=>rReadInt_any u5.1 W (by omega));have C7:=hid (fun W=>qb2 u5.2 48 W (by omega));rw[zS]at C7;have C8:=hid (fun W=>qb2 u7.2 48 W (by omega));rw[zT]at C8;have C9:=hid (fun W=>qb2 u8.1 49 W (by omega));rw[zU]at C9;have zw:=hid (fun W=>qb2 u9.1 48 W (by omega));rw[z8]at zw;have zx:=hid (fun W=>qb2 zV.1 6 W (by omega));rw[z9]at zx;have zy:=hid (fun W=>qb2 zW.2 12 W (by omega));rw[za]at zy;have zz:=hid (fun W=>qb2 u8.2 48 W (by omega));rw[zb]at zz;have zA:=hid (fun W=>qb2 zj.1 24 W (by omega));rw[zc]at zA;have zB:=hid (fun W=>qb2 zk.2 24 W (by omega));rw[zd]at zB;have zC:=hid (fun W=>rAt_any zk.1 W (by omega))
 have zD:=hid (fun W=>rAt_any yd.1 W (by omega));have zE:=hid (fun W=>qb2 zj.2 48 W (by omega));rw[ze]at zE;have zF:=hid (fun W=>qb2 zX.2 48 W (by omega));rw[zf]at zF;have zG:=hid (fun W=>qb2 zY.1 48 W (by omega));rw[zg]at zG;have zH:=hid (fun W=>qb2 zZ.2 3 W (by omega));rw[zh]at zH;clear hs hi zN yf zO yg zP yh zQ yi zR yj zS yk zT yl zU ym z8 zl z9 zm za zn zb zo zc zp zd zq ze zr zf zs zg zt zh zu;obtain⟨x1,y1⟩:=u1;obtain⟨x2,y2⟩:=u2;obtain⟨x3,y3⟩:=u3;obtain⟨x4,y4⟩:=u4;obtain⟨x5,y5⟩:=u5;obtain⟨x7,y7⟩:=u7;obtain⟨x8,y8⟩:=u8;obtain⟨x9,y9⟩:=u9;obtain⟨x10,y10⟩:=zV;obtain⟨x11,y11⟩:=zW;obtain⟨z0,y12⟩:=yo;obtain⟨x13,y13⟩:=zj;obtain⟨ys,y14⟩:=zk;obtain⟨yt,y15⟩:=yd;obtain⟨x18,y18⟩:=zX;obtain⟨x19,y19⟩:=zY;obtain⟨x20,y20⟩:=zZ;obtain⟨z6,y21⟩:=yp;simp only at z4 C1 C2 C3 C4 C5 C6 C7 C8 C9 zw zx zy zz zA zB zC zD zE zF zG zH;obtain⟨rv,y6⟩:∃ r,riV x5=r:=⟨_,rfl⟩;obtain⟨re,yn⟩:∃ r,qd1 x5=r:=⟨_,rfl⟩;obtain⟨t1,ya⟩:∃ r,atS ys=r:=⟨_,rfl⟩;obtain⟨t2,yb⟩:∃ r,atS yt=r:=⟨_,rfl⟩;rw[y6,ya,yb]at z4;rw[y6,yn]at C6;rw[ya]at zC;rw[yb]at zD;clear y6 yn ya yb;go_enter func40,ntmps40;go_wp2_with fail;clear hz;generalize ((w.alloc _).alloc _)=W0 at *;generalize ye:w.heap.size=B at *;have zI:=hid ye;clear ye;have HLT:=hid (show B<W0.heap.size from qac HR.out);refine (C1.out _).mono ?_;rintro e V1⟨rfl,bk⟩;replace hb:=bwt hb HR bk;replace HR:=hkp HR bk;replace HG:=hkp HG bk;clear bk C1;go_wp2_with fail;refine (C2.out _).mono ?_
 rintro e V2⟨rfl,bk⟩;replace hb:=bwt hb HR bk;replace HR:=hkp HR bk;replace HG:=hkp HG bk;clear bk C2;go_wp2_with fail;refine (C3.out _).mono ?_;rintro e V3⟨rfl,bk⟩;replace hb:=bwt hb HR bk;replace HR:=hkp HR bk;replace HG:=hkp HG bk;clear bk C3;go_wp2_with fail;refine (C4.out _).mono ?_;rintro e V4⟨rfl,bk⟩;replace hb:=bwt hb HR bk;replace HR:=hkp HR bk;replace HG:=hkp HG bk;clear bk C4;go_wp2_with fail;refine (C5.out _).mono ?_;rintro e V5⟨rfl,bk⟩;replace hb:=bwt hb HR bk;replace HR:=hkp HR bk;replace HG:=hkp HG bk;clear bk C5;go_wp2_with fail;refine (C6.out _).mono ?_;rintro e V6⟨rfl,bk⟩;replace hb:=bwt hb HR bk;replace HR:=hkp HR bk;replace HG:=hkp HG bk;clear bk C6;have cc:=jco V6 (B+1) 0 _ _ (0,0) HG.out;rw[show (cRow (0) (⟨#[]⟩) (0) (0) (⟨#[]⟩))[0]?=some (.int .i64 (0)) from rfl]at cc;have fc:=jfr V6 (B+1) 0 _ _ HG.out;have z1:=hid (qfQ (i:=0) (v:=.int .i64 rv) HG.out);rw[show (cRow (0) (⟨#[]⟩) (0) (0) (⟨#[]⟩)).setIfInBounds 0 (.int .i64 rv)=cRow (rv) (⟨#[]⟩) (0) (0) (⟨#[]⟩) from rfl]at z1;have z2:=hid (show (V6.setCell ⟨B+1,0,none⟩ (.int .i64 rv)).heap[B]?=some (.cells (cRow 0 ⟨#[]⟩ 0 0 ⟨#[]⟩) 28) from by rw[jso _ _ _ _ (by simp)];exact HR.out);have z3:Below B w (V6.setCell ⟨B+1,0,none⟩ (.int .i64 rv)):=hb.setCell (by simp) _;clear HG HR hb;go_wp2_with fail;clear cc fc;generalize (World.setCell _ _ _)=S0 at *;have HG:=z1;have HR:=z2;have hb:=z3;clear z1 z2 z3;refine (C7.out _).mono ?_
 rintro e V7⟨rfl,bk⟩;replace hb:=bwt hb HR bk;replace HR:=hkp HR bk;replace HG:=hkp HG bk;clear bk C7;go_wp2_with fail;refine (C8.out _).mono ?_;rintro e V8⟨rfl,bk⟩;replace hb:=bwt hb HR bk;replace HR:=hkp HR bk;replace HG:=hkp HG bk;clear bk C8;go_wp2_with fail;refine (C9.out _).mono ?_;rintro e V9⟨rfl,bk⟩;replace hb:=bwt hb HR bk;replace HR:=hkp HR bk;replace HG:=hkp HG bk;clear bk C9;go_wp2_with fail;refine (zw.out _).mono ?_;rintro e V10⟨rfl,bk⟩;replace hb:=bwt hb HR bk;replace HR:=hkp HR bk;replace HG:=hkp HG bk;clear bk zw;go_wp2_with fail;refine (zx.out _).mono ?_;rintro e V11⟨rfl,bk⟩;replace hb:=bwt hb HR bk;replace HR:=hkp HR bk;replace HG:=hkp HG bk;clear bk zx;go_wp2_with fail;refine (zy.out _).mono ?_;rintro e zJ⟨rfl,bk⟩;replace hb:=bwt hb HR bk;replace HR:=hkp HR bk;replace HG:=hkp HG bk;clear bk zy;have cc:=jco zJ (B+1) 1 _ _ (0,0) HG.out;rw[show (cRow (rv) (⟨#[]⟩) (0) (0) (⟨#[]⟩))[1]?=some (.string (⟨#[]⟩)) from rfl]at cc;have fc:=jfr zJ (B+1) 1 _ _ HG.out;have z1:=hid (qfQ (i:=1) (v:=.string z0) HG.out);rw[show (cRow (rv) (⟨#[]⟩) (0) (0) (⟨#[]⟩)).setIfInBounds 1 (.string z0)=cRow (rv) (z0) (0) (0) (⟨#[]⟩) from rfl]at z1;have z2:=hid (show (zJ.setCell ⟨B+1,1,none⟩ (.string z0)).heap[B]?=some (.cells (cRow 0 ⟨#[]⟩ 0 0 ⟨#[]⟩) 28) from by rw[jso _ _ _ _ (by simp)];exact HR.out);have z3:Below B w (zJ.setCell ⟨B+1,1,none⟩ (.string z0)):=hb.setCell (by simp) _;clear HG HR hb;go_wp2_with fail
 clear cc fc;generalize (World.setCell _ _ _)=S1 at *;have HG:=z1;have HR:=z2;have hb:=z3;clear z1 z2 z3;refine (zz.out _).mono ?_;rintro e V13⟨rfl,bk⟩;replace hb:=bwt hb HR bk;replace HR:=hkp HR bk;replace HG:=hkp HG bk;clear bk zz;go_wp2_with fail;refine (zA.out _).mono ?_;rintro e V14⟨rfl,bk⟩;replace hb:=bwt hb HR bk;replace HR:=hkp HR bk;replace HG:=hkp HG bk;clear bk zA;go_wp2_with fail;refine (zB.out _).mono ?_;rintro e V15⟨rfl,bk⟩;replace hb:=bwt hb HR bk;replace HR:=hkp HR bk;replace HG:=hkp HG bk;clear bk zB;go_wp2_with fail;refine (zC.out _).mono ?_;rintro e zK⟨rfl,bk⟩;replace hb:=bwt hb HR bk;replace HR:=hkp HR bk;replace HG:=hkp HG bk;clear bk zC;have cc:=jco zK (B+1) 2 _ _ (0,0) HG.out;rw[show (cRow (rv) (z0) (0) (0) (⟨#[]⟩))[2]?=some (.int .i64 (0)) from rfl]at cc;have fc:=jfr zK (B+1) 2 _ _ HG.out;have z1:=hid (qfQ (i:=2) (v:=.int .i64 t1) HG.out);rw[show (cRow (rv) (z0) (0) (0) (⟨#[]⟩)).setIfInBounds 2 (.int .i64 t1)=cRow (rv) (z0) (t1) (0) (⟨#[]⟩) from rfl]at z1;have z2:=hid (show (zK.setCell ⟨B+1,2,none⟩ (.int .i64 t1)).heap[B]?=some (.cells (cRow 0 ⟨#[]⟩ 0 0 ⟨#[]⟩) 28) from by rw[jso _ _ _ _ (by simp)];exact HR.out);have z3:Below B w (zK.setCell ⟨B+1,2,none⟩ (.int .i64 t1)):=hb.setCell (by simp) _;clear HG HR hb;go_wp2_with fail;clear cc fc;generalize (World.setCell _ _ _)=S2 at *;have HG:=z1;have HR:=z2;have hb:=z3;clear z1 z2 z3;refine (zD.out _).mono ?_
 rintro e zL⟨rfl,bk⟩;replace hb:=bwt hb HR bk;replace HR:=hkp HR bk;replace HG:=hkp HG bk;clear bk zD;have cc:=jco zL (B+1) 3 _ _ (0,0) HG.out;rw[show (cRow (rv) (z0) (t1) (0) (⟨#[]⟩))[3]?=some (.int .i64 (0)) from rfl]at cc;have fc:=jfr zL (B+1) 3 _ _ HG.out;have z1:=hid (qfQ (i:=3) (v:=.int .i64 t2) HG.out);rw[show (cRow (rv) (z0) (t1) (0) (⟨#[]⟩)).setIfInBounds 3 (.int .i64 t2)=cRow (rv) (z0) (t1) (t2) (⟨#[]⟩) from rfl]at z1;have z2:=hid (show (zL.setCell ⟨B+1,3,none⟩ (.int .i64 t2)).heap[B]?=some (.cells (cRow 0 ⟨#[]⟩ 0 0 ⟨#[]⟩) 28) from by rw[jso _ _ _ _ (by simp)];exact HR.out);have z3:Below B w (zL.setCell ⟨B+1,3,none⟩ (.int .i64 t2)):=hb.setCell (by simp) _;clear HG HR hb;go_wp2_with fail;clear cc fc;generalize (World.setCell _ _ _)=S3 at *;have HG:=z1;have HR:=z2;have hb:=z3;clear z1 z2 z3;refine (zE.out _).mono ?_;rintro e V18⟨rfl,bk⟩;replace hb:=bwt hb HR bk;replace HR:=hkp HR bk;replace HG:=hkp HG bk;clear bk zE;go_wp2_with fail;refine (zF.out _).mono ?_;rintro e V19⟨rfl,bk⟩;replace hb:=bwt hb HR bk;replace HR:=hkp HR bk;replace HG:=hkp HG bk;clear bk zF;go_wp2_with fail;refine (zG.out _).mono ?_;rintro e V20⟨rfl,bk⟩;replace hb:=bwt hb HR bk;replace HR:=hkp HR bk;replace HG:=hkp HG bk;clear bk zG;go_wp2_with fail;refine (zH.out _).mono ?_;rintro e zM⟨rfl,bk⟩;replace hb:=bwt hb HR bk;replace HR:=hkp HR bk;replace HG:=hkp HG bk;clear bk zH;by_cases ck:z6.size=33
 ·have yr:((z6.size:Int)==33)=true:=by simp;omega
  have k1:(1:Int)≤(z6.size:Int):=by omega
  have k2:1≤z6.size:=by omega
  obtain⟨kk,yq⟩:∃ r,z6.extract 1 z6.size=r:=⟨_,rfl⟩;have z7:Hid (parT s=(⟨rv,z0,t1,t2,kk⟩,qcV x4 65)):=hid (by rw[z4.out,show qcV z6 33=z6.extract 1 33 from if_pos ck,← ck,yq]);have cc:=jco zM (B+1) 4 _ _ (0,0) HG.out;rw[show (cRow (rv) (z0) (t1) (t2) (⟨#[]⟩))[4]?=some (.string (⟨#[]⟩)) from rfl]at cc;have fc:=jfr zM (B+1) 4 _ _ HG.out;have z1:=hid (qfQ (i:=4) (v:=.string kk) HG.out);rw[show (cRow (rv) (z0) (t1) (t2) (⟨#[]⟩)).setIfInBounds 4 (.string kk)=cRow (rv) (z0) (t1) (t2) (kk) from rfl]at z1;have z2:=hid (show (zM.setCell ⟨B+1,4,none⟩ (.string kk)).heap[B]?=some (.cells (cRow 0 ⟨#[]⟩ 0 0 ⟨#[]⟩) 28) from by rw[jso _ _ _ _ (by simp)];exact HR.out);have z3:Below B w (zM.setCell ⟨B+1,4,none⟩ (.string kk)):=hb.setCell (by simp) _;clear HG HR hb;clear z4 ck;by_cases cs:x4.size=65
  ·have yc:((x4.size:Int)==65)=true:=by simp;omega
   have i1:(1:Int)≤(x4.size:Int):=by omega
   have j1:1≤x4.size:=by omega
   obtain⟨sg,zv⟩:∃ r,x4.extract 1 x4.size=r:=⟨_,rfl⟩;have HV:Hid (parT s=(⟨rv,z0,t1,t2,kk⟩,sg)):=hid (by rw[z7.out,show qcV x4 65=x4.extract 1 65 from if_pos cs,← cs,zv]);clear z7 cs;go_wp2_with fail;clear cc fc;generalize (World.setCell _ _ _)=S4 at *;have HG:=z1;have HR:=z2;have hb:=z3;clear z1 z2 z3;refine qej 3 142 [.val (.agg (cRow (rv) (z0) (t1) (t2) (kk))) [(4,.pointer (some ⟨B+1,0,none⟩))],.val (.string x4) [(9,.string x4)],.val (.string sg) [(139,.string x4)]]
    [(2,.pointer (some ⟨B,0,none⟩)),(138,.agg (cRow (rv) (z0) (t1) (t2) (kk)))]
    (fun w'=>Below B w w'∧w'.heap[B]?=some (.cells (cRow 0 ⟨#[]⟩ 0 0 ⟨#[]⟩) 28)∧w'.heap[B+1]?=some (.cells (cRow (rv) (z0) (t1) (t2) (kk)) 28))
    (fun w'=>Below B w w'∧w'.heap[B]?=some (.cells (cRow (rv) (z0) (t1) (t2) (kk)) 28)∧w'.heap[B+1]?=some (.cells (cRow (rv) (z0) (t1) (t2) (kk)) 28))
    _ rfl rfl (by kernel_rfl) rfl ?_ ?_ ?_ ?_ ?_ ?_ ?_ ?_
   ·exact⟨hb.trans ⟨rfl,rfl,rfl,jlr _,fun _ _=>rfl⟩,HR.out,HG.out⟩
   ·rintro w1 w2⟨k1,k2,k3⟩ hb;exact⟨k1.trans (hb.mono (jll (qac k2))),qap hb (qac k2) k2,qap hb (qac k3) k3⟩
   ·rintro w1 w2⟨k1,k2,k3⟩ hb;exact⟨k1.trans (hb.mono (jll (qac k2))),qap hb (qac k2) k2,qap hb (qac k3) k3⟩
   ·simp only[take_succ_cons,List.take_zero,qeu,HeadSpec.val,and_true];refine⟨?_,?_,?_⟩
    ·intro z5 w' hk h;have e0:=h (4,.pointer (some ⟨B+1,0,none⟩)) (by simp);have y0:w'.heap[B+1]?=some (.cells (cRow (rv) (z0) (t1) (t2) (kk)) 28):=by rcases hk with⟨_,_,h3⟩|⟨_,_,h3⟩<;>exact h3
     exact qab 28 (.tmp 4) rfl (B+1) e0 28 _ (0,0) _ y0 underlying28 rfl (qaq _ _ _ _ _)
    ·intro z5 w' hk h;have e0:=h (9,.string x4) (by simp);simp only[getD_eq_getD_getElem?]at e0;simp[go_sem,e0,qaa]
    ·intro z5 w' hk h;have e0:=h (139,.string x4) (by simp);simp only[getD_eq_getD_getElem?]at e0;simp[go_sem,e0,qaa,j1,i1,zv]
   ·rintro z5 w' ⟨k1,k2,k3⟩ h;have e0:z5.eval (.tmp 2)=.pointer (some ⟨B,0,none⟩):=h (2,.pointer (some ⟨B,0,none⟩)) (by simp);have e1:z5.eval (.tmp 138)=.agg (cRow (rv) (z0) (t1) (t2) (kk)):=h (138,.agg (cRow (rv) (z0) (t1) (t2) (kk))) (by simp);refine⟨w'.setRow B (cRow (rv) (z0) (t1) (t2) (kk)),?_,jbr k1 (jlr _) _,jsh _ _ _ _ _ _ k2,by rw[jro _ _ _ _ (by omega)];exact k3⟩;have zi:=run_storeVar_row (P:=Tryz.prog) w' B 28 28 (cRow 0 ⟨#[]⟩ 0 0 ⟨#[]⟩) (cRow (rv) (z0) (t1) (t2) (kk)) k2 (qaq _ _ _ _ _) rfl (qa7 _ _ _ _ _);unfold execOp;simp only[e0,e1,Instr.storeAt,Instr.sureAddr,Sem.run_bind,Sem.run_pure,Result.andThen_ok,zi]
   ·simp[qay,qax,qaK,HeadSpec.val,Act.put]
   ·simp[qay,qax,qaK,HeadSpec.val,Act.put]
   ·rintro w' ⟨k1,k2,k3⟩;have HN:=hid k2;clear k2 k3 HR HG hb;simp only[zks,qax,qaK,HeadSpec.val,Act.put,zkt,List.getElem?_cons_succ,List.getElem?_cons_zero,Option.map_some,Option.getD_some];go_wp2_with fail;exact jpr (qaM (by rfl) _ _ B 28 _ (0,0) _ rfl HN.out underlying28 rfl (qaq _ _ _ _ _)) rfl ⟨by rw[HV.out];rfl,by rw[zI.out];exact k1⟩
  ·have yc:((x4.size:Int)==65)=false:=by simp;omega
   have HV:Hid (parT s=(⟨rv,z0,t1,t2,kk⟩,⟨#[]⟩)):=hid (by rw[z7.out,show qcV x4 65=qbT from if_neg cs];rfl);clear z7 cs;go_wp2_with (first|(with_reducible refine jlw rfl 28 _ rfl (B+1) rfl 28 _ (0,0) _ z1.out underlying28 rfl (qaq _ _ _ _ _) ?_)|(with_reducible refine jsr rfl 28 _ _ rfl B (cRow (rv) (z0) (t1) (t2) (kk)) rfl rfl 28 _ z2.out (qaq _ _ _ _ _) rfl (qa7 _ _ _ _ _) ?_));exact jpr (qaM (by rfl) _ _ B 28 _ (0,0) _ rfl (jsh _ _ _ _ _ _ z2.out) underlying28 rfl (qaq _ _ _ _ _)) rfl ⟨by rw[HV.out];rfl,by rw[zI.out];exact jbr z3 (jlr _) _⟩
 ·have yr:((z6.size:Int)==33)=false:=by simp;omega
  have z7:Hid (parT s=(⟨rv,z0,t1,t2,⟨#[]⟩⟩,qcV x4 65)):=hid (by rw[z4.out,show qcV z6 33=qbT from if_neg ck];rfl);clear z4 ck;by_cases cs:x4.size=65
  ·have yc:((x4.size:Int)==65)=true:=by simp;omega
   have i1:(1:Int)≤(x4.size:Int):=by omega
   have j1:1≤x4.size:=by omega
   obtain⟨sg,zv⟩:∃ r,x4.extract 1 x4.size=r:=⟨_,rfl⟩;have HV:Hid (parT s=(⟨rv,z0,t1,t2,⟨#[]⟩⟩,sg)):=hid (by rw[z7.out,show qcV x4 65=x4.extract 1 65 from if_pos cs,← cs,zv]);clear z7 cs;go_wp2_with fail;refine qej 3 142 [.val (.agg (cRow (rv) (z0) (t1) (t2) (⟨#[]⟩))) [(4,.pointer (some ⟨B+1,0,none⟩))],.val (.string x4) [(9,.string x4)],.val (.string sg) [(139,.string x4)]]
    [(2,.pointer (some ⟨B,0,none⟩)),(138,.agg (cRow (rv) (z0) (t1) (t2) (⟨#[]⟩)))]
    (fun w'=>Below B w w'∧w'.heap[B]?=some (.cells (cRow 0 ⟨#[]⟩ 0 0 ⟨#[]⟩) 28)∧w'.heap[B+1]?=some (.cells (cRow (rv) (z0) (t1) (t2) (⟨#[]⟩)) 28))
    (fun w'=>Below B w w'∧w'.heap[B]?=some (.cells (cRow (rv) (z0) (t1) (t2) (⟨#[]⟩)) 28)∧w'.heap[B+1]?=some (.cells (cRow (rv) (z0) (t1) (t2) (⟨#[]⟩)) 28))
    _ rfl rfl (by kernel_rfl) rfl ?_ ?_ ?_ ?_ ?_ ?_ ?_ ?_
   ·exact⟨hb.trans ⟨rfl,rfl,rfl,jlr _,fun _ _=>rfl⟩,HR.out,HG.out⟩
   ·rintro w1 w2⟨k1,k2,k3⟩ hb;exact⟨k1.trans (hb.mono (jll (qac k2))),qap hb (qac k2) k2,qap hb (qac k3) k3⟩
   ·rintro w1 w2⟨k1,k2,k3⟩ hb;exact⟨k1.trans (hb.mono (jll (qac k2))),qap hb (qac k2) k2,qap hb (qac k3) k3⟩
   ·simp only[take_succ_cons,List.take_zero,qeu,HeadSpec.val,and_true];refine⟨?_,?_,?_⟩
    ·intro z5 w' hk h;have e0:=h (4,.pointer (some ⟨B+1,0,none⟩)) (by simp);have y0:w'.heap[B+1]?=some (.cells (cRow (rv) (z0) (t1) (t2) (⟨#[]⟩)) 28):=by rcases hk with⟨_,_,h3⟩|⟨_,_,h3⟩<;>exact h3
     exact qab 28 (.tmp 4) rfl (B+1) e0 28 _ (0,0) _ y0 underlying28 rfl (qaq _ _ _ _ _)
    ·intro z5 w' hk h;have e0:=h (9,.string x4) (by simp);simp only[getD_eq_getD_getElem?]at e0;simp[go_sem,e0,qaa]
    ·intro z5 w' hk h;have e0:=h (139,.string x4) (by simp);simp only[getD_eq_getD_getElem?]at e0;simp[go_sem,e0,qaa,j1,i1,zv]
   ·rintro z5 w' ⟨k1,k2,k3⟩ h;have e0:z5.eval (.tmp 2)=.pointer (some ⟨B,0,none⟩):=h (2,.pointer (some ⟨B,0,none⟩)) (by simp);have e1:z5.eval (.tmp 138)=.agg (cRow (rv) (z0) (t1) (t2) (⟨#[]⟩)):=h (138,.agg (cRow (rv) (z0) (t1) (t2) (⟨#[]⟩))) (by simp);refine⟨w'.setRow B (cRow (rv) (z0) (t1) (t2) (⟨#[]⟩)),?_,jbr k1 (jlr _) _,jsh _ _ _ _ _ _ k2,by rw[jro _ _ _ _ (by omega)];exact k3⟩;have zi:=run_storeVar_row (P:=Tryz.prog) w' B 28 28 (cRow 0 ⟨#[]⟩ 0 0 ⟨#[]⟩) (cRow (rv) (z0) (t1) (t2) (⟨#[]⟩)) k2 (qaq _ _ _ _ _) rfl (qa7 _ _ _ _ _);unfold execOp;simp only[e0,e1,Instr.storeAt,Instr.sureAddr,Sem.run_bind,Sem.run_pure,Result.andThen_ok,zi]
   ·simp[qay,qax,qaK,HeadSpec.val,Act.put]
   ·simp[qay,qax,qaK,HeadSpec.val,Act.put]
   ·rintro w' ⟨k1,k2,k3⟩;have HN:=hid k2;clear k2 k3 HR HG hb;simp only[zks,qax,qaK,HeadSpec.val,Act.put,zkt,List.getElem?_cons_succ,List.getElem?_cons_zero,Option.map_some,Option.getD_some];go_wp2_with fail;exact jpr (qaM (by rfl) _ _ B 28 _ (0,0) _ rfl HN.out underlying28 rfl (qaq _ _ _ _ _)) rfl ⟨by rw[HV.out];rfl,by rw[zI.out];exact k1⟩
  ·have yc:((x4.size:Int)==65)=false:=by simp;omega
   have HV:Hid (parT s=(⟨rv,z0,t1,t2,⟨#[]⟩⟩,⟨#[]⟩)):=hid (by rw[z7.out,show qcV x4 65=qbT from if_neg cs];rfl);clear z7 cs;go_wp2_with (first|(with_reducible refine jlw rfl 28 _ rfl (B+1) rfl 28 _ (0,0) _ HG.out underlying28 rfl (qaq _ _ _ _ _) ?_)|(with_reducible refine jsr rfl 28 _ _ rfl B (cRow (rv) (z0) (t1) (t2) (⟨#[]⟩)) rfl rfl 28 _ HR.out (qaq _ _ _ _ _) rfl (qa7 _ _ _ _ _) ?_));exact jpr (qaM (by rfl) _ _ B 28 _ (0,0) _ rfl (jsh _ _ _ _ _ _ HR.out) underlying28 rfl (qaq _ _ _ _ _)) rfl ⟨by rw[HV.out];rfl,by rw[zI.out];exact jbr hb (jlr _) _⟩
structure SignRM (F:SignF):Prop where
 pub:∀ (s:ByteArray) (w:World),Calls Tryz.prog 34 #[.string s] w fun e w'=>e=.returned (.tuple #[.string (F.pub s),.int .i64 (sdE s)])∧Below w.heap.size w w'
 sgn:∀ (s t:ByteArray) (w:World),t.size≤1000000→Calls Tryz.prog 36 #[.string s,.string t] w fun e w'=>e=.returned (.tuple #[.string (F.sgn s t),.int .i64 (sdE s)])∧Below w.heap.size w w'
structure SignR (F:SignF):Prop where
 ver:∀ (p t g:ByteArray) (w:World),t.size≤1000000→Calls Tryz.prog 41 #[.string p,.string t,.string g] w fun e w'=>e=.returned (.int .i64 (F.ver p t g))∧Below w.heap.size w w'
 sum:∀ (s:ByteArray) (w:World),s.size≤1000000→Calls Tryz.prog 43 #[.string s] w fun e w'=>e=.returned (.string (F.sum s))∧Below w.heap.size w w'
theorem rPrint_any(F:SignF)(R:SignR F)(s:ByteArray)(w:World)(hs:s.size≤1000000):Rt 19 #[.string s] w (.string (F.sum s)):=by
 unfold Rt;have C:=hid (fun W=>R.sum s W hs);have hb:=Below.refl w.heap.size w;clear hs R;generalize F.sum s=z at *;go_enter func19,ntmps19;go_wp2_with fail;refine (C.out _).mono ?_;rintro e W1⟨rfl,bk⟩;replace hb:=bws hb bk;clear bk;go_wp2_with fail;go_ret;exact⟨rfl,hb⟩
theorem cer_row(sr:Int)(b:ByteArray)(d e:Int)(f:ByteArray):cerL ⟨sr,b,d,e,f⟩=cRow sr b d e f:=rfl
theorem cer_none:cerL noC=cRow 0 ⟨#[]⟩ 0 0 ⟨#[]⟩:=rfl
theorem rReadC_any(F:SignF)(R:SignR F)(s:ByteArray)(w:World):Rt 17 #[.string s] w (.tuple #[.agg (cerL (reC F s)),.int .i64 (reE F s)]):=by
 unfold Rt;obtain⟨hz,hi⟩:=jzi qdn;have HR:=hid (qad w (.cells (cRow 0 ⟨#[]⟩ 0 0 ⟨#[]⟩) 28));have hb:=qaf w (.cells (cRow 0 ⟨#[]⟩ 0 0 ⟨#[]⟩) 28);clear hi;by_cases z4:1000<s.size
 ·have d1:decide ((1000:Int)<(s.size:Int))=true:=by simp;omega
  have HV:=hid (re_bad F s 13 (by rw[reE,if_pos z4]) (by decide));clear z4 R;go_enter func17,ntmps17;go_wp2_with (with_reducible refine jsr rfl 28 _ _ rfl w.heap.size (cRow 0 ⟨#[]⟩ 0 0 ⟨#[]⟩) rfl rfl 28 _ HR.out (qaq _ _ _ _ _) rfl (qa7 _ _ _ _ _) ?_);exact jpr (qaM (by rfl) _ _ w.heap.size 28 _ (0,0) _ rfl (jsh _ _ _ _ _ _ HR.out) underlying28 rfl (qaq _ _ _ _ _)) rfl ⟨by rw[HV.out.1,HV.out.2];rfl,by exact jbr hb (jlr _) _⟩
 have d1:decide ((1000:Int)<(s.size:Int))=false:=by simp;omega
 have CP:=hid (fun W=>rParts_any s W (by omega));have zc:=qgM s;have zd:=par_sizes s;have z2:=okC_parts s;have z3:reE F s=if okC s=true then (if F.ver (parT s).1.key (innB (parT s).1) (parT s).2=0 then 0 else 22) else 11:=by rw[reE,if_neg z4]
 have z1:=fun q h hq=>re_bad F s q h hq;have z0:=fun h=>re_good F s h;obtain⟨⟨⟨sr,b,d,e,f⟩,sg⟩,hp⟩:∃ p,parT s=p:=⟨_,rfl⟩;rw[hp]at CP zc zd z2 z3 z0;simp only at zc zd z2 z3;obtain⟨zi,z9,zl,zm,zn,zo⟩:=zc;obtain⟨zp,zq,zr⟩:=zd;rw[cer_row]at CP;have CR:=hid (fun W=>rRight_any sr b d e f W (by omega));have CI:=hid (fun W=>rInner_any sr b d e f W zi z9 (by omega) (by omega) (by omega) (by omega) (by omega) (by omega));have zj:=(qdt ⟨sr,b,d,e,f⟩).2.2.2.2.2.2;simp only at zj;have CW:=hid (fun W=>rWhole_any (innB ⟨sr,b,d,e,f⟩) sg W (by omega) (by omega));have CV:=hid (fun W=>R.ver f (innB ⟨sr,b,d,e,f⟩) sg W (by omega));clear zi z9 zl zm zn zo zp zq zr zj hp R z4;have zg:=hid z3;have z8:=hid z1;have z5:=hid z0;have ze:=hid z2;clear z3 z1 z0 z2;go_enter func17,ntmps17;go_wp2_with fail;generalize (w.alloc _)=W0 at *;generalize zh:w.heap.size=B at *;have z6:=hid zh;clear zh;refine (CP.out _).mono ?_;rintro ee W1⟨rfl,bk⟩;replace hb:=bwt hb HR bk;replace HR:=hkp HR bk;clear bk CP;have HN:=hid (qad W1 (.cells (cRow 0 ⟨#[]⟩ 0 0 ⟨#[]⟩) 28));have HG:=hid (jsh _ W1.heap.size _ (cRow sr b d e f) _ _ HN.out);have za:=jbr (qaf W1 (.cells (cRow 0 ⟨#[]⟩ 0 0 ⟨#[]⟩) 28)) (jlr _) (cRow sr b d e f);have zf:=hkp HR za;have z9:=hb.trans (za.mono (jll (qac HR.out)));have HNE:Hid (B<W1.heap.size):=hid (qac HR.out);clear za HR hb;have HR:=zf;have hb:=z9;clear zf z9
 go_wp2_with (first|(with_reducible refine jsr rfl 28 _ _ rfl W1.heap.size (cRow sr b d e f) rfl rfl 28 _ HN.out (qaq _ _ _ _ _) rfl (qa7 _ _ _ _ _) ?_)|(with_reducible refine jlw rfl 28 _ rfl W1.heap.size rfl 28 _ (0,0) _ HG.out underlying28 rfl (qaq _ _ _ _ _) ?_));clear HN hz;generalize (World.setRow (World.alloc _ _) _ _)=W2 at *;generalize W1.heap.size=g at *;have z3:=zg.out;have z1:=z8.out;have z0:=z5.out;have z2:=ze.out;clear zg z8 z5 ze
 cases hr:qbw ⟨sr,b,d,e,f⟩ with
 | false=>
  rw[hr]at CR;have HV:=hid (z1 11 (by rw[z3,z2,hr,Bool.false_and,if_neg Bool.false_ne_true]) (by decide));clear hr z3 z1 z0 z2 CI CW CV;refine (CR.out _).mono ?_;rintro ee W3⟨rfl,bk⟩;replace hb:=bwt hb HR bk;replace HR:=hkp HR bk;replace HG:=hkp HG bk;clear bk CR;obtain⟨c0,c1,c2,c3,c4⟩:=qam HG.out;go_wp2_with (with_reducible refine jsr rfl 28 _ _ rfl B (cRow 0 ⟨#[]⟩ 0 0 ⟨#[]⟩) rfl rfl 28 _ HR.out (qaq _ _ _ _ _) rfl (qa7 _ _ _ _ _) ?_);exact jpr (qaM (by rfl) _ _ B 28 _ (0,0) _ rfl (jsh _ _ _ _ _ _ HR.out) underlying28 rfl (qaq _ _ _ _ _)) rfl ⟨by rw[HV.out.1,HV.out.2];rfl,by rw[z6.out];exact jbr hb (jlr _) _⟩
 | true=>
  rw[hr]at CR;rw[hr,Bool.true_and]at z2;by_cases hk:f.size=32
  ·have d2:((f.size:Int) != 32)=false:=by rw[hk];rfl
   rw[decide_eq_true hk,Bool.true_and]at z2;by_cases hg:sg.size=64
   ·have d3:((sg.size:Int) != 64)=false:=by rw[hg];rfl
    rw[decide_eq_true hg,Bool.true_and]at z2;have zk:=str_eq (whoB (innB ⟨sr,b,d,e,f⟩) sg) s;by_cases hw:whoB (innB ⟨sr,b,d,e,f⟩) sg=s
    ·rw[decide_eq_true hw]at zk z2;rw[z2,if_pos rfl]at z3;clear z2 hr hk hg hw;generalize whoB (innB ⟨sr,b,d,e,f⟩) sg=wh at *;generalize zb:innB ⟨sr,b,d,e,f⟩=z7 at *;clear zb;by_cases hv:F.ver f z7 sg=0
     ·have HV:=hid (z0 (by rw[z3,if_pos hv]));rw[hv]at CV;clear z3 z1 z0 hv;refine (CR.out _).mono ?_;rintro ee W3⟨rfl,bk⟩;replace hb:=bwt hb HR bk;replace HR:=hkp HR bk;replace HG:=hkp HG bk;clear bk CR;obtain⟨c0,c1,c2,c3,c4⟩:=qam HG.out;go_wp2_with (with_reducible refine jlw rfl 28 _ rfl g rfl 28 _ (0,0) _ HG.out underlying28 rfl (qaq _ _ _ _ _) ?_);clear c0 c1 c2 c3 c4;refine (CI.out _).mono ?_;rintro ee W4⟨rfl,bk⟩;replace hb:=bwt hb HR bk;replace HR:=hkp HR bk;replace HG:=hkp HG bk;clear bk;go_wp2_with fail;refine (CW.out _).mono ?_;rintro ee W5⟨rfl,bk⟩;replace hb:=bwt hb HR bk;replace HR:=hkp HR bk;replace HG:=hkp HG bk;clear bk;go_wp2_with fail;obtain⟨c0,c1,c2,c3,c4⟩:=qam HG.out;refine qaA 6 47 [(Told.val (.pointer (some ⟨g,4,none⟩)),[4]),
       (Told.val (.string f),[38]),
       (Told.val (.agg (cRow sr b d e f)),[4]),
       (Told.val (.string z7),[40]),
       (Told.val (.string sg),[5]),
       (Told.val (.int .i64 0),[39,41,42])]
       (by kernel_rfl) (by kernel_rfl) rfl ?_ ?_
      ·simp only[take_succ_cons,List.take_zero,qaQ,and_true];refine And.intro ?_ (And.intro ?_ (And.intro ?_ (And.intro ?_ (And.intro ?_ (?_)))))
       ·intro a w hb h;refine qag ?_;simp[go_sem,ud0 h rfl,qaa]
       ·intro a w hb h;have hc:=(hb.cell (jbc c4)).trans c4;refine qag ?_;simp[go_sem,td0 h rfl,qaa,hc]
       ·intro a w hb h;have e0:a.tmps.getD 4 undef=.pointer (some ⟨g,0,none⟩):=h 4 (by simp);refine qag ?_;exact qab 28 (.tmp 4) rfl g e0 28 _ (0,0) _ (hkq HG hb) underlying28 rfl (qaq _ _ _ _ _)
       ·intro a w hb h;refine qag ?_;simp[go_sem,td0 h rfl,qaa];exact CI.out _
       ·intro a w hb h;refine qag ?_;simp[go_sem,ud0 h rfl,qaa]
       ·intro a w hb h;refine qag ?_;simp[go_sem,td0 h rfl,td1 h rfl,td2 h rfl,qaa];exact CV.out _
      simp only[zks,qaW,Act.put,zkt];rintro X bk _ rfl _ rfl _ rfl _ rfl _ rfl _ rfl;replace hb:=bwt hb HR bk;replace HR:=hkp HR bk;replace HG:=hkp HG bk;clear bk c0 c1 c2 c3 c4;go_wp2_with (first|(with_reducible refine jlw rfl 28 _ rfl g rfl 28 _ (0,0) _ HG.out underlying28 rfl (qaq _ _ _ _ _) ?_)|(with_reducible refine jsr rfl 28 _ _ rfl B (cRow sr b d e f) rfl rfl 28 _ HR.out (qaq _ _ _ _ _) rfl (qa7 _ _ _ _ _) ?_));exact jpr (qaM (by rfl) _ _ B 28 _ (0,0) _ rfl (jsh _ _ _ _ _ _ HR.out) underlying28 rfl (qaq _ _ _ _ _)) rfl ⟨by rw[HV.out.1,HV.out.2];rfl,by rw[z6.out];exact jbr hb (jlr _) _⟩
     ·have HV:=hid (z1 22 (by rw[z3,if_neg hv]) (by decide));have d5:(F.ver f z7 sg != 0)=true:=by simp[hv]
      clear z3 z1 z0 hv;generalize F.ver f z7 sg=vv at *;refine (CR.out _).mono ?_;rintro ee W3⟨rfl,bk⟩;replace hb:=bwt hb HR bk;replace HR:=hkp HR bk;replace HG:=hkp HG bk;clear bk CR;obtain⟨c0,c1,c2,c3,c4⟩:=qam HG.out;go_wp2_with (with_reducible refine jlw rfl 28 _ rfl g rfl 28 _ (0,0) _ HG.out underlying28 rfl (qaq _ _ _ _ _) ?_);clear c0 c1 c2 c3 c4;refine (CI.out _).mono ?_;rintro ee W4⟨rfl,bk⟩;replace hb:=bwt hb HR bk;replace HR:=hkp HR bk;replace HG:=hkp HG bk;clear bk;go_wp2_with fail;refine (CW.out _).mono ?_;rintro ee W5⟨rfl,bk⟩;replace hb:=bwt hb HR bk;replace HR:=hkp HR bk;replace HG:=hkp HG bk;clear bk;go_wp2_with fail;obtain⟨c0,c1,c2,c3,c4⟩:=qam HG.out;refine qaA 6 47 [(Told.val (.pointer (some ⟨g,4,none⟩)),[4]),
       (Told.val (.string f),[38]),
       (Told.val (.agg (cRow sr b d e f)),[4]),
       (Told.val (.string z7),[40]),
       (Told.val (.string sg),[5]),
       (Told.val (.int .i64 vv),[39,41,42])]
       (by kernel_rfl) (by kernel_rfl) rfl ?_ ?_
      ·simp only[take_succ_cons,List.take_zero,qaQ,and_true];refine And.intro ?_ (And.intro ?_ (And.intro ?_ (And.intro ?_ (And.intro ?_ (?_)))))
       ·intro a w hb h;refine qag ?_;simp[go_sem,ud0 h rfl,qaa]
       ·intro a w hb h;have hc:=(hb.cell (jbc c4)).trans c4;refine qag ?_;simp[go_sem,td0 h rfl,qaa,hc]
       ·intro a w hb h;have e0:a.tmps.getD 4 undef=.pointer (some ⟨g,0,none⟩):=h 4 (by simp);refine qag ?_;exact qab 28 (.tmp 4) rfl g e0 28 _ (0,0) _ (hkq HG hb) underlying28 rfl (qaq _ _ _ _ _)
       ·intro a w hb h;refine qag ?_;simp[go_sem,td0 h rfl,qaa];exact CI.out _
       ·intro a w hb h;refine qag ?_;simp[go_sem,ud0 h rfl,qaa]
       ·intro a w hb h;refine qag ?_;simp[go_sem,td0 h rfl,td1 h rfl,td2 h rfl,qaa];exact CV.out _
      simp only[zks,qaW,Act.put,zkt];rintro X bk _ rfl _ rfl _ rfl _ rfl _ rfl _ rfl;replace hb:=bwt hb HR bk;replace HR:=hkp HR bk;replace HG:=hkp HG bk;clear bk c0 c1 c2 c3 c4;go_wp2_with (with_reducible refine jsr rfl 28 _ _ rfl B (cRow 0 ⟨#[]⟩ 0 0 ⟨#[]⟩) rfl rfl 28 _ HR.out (qaq _ _ _ _ _) rfl (qa7 _ _ _ _ _) ?_);exact jpr (qaM (by rfl) _ _ B 28 _ (0,0) _ rfl (jsh _ _ _ _ _ _ HR.out) underlying28 rfl (qaq _ _ _ _ _)) rfl ⟨by rw[HV.out.1,HV.out.2];rfl,by rw[z6.out];exact jbr hb (jlr _) _⟩
    ·rw[decide_eq_false hw]at zk z2;rw[z2,if_neg Bool.false_ne_true]at z3;have HV:=hid (z1 11 z3 (by decide));clear z2 hr hk hg hw z3 z1 z0 CV;generalize whoB (innB ⟨sr,b,d,e,f⟩) sg=wh at *;generalize zb:innB ⟨sr,b,d,e,f⟩=z7 at *;clear zb;refine (CR.out _).mono ?_;rintro ee W3⟨rfl,bk⟩;replace hb:=bwt hb HR bk;replace HR:=hkp HR bk;replace HG:=hkp HG bk;clear bk CR;obtain⟨c0,c1,c2,c3,c4⟩:=qam HG.out;go_wp2_with (with_reducible refine jlw rfl 28 _ rfl g rfl 28 _ (0,0) _ HG.out underlying28 rfl (qaq _ _ _ _ _) ?_);clear c0 c1 c2 c3 c4;refine (CI.out _).mono ?_;rintro ee W4⟨rfl,bk⟩;replace hb:=bwt hb HR bk;replace HR:=hkp HR bk;replace HG:=hkp HG bk;clear bk;go_wp2_with fail;refine (CW.out _).mono ?_;rintro ee W5⟨rfl,bk⟩;replace hb:=bwt hb HR bk;replace HR:=hkp HR bk;replace HG:=hkp HG bk;clear bk;go_wp2_with (with_reducible refine jsr rfl 28 _ _ rfl B (cRow 0 ⟨#[]⟩ 0 0 ⟨#[]⟩) rfl rfl 28 _ HR.out (qaq _ _ _ _ _) rfl (qa7 _ _ _ _ _) ?_);exact jpr (qaM (by rfl) _ _ B 28 _ (0,0) _ rfl (jsh _ _ _ _ _ _ HR.out) underlying28 rfl (qaq _ _ _ _ _)) rfl ⟨by rw[HV.out.1,HV.out.2];rfl,by rw[z6.out];exact jbr hb (jlr _) _⟩
   ·have d3:((sg.size:Int) != 64)=true:=by simp;omega
    rw[decide_eq_false hg,Bool.false_and]at z2;rw[z2,if_neg Bool.false_ne_true]at z3;have HV:=hid (z1 11 z3 (by decide));clear z2 hr hk hg z3 z1 z0 CV CI CW;refine (CR.out _).mono ?_;rintro ee W3⟨rfl,bk⟩;replace hb:=bwt hb HR bk;replace HR:=hkp HR bk;replace HG:=hkp HG bk;clear bk CR;obtain⟨c0,c1,c2,c3,c4⟩:=qam HG.out;go_wp2_with (with_reducible refine jsr rfl 28 _ _ rfl B (cRow 0 ⟨#[]⟩ 0 0 ⟨#[]⟩) rfl rfl 28 _ HR.out (qaq _ _ _ _ _) rfl (qa7 _ _ _ _ _) ?_);exact jpr (qaM (by rfl) _ _ B 28 _ (0,0) _ rfl (jsh _ _ _ _ _ _ HR.out) underlying28 rfl (qaq _ _ _ _ _)) rfl ⟨by rw[HV.out.1,HV.out.2];rfl,by rw[z6.out];exact jbr hb (jlr _) _⟩
  ·have d2:((f.size:Int) != 32)=true:=by simp;omega
   rw[decide_eq_false hk,Bool.false_and]at z2;rw[z2,if_neg Bool.false_ne_true]at z3;have HV:=hid (z1 11 z3 (by decide));clear z2 hr hk z3 z1 z0 CV CI CW;refine (CR.out _).mono ?_;rintro ee W3⟨rfl,bk⟩;replace hb:=bwt hb HR bk;replace HR:=hkp HR bk;replace HG:=hkp HG bk;clear bk CR;obtain⟨c0,c1,c2,c3,c4⟩:=qam HG.out;go_wp2_with (with_reducible refine jsr rfl 28 _ _ rfl B (cRow 0 ⟨#[]⟩ 0 0 ⟨#[]⟩) rfl rfl 28 _ HR.out (qaq _ _ _ _ _) rfl (qa7 _ _ _ _ _) ?_);exact jpr (qaM (by rfl) _ _ B 28 _ (0,0) _ rfl (jsh _ _ _ _ _ _ HR.out) underlying28 rfl (qaq _ _ _ _ _)) rfl ⟨by rw[HV.out.1,HV.out.2];rfl,by rw[z6.out];exact jbr hb (jlr _) _⟩
def StrsAt(W:World)(ao:Option Addr)(ss:List ByteArray):Prop:=∀ j,j<ss.length→∃ g z0,ao=some ⟨g,z0,none⟩∧W.cell? ⟨g,z0+j,none⟩=some (.string (ss.getD j ⟨#[]⟩))
theorem StrsAt.step{W W':World}{ao:Option Addr}{ss:List ByteArray}(h:StrsAt W ao ss)(hb:Below W.heap.size W W'):StrsAt W' ao ss:=fun j hj=>by
 obtain⟨g,z0,ha,hc⟩:=h j hj;exact⟨g,z0,ha,(hb.cell (jbc hc)).trans hc⟩
theorem StrsAt.nil(W:World)(ao:Option Addr):StrsAt W ao []:=fun j hj=>by cases hj
def fndB(ss:List ByteArray)(z:ByteArray)(k:Nat):Bool:=(ss.take k).any fun p=>decide (p=z)
theorem fnd_zero(ss:List ByteArray)(z:ByteArray):fndB ss z 0=false:=by simp[fndB]
theorem fnd_step(ss:List ByteArray)(z:ByteArray)(k:Nat)(h:k<ss.length):fndB ss z (k+1)=(fndB ss z k || decide (ss.getD k ⟨#[]⟩=z)):=by
 rw[fndB,fndB,List.take_add_one,List.any_append,List.getElem?_eq_getElem h,List.getD_eq_getElem?_getD,List.getElem?_eq_getElem h];simp
theorem fnd_all(ss:List ByteArray)(z:ByteArray)(k:Nat)(h:ss.length≤k):fndB ss z k=ss.any fun p=>decide (p=z):=by rw[fndB,jtl h]
theorem rAllow_any(F:SignF)(R:SignR F)(s:ByteArray)(z3:Int)(ao:Option Addr)(n c:Nat)(ss:List ByteArray)(w:World)(hs:s.size≤1000000)(hn:ss.length=n)(hm:n≤1000000)(hI:StrsAt w ao ss):Rt 21 #[.string s,.int .i64 z3,.slice ao n c] w (.int .i64 (alE F s z3 ss)):=by
 unfold Rt;have CR:=hid (fun W=>rReadC_any F R s W);have CP:=hid (fun W=>rPrint_any F R s W hs);have HI:=hid hI;have hb:=Below.refl w.heap.size w;obtain⟨hz,hi⟩:=jzi qdn;have z0:alE F s z3 ss=if reE F s≠0 then reE F s else if (ss.any fun p=>decide (p=F.sum s))=true then (if z3<(parT s).1.fr∨(parT s).1.to<z3 then 23 else 0) else 24:=rfl;have z1:=fun h=>(re_good F s h).1;obtain⟨⟨sr,b,d,e,f⟩,hc⟩:∃ q,reC F s=q:=⟨_,rfl⟩;rw[hc]at CR z1;rw[cer_row]at CR;have HN:=hid hn;clear hI hi hs hc R;by_cases z6:reE F s=0
 ·have zg:=z1 z6;rw[if_neg (by simp[z6]),← zg]at z0;rw[z6]at CR;have z9:=hid z0;have za:=hid (fun k h=>fnd_step ss (F.sum s) k h);have zi:=hid (fnd_zero ss (F.sum s));have z2:=hid (fnd_all ss (F.sum s) n (by omega));clear z0 z1 z6 zg hn;generalize F.sum s=z at *;go_enter func21,ntmps21;go_wp2_with fail;generalize zc:w.heap.size=B at *;have z8:=hid zc;have hB:B≤w.heap.size:=by omega
  clear zc;refine (CR.out _).mono ?_;rintro ee W1⟨rfl,bk⟩;replace hb:=hb.trans (bk.mono hB);replace hB:=jlt hB bk.size;replace HI:=hid (HI.out.step bk);clear bk CR;have z5:=hid (qad W1 (.cells (cRow 0 ⟨#[]⟩ 0 0 ⟨#[]⟩) 28));have HG:=hid (jsh _ W1.heap.size _ (cRow sr b d e f) _ _ z5.out);have z4:=jbr (qaf W1 (.cells (cRow 0 ⟨#[]⟩ 0 0 ⟨#[]⟩) 28)) (jlr _) (cRow sr b d e f);replace HI:=hid (HI.out.step z4);have zd:=hb.trans (z4.mono hB);have zb:=jlt hB z4.size;clear z4 hb hB;have hb:=zd;have hB:=zb;clear zd zb;go_wp2_with (with_reducible refine jsr rfl 28 _ _ rfl W1.heap.size (cRow sr b d e f) rfl rfl 28 _ z5.out (qaq _ _ _ _ _) rfl (qa7 _ _ _ _ _) ?_);clear z5;generalize (World.setRow (World.alloc _ _) _ _)=W2 at *;generalize W1.heap.size=g at *;clear hz
  go_loopw [9,10] (fun fv iv wr=>∃ k:Nat,k≤n∧fv=.bool (fndB ss z k)∧iv=.int .i64 (k:Int)∧StrsAt wr ao ss∧wr.heap[g]?=some (.cells (cRow sr b d e f) 28)∧Below B w wr∧B≤wr.heap.size) (fun _ iv _=>n-(intOf iv).toNat)
  case atStart=>exact⟨0,by omega,by rw[zi.out],rfl,HI.out,HG.out,hb,hB⟩
  case round=>
   clear hb hB HI HG;obtain⟨k,hk,rfl,rfl,hI,hg,hb,hB⟩:=hrel;have HI:=hid hI;have HG:=hid hg;clear hI hg;by_cases zf:k<n
   ·have hd:decide ((k:Int)<(n:Int))=true:=by simp;omega
    have z7:=za.out k (by rw[HN.out];exact zf)
    cases hf:fndB ss z k with
    | true=>
     rw[hf,Bool.true_or]at z7;have HX:=hid z7;clear z7 hf;go_wp2_with fail;refine qav (by kernel_rfl) (by kernel_rfl) ?_
     repeat (first|go_big_quiet_step (fail)|quiet_step (fail))
     refine jqn ?_;intro X bk;replace hb:=hb.trans (bk.mono hB);replace hB:=jlt hB bk.size;replace HI:=hid (HI.out.step bk);replace HG:=hkp HG bk;clear bk;go_wp2_with fail;go_roundw
     case rel=>exact⟨k+1,by omega,by rw[HX.out],by go_num,HI.out,HG.out,hb,hB⟩
     case measure=>simp[intOf];omega
    | false=>
     rw[hf,Bool.false_or]at z7;obtain⟨g2,zh,rfl,ck⟩:=HI.out k (by rw[HN.out];exact zf);have zj:(k:Int)<(n:Int):=by omega
     have ze:=str_eq (ss.getD k ⟨#[]⟩) z;obtain⟨q,hq⟩:∃ q,decide (ss.getD k ⟨#[]⟩=z)=q:=⟨_,rfl⟩;rw[hq]at z7 ze;have HX:=hid z7;clear z7 hf hq;generalize ss.getD k ⟨#[]⟩=pk at *;go_wp2_with fail;refine qgk 10 47 [(Told.val (.bool false),[9]),
      (Told.val (.bool false),[25]),
      (Told.val (.slice (some ⟨g2,zh,none⟩) n c),[2]),
      (Told.val (.int .i64 (k:Int)),[10]),
      (Told.val (.pointer (some ⟨g2,zh+k,none⟩)),[27,28]),
      (Told.val (.string pk),[29]),
      (Told.val (.string s),[0]),
      (Told.val (.string z),[31]),
      (Told.val (.bool q),[30,32]),
      (Told.val (.bool q),[26,33])]
      (by kernel_rfl) (by kernel_rfl) rfl (by simp[qc8,Told.val]) ?_ ?_
     ·simp only[take_succ_cons,List.take_zero,qaQ,and_true];refine And.intro ?_ (And.intro ?_ (And.intro ?_ (And.intro ?_ (And.intro ?_ (And.intro ?_ (And.intro ?_ (And.intro ?_ (And.intro ?_ (?_)))))))))
      ·intro a w hb h;refine qag ?_;simp[go_sem,ud0 h rfl,qaa]
      ·intro a w hb h;refine qag ?_;simp[go_sem,td0 h rfl,qaa]
      ·intro a w hb h;refine qag ?_;simp[go_sem,ud0 h rfl,qaa]
      ·intro a w hb h;refine qag ?_;simp[go_sem,ud0 h rfl,qaa]
      ·intro a w hb h;refine qag ?_;simp[go_sem,td0 h rfl,td1 h rfl,qaa,zj,zf]
      ·intro a w hb h;have hc:=(hb.cell (jbc ck)).trans ck;refine qag ?_;simp[go_sem,td0 h rfl,qaa,hc]
      ·intro a w hb h;refine qag ?_;simp[go_sem,ud0 h rfl,qaa]
      ·intro a w hb h;refine qag ?_;simp[go_sem,td0 h rfl,qaa];exact CP.out _
      ·intro a w hb h;refine qag ?_;simp[go_sem,td0 h rfl,td1 h rfl,qaa,ze]
      ·intro a w hb h;refine qag ?_;simp[go_sem,td0 h rfl,td1 h rfl,qaa]
     simp only[zks,qaW,Act.put,zkt];rintro X bk _ rfl _ rfl _ rfl _ rfl _ rfl _ rfl _ rfl _ rfl _ rfl _ rfl;replace hb:=hb.trans (bk.mono hB);replace hB:=jlt hB bk.size;replace HI:=hid (HI.out.step bk);replace HG:=hkp HG bk;clear bk ck ze;go_wp2_with fail;go_roundw
     case rel=>exact⟨k+1,by omega,by rw[HX.out],by go_num,HI.out,HG.out,hb,hB⟩
     case measure=>simp[intOf];omega
   ·have hd:decide ((k:Int)<(n:Int))=false:=by simp;omega
    obtain rfl:k=n:=by omega
    rw[z2.out];obtain⟨c0,c1,c2,c3,c4⟩:=qam HG.out;have z0:=z9.out
    cases hf:(ss.any fun p=>decide (p=z)) with
    | false=>
     rw[hf,if_neg Bool.false_ne_true]at z0;have HV:=hid z0;clear z0 hf z9 z2 za;go_wp2_with fail;go_ret;exact⟨by rw[HV.out];rfl,by rw[z8.out];exact hb⟩
    | true=>
     rw[hf,if_pos rfl]at z0;by_cases h1:z3<d
     ·have d1:decide (z3<d)=true:=decide_eq_true h1;rw[if_pos (.inl h1)]at z0;have HV:=hid z0;clear z0 hf z9 z2 za h1;go_wp2_with fail;go_ret;exact⟨by rw[HV.out];rfl,by rw[z8.out];exact hb⟩
     have d1:decide (z3<d)=false:=decide_eq_false h1;by_cases h2:e<z3
     ·have d2:decide (e<z3)=true:=decide_eq_true h2;rw[if_pos (.inr h2)]at z0;have HV:=hid z0;clear z0 hf z9 z2 za h1 h2;go_wp2_with fail;go_ret;exact⟨by rw[HV.out];rfl,by rw[z8.out];exact hb⟩
     ·have d2:decide (e<z3)=false:=decide_eq_false h2;rw[if_neg (by omega)]at z0;have HV:=hid z0;clear z0 hf z9 z2 za h1 h2;go_wp2_with fail;go_ret;exact⟨by rw[HV.out];rfl,by rw[z8.out];exact hb⟩
 ·have d2:(reE F s != 0)=true:=by simp[z6]
  rw[if_pos (by simp[z6])]at z0;have HV:=hid z0;clear z0 z1 z6 hn;generalize reE F s=q at *;go_enter func21,ntmps21;go_wp2_with fail;generalize zc:w.heap.size=B at *;have z8:=hid zc;have hB:B≤w.heap.size:=by omega
  clear zc;refine (CR.out _).mono ?_;rintro ee W1⟨rfl,bk⟩;replace hb:=hb.trans (bk.mono hB);replace hB:=jlt hB bk.size;replace HI:=hid (HI.out.step bk);clear bk CR;have z5:=hid (qad W1 (.cells (cRow 0 ⟨#[]⟩ 0 0 ⟨#[]⟩) 28));have HG:=hid (jsh _ W1.heap.size _ (cRow sr b d e f) _ _ z5.out);have z4:=jbr (qaf W1 (.cells (cRow 0 ⟨#[]⟩ 0 0 ⟨#[]⟩) 28)) (jlr _) (cRow sr b d e f);replace HI:=hid (HI.out.step z4);have zd:=hb.trans (z4.mono hB);have zb:=jlt hB z4.size;clear z4 hb hB;have hb:=zd;have hB:=zb;clear zd zb;go_wp2_with (with_reducible refine jsr rfl 28 _ _ rfl W1.heap.size (cRow sr b d e f) rfl rfl 28 _ z5.out (qaq _ _ _ _ _) rfl (qa7 _ _ _ _ _) ?_);clear z5;generalize (World.setRow (World.alloc _ _) _ _)=W2 at *;generalize W1.heap.size=g at *;go_ret;exact⟨by rw[HV.out];rfl,by rw[z8.out];exact hb⟩
end
end Go.Proofs.YteomfleofeeofaaGreatDoor
