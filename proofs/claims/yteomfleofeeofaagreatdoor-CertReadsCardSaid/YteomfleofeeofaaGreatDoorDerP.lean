/- Package der. -/
import Derived.Test.YteomfleofeeofaaGreatDoorDerS
import Derived.Test.YteomfleofeeofaaGreatDoorShaB
import Derived.OwnWalk
import Derived.BigRegion
import Derived.Lib.MinMax
namespace Go.Proofs.YteomfleofeeofaaGreatDoor
open Go.Lib (hid)
open _root_.List (take_succ_cons drop_succ_cons set_cons_succ set_cons_zero setIfInBounds_toArray)
set_option maxHeartbeats 16000000
open Go.Proofs.Tryz
set_option maxRecDepth 100000
set_option linter.unusedSimpArgs false
set_option linter.unusedVariables false
section
open Go.RowKit Go.Sort
theorem and31:∀ b:Fin 256,bits .and .i64 ((b.val:Nat):Int) 31=((b.val%32:Nat):Int):=by decide +kernel
theorem and31_of(n:Int)(h0:0≤n)(h1:n≤255):bits .and .i64 n 31=n%32:=by
 have:=and31 ⟨n.toNat,by omega⟩;simp only at this;rw[Int.toNat_of_nonneg h0]at this;rw[this];omega
theorem isTag_any(n:Int)(w:World)(h0:-9223372036854775808≤n)(h1:n≤9223372036854775807):Rt 171 #[.int .i64 n] w (.bool (isT n)):=by
 unfold Rt;have hv:isT n=(decide (0≤n)&&decide (n≤255)&&(n%32 != 31)):=rfl;by_cases c1:0≤n
 ·have d1:decide (0≤n)=true:=decide_eq_true c1;by_cases c2:n≤255
  ·have d2:decide (n≤255)=true:=decide_eq_true c2;rw[d1,d2,Bool.true_and,Bool.true_and]at hv;have hr:=and31_of n c1 c2
   cases c3:(n%32 != 31) with
   | true=>
    rw[c3]at hv;have HV:=hid hv;clear hv;go_enter func171,ntmps171;go_wp2_with fail;go_ret;exact⟨by rw[HV.out];rfl,Below.refl _ _⟩
   | false=>
    rw[c3]at hv;have HV:=hid hv;clear hv;go_enter func171,ntmps171;go_wp2_with fail;go_ret;exact⟨by rw[HV.out];rfl,Below.refl _ _⟩
  ·have d2:decide (n≤255)=false:=decide_eq_false c2;rw[d1,d2]at hv;have HV:=hid hv;clear hv;go_enter func171,ntmps171;go_wp2_with fail;go_ret;exact⟨by rw[HV.out];rfl,Below.refl _ _⟩
 ·have d1:decide (0≤n)=false:=decide_eq_false c1;rw[d1]at hv;have HV:=hid hv;clear hv;go_enter func171,ntmps171;go_wp2_with fail;go_ret;exact⟨by rw[HV.out];rfl,Below.refl _ _⟩
def lenB(n:Nat):ByteArray:=⟨(lenL n).toArray⟩
theorem lengthOf_any(n:Nat)(w:World)(h:n<65536):Rt 173 #[.int .i64 (n:Int)] w (.string (lenB n)):=by
 unfold Rt;by_cases c1:n<128
 ·have d1:decide ((n:Int)<128)=true:=by simp;omega
  have wt:IntKind.u8.wrap (n:Int)=(n:Int):=by rw[IntKind.wrap_u8];omega
  have HV:Hid (lenB n=⟨[UInt8.ofNat n].toArray⟩):=hid (by rw[lenB,lenL,if_pos c1]);have hb:=qaf w (.cells #[.int .u8 (n:Int)] 5);have z0:=qel (w.alloc (.cells #[.int .u8 (n:Int)] 5)) w.heap.size 0 1 1 [UInt8.ofNat n] rfl (fun j x hx=>by
   rw[Nat.zero_add];have e1:=qcY n (by omega);rw[jco _ w.heap.size j _ _ (0,0) (qad w _)]
   match j,hx with
   | 0,hx=>simp at hx;subst hx;simp only[e1];rfl
   | j+1,hx=>simp at hx)
  go_enter func173,ntmps173;go_wp2_with fail;go_ret;exact⟨by rw[HV.out];rfl,hb⟩
 have d1:decide ((n:Int)<128)=false:=by simp;omega
 by_cases c2:n<256
 ·have d2:decide ((n:Int)<256)=true:=by simp;omega
  have wt:IntKind.u8.wrap (n:Int)=(n:Int):=by rw[IntKind.wrap_u8];omega
  have HV:Hid (lenB n=⟨[129,UInt8.ofNat n].toArray⟩):=hid (by rw[lenB,lenL,if_neg c1,if_pos c2]);have hb:=qaf w (.cells #[.int .u8 129,.int .u8 (n:Int)] 5);have z0:=qel (w.alloc (.cells #[.int .u8 129,.int .u8 (n:Int)] 5)) w.heap.size 0 2 2 [129,UInt8.ofNat n] rfl (fun j x hx=>by
   rw[Nat.zero_add];have e1:=qcY n (by omega);rw[jco _ w.heap.size j _ _ (0,0) (qad w _)]
   match j,hx with
   | 0,hx=>simp at hx;subst hx;rfl
   | 1,hx=>simp at hx;subst hx;simp only[e1];rfl
   | j+2,hx=>simp at hx)
  go_enter func173,ntmps173;go_wp2_with fail;go_ret;exact⟨by rw[HV.out];rfl,hb⟩
 have d2:decide ((n:Int)<256)=false:=by simp;omega
 have w8:IntKind.u8.wrap ((n:Int)/256)=(n:Int)/256:=by rw[IntKind.wrap_u8];omega
 have w9:IntKind.u8.wrap (n:Int)=(n:Int)%256:=by rw[IntKind.wrap_u8]
 have HV:Hid (lenB n=⟨[130,UInt8.ofNat (n/256),UInt8.ofNat n].toArray⟩):=hid (by rw[lenB,lenL,if_neg c1,if_neg c2]);have hb:=qaf w (.cells #[.int .u8 130,.int .u8 ((n:Int)/256),.int .u8 ((n:Int)%256)] 5);have z0:=qel (w.alloc (.cells #[.int .u8 130,.int .u8 ((n:Int)/256),.int .u8 ((n:Int)%256)] 5)) w.heap.size 0 3 3 [130,UInt8.ofNat (n/256),UInt8.ofNat n] rfl (fun j x hx=>by
  rw[Nat.zero_add];have e1:((UInt8.ofNat (n/256)).toNat:Int)=(n:Int)/256:=by rw[UInt8.toNat_ofNat'];omega
  have e2:((UInt8.ofNat n).toNat:Int)=(n:Int)%256:=by rw[UInt8.toNat_ofNat'];omega
  rw[jco _ w.heap.size j _ _ (0,0) (qad w _)]
  match j,hx with
  | 0,hx=>simp at hx;subst hx;rfl
  | 1,hx=>simp at hx;subst hx;simp only[e1];rfl
  | 2,hx=>simp at hx;subst hx;simp only[e2];rfl
  | j+3,hx=>simp at hx)
 go_enter func173,ntmps173;go_wp2_with fail;go_ret;exact⟨by rw[HV.out];rfl,hb⟩
theorem lenB_size(n:Nat):(lenB n).size≤3:=by
 show (lenL n).length≤3;rw[lenL];split
 ·simp
 split<;>simp
def tOne(x:Value):Told:=⟨fun w v=>∃ g,v=.slice (some ⟨g,0,none⟩) 1 1∧w.cell? ⟨g,0,none⟩=some x,fun w w' v hb ⟨g,e,hc⟩=>⟨g,e,(hb.cell (jbc hc)).trans hc⟩⟩
theorem one_new(w:World)(t:TypeId)(x:Value):(w.alloc (.cells #[x] t)).cell? ⟨w.heap.size,0,none⟩=some x:=by
 rw[jco _ w.heap.size 0 _ t (0,0) (qad w _)];rfl
theorem element_text(a n:Nat)(b:ByteArray):(⟨#[UInt8.ofNat a]⟩++lenB n:ByteArray)=⟨(wrL (a:Int) n).toArray⟩:=by
 apply ByteArray.ext;rw[ByteArray.data_append];show (#[UInt8.ofNat a]++(lenL n).toArray:Array UInt8)=(wrL (a:Int) n).toArray;rw[wrL,Int.toNat_natCast];simp
theorem qgm(tg:Nat)(b:ByteArray)(w:World)(ha:tg<256)(hn:b.size<65536):Rt 109 #[.int .i64 (tg:Int),.string b] w (.string (⟨(wrL (tg:Int) b.size).toArray⟩++b)):=by
 unfold Rt;have CL:=hid (fun W=>lengthOf_any b.size W hn);have z4:=lenB_size b.size;have wt:IntKind.u8.wrap (tg:Int)=(tg:Int):=by rw[IntKind.wrap_u8];omega
 have HA:=hid (qcY tg ha);have ht:=element_text tg b.size b;have k1:1+(lenB b.size).size≤9223372036854775807:=by omega
 have z0:(⟨#[UInt8.ofNat tg]⟩:ByteArray).size=1:=rfl;have k2:1+(lenB b.size).size+b.size≤9223372036854775807:=by omega
 have k3:(⟨#[UInt8.ofNat tg]⟩++lenB b.size:ByteArray).size+b.size≤9223372036854775807:=by rw[ByteArray.size_append,z0];exact k2
 rw[← ht];have z2:=Below.refl w.heap.size w;generalize z1:lenB b.size=lb at *;clear z1 ht hn z4 ha k3;go_enter func109,ntmps109;go_wp2_with fail;refine qaA 10 15 [(Told.val (.int .i64 (tg:Int)),[0]),
  (Told.val (.int .u8 (tg:Int)),[5]),
  (tOne (.int .u8 (tg:Int)),[6]),
  (Told.val (.string ⟨#[UInt8.ofNat tg]⟩),[7]),
  (Told.val (.string b),[1]),
  (Told.val (.int .i64 (b.size:Int)),[9]),
  (Told.val (.string lb),[10]),
  (Told.val (.string (⟨#[UInt8.ofNat tg]⟩++lb)),[8,11]),
  (Told.val (.string b),[1]),
  (Told.val (.string (⟨#[UInt8.ofNat tg]⟩++lb++b)),[12,13])]
  (by kernel_rfl) (by kernel_rfl) rfl ?_ ?_
 ·simp only[take_succ_cons,List.take_zero,qaQ,and_true];refine And.intro ?_ (And.intro ?_ (And.intro ?_ (And.intro ?_ (And.intro ?_ (And.intro ?_ (And.intro ?_ (And.intro ?_ (And.intro ?_ (?_)))))))))
  ·intro a w hb h;refine qag ?_;simp[go_sem,ud0 h rfl,qaa]
  ·intro a w hb h;refine qag ?_;simp[go_sem,td0 h rfl,qaa,wt]
  ·intro a w hb h;simp[go_sem,td0 h rfl,qai];exact⟨qaf _ _,_,rfl,one_new _ _ _⟩
  ·intro a w hb h;have t0:=h 7 (by simp);replace t0:(tOne (.int .u8 (tg:Int))).T w (a.tmps.getD 7 undef):=t0;obtain⟨g0,e0,c0⟩:=t0;simp only[Array.getD_eq_getD_getElem?]at e0;have z3:=qel w g0 0 1 1 [UInt8.ofNat tg] rfl (fun j x hx=>by
    rw[Nat.zero_add]
    match j,hx with
    | 0,hx=>simp at hx;subst hx;rw[HA.out];exact c0
    | j+1,hx=>simp at hx)
   refine qag ?_;simp[go_sem,e0,qaa,z3]
  ·intro a w hb h;refine qag ?_;simp[go_sem,ud0 h rfl,qaa]
  ·intro a w hb h;refine qag ?_;simp[go_sem,td0 h rfl,qaa]
  ·intro a w hb h;refine qag ?_;simp[go_sem,td0 h rfl,qaa];exact CL.out _
  ·intro a w hb h;refine qag ?_;simp[go_sem,td0 h rfl,td1 h rfl,qaa,z0,Nat.not_lt.2 k1]
  ·intro a w hb h;refine qag ?_;simp[go_sem,ud0 h rfl,qaa]
  ·intro a w hb h;refine qag ?_;simp[go_sem,td0 h rfl,td1 h rfl,qaa,z0,Nat.not_lt.2 k2]
 simp only[zks,qaW,Act.put,zkt];rintro X bk _ rfl _ rfl v7 q7 _ rfl _ rfl _ rfl _ rfl _ rfl _ rfl _ rfl;clear q7;go_wp2_with fail;go_ret;exact⟨rfl,z2.trans bk⟩
theorem write_any(n:Int)(b:ByteArray)(w:World)(h0:-9223372036854775808≤n)(h1:n≤9223372036854775807)(hs:b.size≤1000000000):Rt 104 #[.int .i64 n,.string b] w (.tuple #[.string (wrX n b),.int .i64 (wrE n b)]):=by
 unfold Rt;have CT:=hid (fun W=>isTag_any n W h0 h1);have hb:=Below.refl w.heap.size w
 cases c1:isT n with
 | false=>
  rw[c1]at CT;have hE:wrE n b=1:=by rw[wrE,c1,if_neg Bool.false_ne_true]
  have HV:Hid (wrX n b=⟨#[]⟩∧wrE n b=1):=hid ⟨by rw[wrX,hE,if_neg (by decide)],hE⟩;clear hE c1 h0 h1;go_enter func104,ntmps104;go_wp2_with fail;refine (CT.out w).mono ?_;rintro e W1⟨rfl,bk⟩;replace hb:=bws hb bk;clear bk CT;go_wp2_with fail;go_ret2;exact⟨by rw[HV.out.1,HV.out.2];rfl,hb⟩
 | true=>
  rw[c1]at CT;by_cases c2:b.size<65536
  ·have hE:wrE n b=0:=by rw[wrE,c1,if_pos rfl,if_pos c2]
   have hr:0≤n∧n≤255:=by
    rw[isT]at c1;simp only[Bool.and_eq_true,decide_eq_true_eq]at c1;exact c1.1
   obtain⟨a,rfl⟩:∃ a:Nat,n=(a:Int):=⟨n.toNat,by omega⟩;have HV:Hid (wrX (a:Int) b=⟨(wrL (a:Int) b.size).toArray⟩++b∧wrE (a:Int) b=0):=hid ⟨by rw[wrX,if_pos hE],hE⟩;have CE:=hid (fun W=>qgm a b W (by omega) c2);have d1:decide ((65535:Int)<(b.size:Int))=false:=by simp;omega
   generalize (⟨(wrL (a:Int) b.size).toArray⟩++b:ByteArray)=o at *;clear hE c1 h0 h1 hr c2;go_enter func104,ntmps104;go_wp2_with fail;refine (CT.out w).mono ?_;rintro e W1⟨rfl,bk⟩;replace hb:=bws hb bk;clear bk CT;go_wp2_with fail;refine (CE.out _).mono ?_;rintro e W2⟨rfl,bk⟩;replace hb:=bws hb bk;clear bk CE;go_wp2_with fail;go_ret2;exact⟨by rw[HV.out.1,HV.out.2];rfl,hb⟩
  ·have hE:wrE n b=13:=by rw[wrE,c1,if_pos rfl,if_neg c2]
   have HV:Hid (wrX n b=⟨#[]⟩∧wrE n b=13):=hid ⟨by rw[wrX,hE,if_neg (by decide)],hE⟩;have d1:decide ((65535:Int)<(b.size:Int))=true:=by simp;omega
   clear hE c1 h0 h1;go_enter func104,ntmps104;go_wp2_with fail;refine (CT.out w).mono ?_;rintro e W1⟨rfl,bk⟩;replace hb:=bws hb bk;clear bk CT;go_wp2_with fail;go_ret2;exact⟨by rw[HV.out.1,HV.out.2];rfl,hb⟩
def qbJ(d:List UInt8):Nat→Nat
 | 0=>0
 | k+1=>qbJ d k*256+rdB d (k+1)
def slA(d:List UInt8):Nat:=if 128<rdB d 0 then rdB d 0-127 else 1
def slN(d:List UInt8):Nat:=if rdB d 0<128 then rdB d 0 else qbJ d (rdB d 0-128)
def slE(d:List UInt8):Int:=
 if d.length=0 then 10 else if rdB d 0<128 then 0 else if rdB d 0=128∨130<rdB d 0 then 11 else if d.length<slA d then 10 else
  if (rdB d 0=129∧slN d<128)∨(rdB d 0=130∧slN d<256) then 11 else 0
def slV(s:ByteArray):Int:=if slE s.data.toList=0 then (slN s.data.toList:Int) else 0
def slR(s:ByteArray):ByteArray:=if slE s.data.toList=0 then s.extract (slA s.data.toList) s.size else ⟨#[]⟩
theorem sl_bad(s:ByteArray)(e:Int)(h:slE s.data.toList=e)(he:e≠0):slV s=0∧slR s=⟨#[]⟩∧slE s.data.toList=e:=by
 have hn:¬ slE s.data.toList=0:=by rw[h];exact he
 exact⟨if_neg hn,if_neg hn,h⟩
theorem sl_good(s:ByteArray)(h:slE s.data.toList=0):slV s=(slN s.data.toList:Int)∧slR s=s.extract (slA s.data.toList) s.size∧slE s.data.toList=0:=⟨if_pos h,if_pos h,h⟩
theorem slAcc_lt(d:List UInt8):∀ k,qbJ d k<256^k
 | 0=>Nat.one_pos
 | k+1=>by
  have:=slAcc_lt d k;have:=qbA d (k+1);rw[qbJ,Nat.pow_succ];omega
theorem rd_of_sl(x:UInt8)(d:List UInt8):rdA (x :: d)=slA d+1∧(slE d=0→rdN (x :: d)=slN d)∧
  rdE (x :: d)=if x.toNat%32=31 then 11 else if slE d≠0 then slE d else if d.length-slA d<slN d then 10 else 0:=by
 have q0:rdB (x :: d) 0=x.toNat:=rfl;have q1:rdB (x :: d) 1=rdB d 0:=rdB_cons x d 0;have q2:rdB (x :: d) 2=rdB d 1:=rdB_cons x d 1;have q3:rdB (x :: d) 3=rdB d 2:=rdB_cons x d 2;have ql:(x :: d).length=d.length+1:=rfl;have a1:qbJ d 1=rdB d 1:=by show 0*256+rdB d 1=_;omega
 have a2:qbJ d 2=256*rdB d 1+rdB d 2:=by show qbJ d 1*256+rdB d 2=_;rw[a1];omega
 have hA:rdA (x :: d)=slA d+1:=by
  rw[rdA,slA,q1];by_cases c:128<rdB d 0
  ·rw[if_pos c,if_pos c];omega
  ·rw[if_neg c,if_neg c]
 have hN:¬ (rdB d 0=128∨130<rdB d 0)→rdN (x :: d)=slN d:=fun hn=>by
  rw[rdN,slN,q1,q2,q3];by_cases c0:rdB d 0<128
  ·rw[if_neg (by omega),if_neg (by omega),if_pos c0]
  by_cases c1:rdB d 0=129
  ·rw[if_pos c1,if_neg c0,c1];exact a1.symm
  ·have c2:rdB d 0=130:=by omega
   rw[if_neg c1,if_pos c2,if_neg c0,c2];exact a2.symm
 refine⟨hA,fun h=>hN ?_,?_⟩
 ·intro hn;rw[slE]at h;by_cases x0:d.length=0
  ·rw[if_pos x0]at h;cases h
  rw[if_neg x0,if_neg (by omega),if_pos hn]at h
  cases h
 rw[rdE,slE,hA,ql,q0,q1,if_neg (by omega)];by_cases c:x.toNat%32=31
 ·rw[if_pos c,if_pos c]
 rw[if_neg c,if_neg c];by_cases c0:d.length=0
 ·rw[if_pos (by omega),if_pos c0];rfl
 rw[if_neg (by omega),if_neg c0];by_cases c1:rdB d 0<128
 ·have hn:¬ (rdB d 0=128∨130<rdB d 0):=by omega
  have ha:slA d=1:=if_neg (by omega);rw[hN hn,if_neg hn,if_pos c1,if_neg (show ¬ d.length+1<slA d+1 by omega),if_neg (show ¬ ((rdB d 0=129∧slN d<128)∨(rdB d 0=130∧slN d<256)) by omega),if_neg (show ¬ ((0:Int)≠0) by simp),ha];by_cases c3:d.length-1<slN d
  ·rw[if_pos (show d.length+1<1+1+slN d by omega),if_pos c3]
  ·rw[if_neg (show ¬ d.length+1<1+1+slN d by omega),if_neg c3]
 rw[if_neg c1];by_cases c2:rdB d 0=128∨130<rdB d 0
 ·rw[if_pos c2,if_pos c2];rfl
 rw[if_neg c2,if_neg c2,hN c2];by_cases c4:d.length<slA d
 ·rw[if_pos (show d.length+1<slA d+1 by omega),if_pos c4];rfl
 rw[if_neg (show ¬ d.length+1<slA d+1 by omega),if_neg c4];by_cases c5:(rdB d 0=129∧slN d<128)∨(rdB d 0=130∧slN d<256)
 ·rw[if_pos c5,if_pos c5];rfl
 rw[if_neg c5,if_neg c5,if_neg (show ¬ ((0:Int)≠0) by simp)];by_cases c3:d.length-slA d<slN d
 ·rw[if_pos (show d.length+1<slA d+1+slN d by omega),if_pos c3]
 ·rw[if_neg (show ¬ d.length+1<slA d+1+slN d by omega),if_neg c3]
theorem list_two(d:List UInt8)(h:2≤d.length):d.take 2=[UInt8.ofNat (rdB d 0),UInt8.ofNat (rdB d 1)]:=by
 match d,h with
 | x :: y :: r,_=>simp[rdB]
theorem list_three(d:List UInt8)(h:3≤d.length):d.take 3=[UInt8.ofNat (rdB d 0),UInt8.ofNat (rdB d 1),UInt8.ofNat (rdB d 2)]:=by
 match d,h with
 | x :: y :: z :: r,_=>simp[rdB]
theorem sl_short(d:List UInt8)(F:Nat)(h0:rdB d 0=128+F)(h1:1≤F)(h2:F≤2)(hl:F+1≤d.length):(lenL (qbJ d F)=d.take (1+F))↔¬ ((rdB d 0=129∧slN d<128)∨(rdB d 0=130∧slN d<256)):=by
 have hN:slN d=qbJ d F:=by rw[slN,if_neg (by omega),h0,Nat.add_sub_cancel_left]
 have a1:qbJ d 1=rdB d 1:=by show 0*256+rdB d 1=_;omega
 have a2:qbJ d 2=rdB d 1*256+rdB d 2:=by show qbJ d 1*256+rdB d 2=_;rw[a1]
 have b1:=qbA d 1;have b2:=qbA d 2;rw[hN];by_cases c:F=1
 ·subst c;rw[show 1+1=2 from rfl,list_two d (by omega),h0,a1,lenL];by_cases c1:rdB d 1<128
  ·rw[if_pos c1];refine⟨fun h=>?_,fun h=>absurd (.inl ⟨rfl,c1⟩) h⟩;have:=congrArg List.length h;simp at this
  ·rw[if_neg c1,if_pos b1];exact⟨fun _=>by omega,fun _=>rfl⟩
 ·obtain rfl:F=2:=by omega
  rw[show 1+2=3 from rfl,list_three d (by omega),h0,a2,lenL];by_cases c1:rdB d 1*256+rdB d 2<256
  ·refine⟨fun h=>?_,fun h=>absurd (.inr ⟨rfl,c1⟩) h⟩;have:=congrArg List.length h;split at this
   ·simp at this
   ·first|(simp[c1]at this;done)|(rw[if_pos c1]at this;simp at this)
  ·rw[if_neg (by omega),if_neg c1];refine⟨fun _=>by omega,fun _=>?_⟩;have e1:(rdB d 1*256+rdB d 2)/256=rdB d 1:=by omega
   have e2:UInt8.ofNat (rdB d 1*256+rdB d 2)=UInt8.ofNat (rdB d 2):=by
    apply UInt8.toNat_inj.1;rw[UInt8.toNat_ofNat',UInt8.toNat_ofNat'];omega
   rw[e1,e2]
   rfl
theorem pre_list(s:ByteArray)(k:Nat):(s.extract 0 k).data.toList=s.data.toList.take k:=by
 simp
theorem qfb(s:ByteArray)(k:Nat):(s.extract k s.size).data.toList=s.data.toList.drop k:=by
 rw[ByteArray.data_extract,Array.toList_extract,List.extract_eq_take_drop,jtl (by rw[List.length_drop,← Lib.size_eq];exact jlr _)]
theorem qdu(s:ByteArray)(k:Nat):(s.extract k s.size).size=s.size-k:=by
 rw[ByteArray.size_extract];omega
theorem suf_at(s:ByteArray)(k i:Nat):rdB (s.extract k s.size).data.toList i=rdB s.data.toList (k+i):=by
 rw[qfb,rdB,rdB,List.getD_eq_getElem?_getD,List.getElem?_drop,← List.getD_eq_getElem?_getD]
theorem suf_suf(s:ByteArray)(k j:Nat):(s.extract k s.size).extract j (s.extract k s.size).size=s.extract (k+j) s.size:=by
 apply ByteArray.ext;apply Array.toList_inj.1;rw[qfb,qfb,qfb,List.drop_drop]
theorem splitLen_any(s:ByteArray)(w:World)(hs:s.size≤1000000000):Rt 213 #[.string s] w (.tuple #[.int .i64 (slV s),.string (slR s),.int .i64 (slE s.data.toList)]):=by
 unfold Rt;have hl:s.data.toList.length=s.size:=(Lib.size_eq s).symm;have hb:=Below.refl w.heap.size w;by_cases c0:s.size=0
 ·have q0:(s.toList==[])=true:=by rw[Lib.toList_data];have:s.data.toList=[]:=List.length_eq_zero_iff.1 (by omega);rw[this];rfl
  have HB:=hid (sl_bad s 10 (by rw[slE,if_pos (by omega)]) (by decide));clear hl hs;go_enter func213,ntmps213;go_wp2_with fail;go_ret3;exact⟨by rw[HB.out.1,HB.out.2.1,HB.out.2.2];rfl,hb⟩
 have q0:(s.toList==[])=false:=by rw[Lib.toList_data];cases h:s.data.toList with|nil=>rw[h]at hl;exact absurd hl.symm c0|cons a r=>rfl
 have z1:0<s.size:=by omega
 have z2:(0:Int)<(s.size:Int):=by omega
 have z3:(1:Int)≤(s.size:Int):=by omega
 have z4:1≤s.size:=by omega
 have t0:=qce s 0 z1;have h0:=qbA s.data.toList 0;have n0:¬ s.data.toList.length=0:=by omega
 have wb:IntKind.i64.wrap (rdB s.data.toList 0:Int)=(rdB s.data.toList 0:Int):=by rw[IntKind.wrap_i64];omega
 by_cases c1:rdB s.data.toList 0<128
 ·have HB:=hid (sl_good s (by rw[slE,if_neg n0,if_pos c1]));rw[slA,slN,if_pos c1,if_neg (by omega)]at HB;have d1:decide ((rdB s.data.toList 0:Int)<128)=true:=by simp;omega
  obtain⟨b0,eb⟩:∃ b0,rdB s.data.toList 0=b0:=⟨_,rfl⟩;rw[eb]at t0 wb;have EB:=hid eb;clear eb;obtain⟨r,z0⟩:∃ r,s.extract 1 s.size=r:=⟨_,rfl⟩;have ER:=hid z0;have er:s.extract 1 s.size=r:=z0;clear z0;rw[EB.out]at d1 HB;rw[ER.out]at HB;clear hl hs n0 c0 c1 h0;go_enter func213,ntmps213;go_wp2_with fail;refine qaA 6 55 [(Told.val (.string s),[0]),
   (Told.val (.int .u8 (b0:Int)),[11]),
   (Told.val (.int .i64 (b0:Int)),[12]),
   (Told.val (.string s),[0]),
   (Told.val (.string r),[14]),
   (Told.val (.int .i64 (b0:Int)),[13])]
   (by kernel_rfl) (by kernel_rfl) rfl ?_ ?_
  ·simp only[take_succ_cons,List.take_zero,qaQ,and_true];refine And.intro ?_ (And.intro ?_ (And.intro ?_ (And.intro ?_ (And.intro ?_ (?_)))))
   ·intro a w hb h;refine qag ?_;simp[go_sem,ud0 h rfl,qaa]
   ·intro a w hb h;refine qag ?_;simp[go_sem,td0 h rfl,qaa,z2,z1,t0]
   ·intro a w hb h;refine qag ?_;simp[go_sem,td0 h rfl,qaa,wb]
   ·intro a w hb h;refine qag ?_;simp[go_sem,ud0 h rfl,qaa]
   ·intro a w hb h;refine qag ?_;simp[go_sem,td0 h rfl,qaa,z3,z4,er]
   ·intro a w hb h;refine qag ?_;simp[go_sem,td0 h rfl,qaa]
  simp only[zks,qaW,Act.put,zkt];rintro X bk _ rfl _ rfl _ rfl _ rfl _ rfl _ rfl;replace hb:=bws hb bk;clear bk t0 z2 z1 z3 z4 er;go_wp2_with fail;go_ret3;exact⟨by rw[HB.out.1,HB.out.2.1,HB.out.2.2];rfl,hb⟩
 have d1:decide ((rdB s.data.toList 0:Int)<128)=false:=by simp;omega
 have ws:IntKind.i64.wrap ((rdB s.data.toList 0:Int)-128)=(rdB s.data.toList 0:Int)-128:=by rw[IntKind.wrap_i64];omega
 by_cases c2:rdB s.data.toList 0=128∨130<rdB s.data.toList 0
 ·have HB:=hid (sl_bad s 11 (by rw[slE,if_neg n0,if_neg c1,if_pos c2]) (by decide));by_cases c3:rdB s.data.toList 0=128
  ·have d2:((rdB s.data.toList 0:Int)-128==0)=true:=by simp;omega
   obtain⟨b0,eb⟩:∃ b0,rdB s.data.toList 0=b0:=⟨_,rfl⟩;rw[eb]at t0 wb;have EB:=hid eb;clear eb;obtain⟨r,z0⟩:∃ r,s.extract 1 s.size=r:=⟨_,rfl⟩;have ER:=hid z0;have er:s.extract 1 s.size=r:=z0;clear z0;rw[EB.out]at d1 d2 ws;clear hl hs n0 c0 c1 c2 c3 h0;go_enter func213,ntmps213;go_wp2_with fail;refine qaA 6 55 [(Told.val (.string s),[0]),
    (Told.val (.int .u8 (b0:Int)),[11]),
    (Told.val (.int .i64 (b0:Int)),[12]),
    (Told.val (.string s),[0]),
    (Told.val (.string r),[14]),
    (Told.val (.int .i64 (b0:Int)),[13])]
    (by kernel_rfl) (by kernel_rfl) rfl ?_ ?_
   ·simp only[take_succ_cons,List.take_zero,qaQ,and_true];refine And.intro ?_ (And.intro ?_ (And.intro ?_ (And.intro ?_ (And.intro ?_ (?_)))))
    ·intro a w hb h;refine qag ?_;simp[go_sem,ud0 h rfl,qaa]
    ·intro a w hb h;refine qag ?_;simp[go_sem,td0 h rfl,qaa,z2,z1,t0]
    ·intro a w hb h;refine qag ?_;simp[go_sem,td0 h rfl,qaa,wb]
    ·intro a w hb h;refine qag ?_;simp[go_sem,ud0 h rfl,qaa]
    ·intro a w hb h;refine qag ?_;simp[go_sem,td0 h rfl,qaa,z3,z4,er]
    ·intro a w hb h;refine qag ?_;simp[go_sem,td0 h rfl,qaa]
   simp only[zks,qaW,Act.put,zkt];rintro X bk _ rfl _ rfl _ rfl _ rfl _ rfl _ rfl;replace hb:=bws hb bk;clear bk t0 z2 z1 z3 z4 er;go_wp2_with fail;go_ret3;exact⟨by rw[HB.out.1,HB.out.2.1,HB.out.2.2];rfl,hb⟩
  ·have d2:((rdB s.data.toList 0:Int)-128==0)=false:=by simp;omega
   have d3:decide ((2:Int)<(rdB s.data.toList 0:Int)-128)=true:=by simp;omega
   obtain⟨b0,eb⟩:∃ b0,rdB s.data.toList 0=b0:=⟨_,rfl⟩;rw[eb]at t0 wb;have EB:=hid eb;clear eb;obtain⟨r,z0⟩:∃ r,s.extract 1 s.size=r:=⟨_,rfl⟩;have ER:=hid z0;have er:s.extract 1 s.size=r:=z0;clear z0;rw[EB.out]at d1 d2 d3 ws;clear hl hs n0 c0 c1 c2 c3 h0;go_enter func213,ntmps213;go_wp2_with fail;refine qaA 6 55 [(Told.val (.string s),[0]),
    (Told.val (.int .u8 (b0:Int)),[11]),
    (Told.val (.int .i64 (b0:Int)),[12]),
    (Told.val (.string s),[0]),
    (Told.val (.string r),[14]),
    (Told.val (.int .i64 (b0:Int)),[13])]
    (by kernel_rfl) (by kernel_rfl) rfl ?_ ?_
   ·simp only[take_succ_cons,List.take_zero,qaQ,and_true];refine And.intro ?_ (And.intro ?_ (And.intro ?_ (And.intro ?_ (And.intro ?_ (?_)))))
    ·intro a w hb h;refine qag ?_;simp[go_sem,ud0 h rfl,qaa]
    ·intro a w hb h;refine qag ?_;simp[go_sem,td0 h rfl,qaa,z2,z1,t0]
    ·intro a w hb h;refine qag ?_;simp[go_sem,td0 h rfl,qaa,wb]
    ·intro a w hb h;refine qag ?_;simp[go_sem,ud0 h rfl,qaa]
    ·intro a w hb h;refine qag ?_;simp[go_sem,td0 h rfl,qaa,z3,z4,er]
    ·intro a w hb h;refine qag ?_;simp[go_sem,td0 h rfl,qaa]
   simp only[zks,qaW,Act.put,zkt];rintro X bk _ rfl _ rfl _ rfl _ rfl _ rfl _ rfl;replace hb:=bws hb bk;clear bk t0 z2 z1 z3 z4 er;go_wp2_with fail;go_ret3;exact⟨by rw[HB.out.1,HB.out.2.1,HB.out.2.2];rfl,hb⟩
 obtain⟨F,hF⟩:∃ F,rdB s.data.toList 0=128+F:=⟨rdB s.data.toList 0-128,by omega⟩;have zd:1≤F:=by omega
 have z9:F≤2:=by omega
 have hA:slA s.data.toList=F+1:=by rw[slA,if_pos (by omega)];omega
 have hN:slN s.data.toList=qbJ s.data.toList F:=by rw[slN,if_neg c1,hF,Nat.add_sub_cancel_left]
 have zb:=hid (fun hh=>sl_short s.data.toList F hF zd z9 hh);have z5:(rdB s.data.toList 0:Int)-128=(F:Int):=by omega
 have d2:((F:Int)==0)=false:=by simp;omega
 have d3:decide ((2:Int)<(F:Int))=false:=by simp;omega
 rw[z5]at ws;have zj:(s.extract 1 s.size).size=s.size-1:=qdu s 1;by_cases c4:s.size<F+1
 ·have HB:=hid (sl_bad s 10 (by rw[slE,if_neg n0,if_neg c1,if_neg c2,if_pos (by omega)]) (by decide));have d4:(s.extract 1 s.size).size<F:=by omega
  obtain⟨b0,eb⟩:∃ b0,rdB s.data.toList 0=b0:=⟨_,rfl⟩;rw[eb]at t0 wb;have EB:=hid eb;clear eb;obtain⟨r,z0⟩:∃ r,s.extract 1 s.size=r:=⟨_,rfl⟩;have ER:=hid z0;have er:s.extract 1 s.size=r:=z0;clear z0;rw[EB.out]at d1 z5;rw[ER.out]at d4;clear hl hs n0 c0 c1 c2 h0 hF hA hN zb zj zd z9 c4;go_enter func213,ntmps213;go_wp2_with fail;refine qaA 6 55 [(Told.val (.string s),[0]),
   (Told.val (.int .u8 (b0:Int)),[11]),
   (Told.val (.int .i64 (b0:Int)),[12]),
   (Told.val (.string s),[0]),
   (Told.val (.string r),[14]),
   (Told.val (.int .i64 (b0:Int)),[13])]
   (by kernel_rfl) (by kernel_rfl) rfl ?_ ?_
  ·simp only[take_succ_cons,List.take_zero,qaQ,and_true];refine And.intro ?_ (And.intro ?_ (And.intro ?_ (And.intro ?_ (And.intro ?_ (?_)))))
   ·intro a w hb h;refine qag ?_;simp[go_sem,ud0 h rfl,qaa]
   ·intro a w hb h;refine qag ?_;simp[go_sem,td0 h rfl,qaa,z2,z1,t0]
   ·intro a w hb h;refine qag ?_;simp[go_sem,td0 h rfl,qaa,wb]
   ·intro a w hb h;refine qag ?_;simp[go_sem,ud0 h rfl,qaa]
   ·intro a w hb h;refine qag ?_;simp[go_sem,td0 h rfl,qaa,z3,z4,er]
   ·intro a w hb h;refine qag ?_;simp[go_sem,td0 h rfl,qaa]
  simp only[zks,qaW,Act.put,zkt];rintro X bk _ rfl _ rfl _ rfl _ rfl _ rfl _ rfl;replace hb:=bws hb bk;clear bk t0 z2 z1 z3 z4 er;go_wp2_with fail;go_ret3;exact⟨by rw[HB.out.1,HB.out.2.1,HB.out.2.2];rfl,hb⟩
 have d4:¬ (s.extract 1 s.size).size<F:=by omega
 have f4:1+F≤s.size:=by omega
 have f2:(1:Int)+(F:Int)≤(s.size:Int):=by omega
 have f3:(0:Int)≤(1:Int)+(F:Int):=by omega
 have f1:((1:Int)+(F:Int)).toNat=1+F:=by omega
 have zm:F≤(s.extract 1 s.size).size:=by omega
 have HR:=hid (fun k (h:k<(s.extract 1 s.size).size)=>qce (s.extract 1 s.size) k h);have HS:Hid (∀ k,rdB (s.extract 1 s.size).data.toList k=rdB s.data.toList (k+1)):=hid (fun k=>by rw[suf_at,Nat.add_comm]);have HQ:Hid (∀ k,qbJ s.data.toList (k+1)=qbJ s.data.toList k*256+rdB s.data.toList (k+1)):=hid (fun k=>rfl);have zh:=hid (fun k=>slAcc_lt s.data.toList k);have zf:=hid (fun k=>qbA s.data.toList k);have z8:Hid (slE s.data.toList=if (rdB s.data.toList 0=129∧slN s.data.toList<128)∨(rdB s.data.toList 0=130∧slN s.data.toList<256) then 11 else 0):=hid (by rw[slE,if_neg n0,if_neg c1,if_neg c2,if_neg (by omega)]);have z6:Hid (((lenB (qbJ s.data.toList F)).toList==(s.extract 0 (1+F)).toList)=decide (¬ ((rdB s.data.toList 0=129∧slN s.data.toList<128)∨(rdB s.data.toList 0=130∧slN s.data.toList<256)))):=hid (by
  rw[Lib.toList_data,Lib.toList_data,pre_list,Bool.eq_iff_iff,beq_iff_eq,decide_eq_true_eq];exact zb.out (by omega))
 have HG:=hid (fun h=>sl_good s h);have za:=hid (fun h=>sl_bad s 11 h (by decide));rw[hN,hA]at HG;have CL:=hid (fun W=>lengthOf_any (qbJ s.data.toList F) W (jl3 (slAcc_lt _ F) (Nat.pow_le_pow_right (by decide) z9)));have zn:IntKind.i64.wrap (1+(F:Int))=1+(F:Int):=by rw[IntKind.wrap_i64];omega
 have z7:Hid ((s.extract 1 s.size).extract F (s.extract 1 s.size).size=s.extract (F+1) s.size):=hid (by rw[suf_suf,Nat.add_comm]);obtain⟨b0,eb⟩:∃ b0,rdB s.data.toList 0=b0:=⟨_,rfl⟩;rw[eb]at t0 wb;have EB:=hid eb;clear eb;obtain⟨r,z0⟩:∃ r,s.extract 1 s.size=r:=⟨_,rfl⟩;have ER:=hid z0;have er:s.extract 1 s.size=r:=z0;clear z0;rw[EB.out]at d1 z5;rw[ER.out]at d4 HR HS zm z7;clear hl hs n0 c0 c1 c2 h0 hF hA hN zb zj c4;go_enter func213,ntmps213;go_wp2_with fail;refine qaA 6 55 [(Told.val (.string s),[0]),
  (Told.val (.int .u8 (b0:Int)),[11]),
  (Told.val (.int .i64 (b0:Int)),[12]),
  (Told.val (.string s),[0]),
  (Told.val (.string r),[14]),
  (Told.val (.int .i64 (b0:Int)),[13])]
  (by kernel_rfl) (by kernel_rfl) rfl ?_ ?_
 ·simp only[take_succ_cons,List.take_zero,qaQ,and_true];refine And.intro ?_ (And.intro ?_ (And.intro ?_ (And.intro ?_ (And.intro ?_ (?_)))))
  ·intro a w hb h;refine qag ?_;simp[go_sem,ud0 h rfl,qaa]
  ·intro a w hb h;refine qag ?_;simp[go_sem,td0 h rfl,qaa,z2,z1,t0]
  ·intro a w hb h;refine qag ?_;simp[go_sem,td0 h rfl,qaa,wb]
  ·intro a w hb h;refine qag ?_;simp[go_sem,ud0 h rfl,qaa]
  ·intro a w hb h;refine qag ?_;simp[go_sem,td0 h rfl,qaa,z3,z4,er]
  ·intro a w hb h;refine qag ?_;simp[go_sem,td0 h rfl,qaa]
 simp only[zks,qaW,Act.put,zkt];rintro X bk _ rfl _ rfl _ rfl _ rfl _ rfl _ rfl;replace hb:=bws hb bk;clear bk t0 z2 z1 z3 z4 er;go_wp2_with fail;have zk:=hb.size;generalize zl:w.heap.size=B at *;have ze:=hid zl;clear zl;clear d1 z5 ws d4 wb d2 d3 q0
 go_loopw [5,33] (fun nv iv wr=>∃ k:Nat,k≤F∧nv=.int .i64 ((qbJ s.data.toList k:Nat):Int)∧iv=.int .i64 (k:Int)∧Below B w wr∧B≤wr.heap.size) (fun _ iv _=>F-(intOf iv).toNat)
 case atStart=>exact⟨0,by omega,rfl,rfl,hb,zk⟩
 case round=>
  clear hb zk;obtain⟨k,hk,rfl,rfl,hb,hB⟩:=hrel;by_cases hlt:k<F
  ·have hd:decide ((k:Int)<(F:Int))=true:=by simp;omega
   have hik:(k:Int)<(r.size:Int):=by omega
   have tk:=HR.out k (by omega);rw[HS.out k]at tk;have zp:=zf.out (k+1);have hq:=zh.out k;have hq1:qbJ s.data.toList k<256:=jl3 hq (Nat.pow_le_pow_right (n:=256) (i:=k) (j:=1) (by decide) (by omega));have ho:=qeo (qbJ s.data.toList k:Int) (rdB s.data.toList (k+1)) zp (by omega) (by omega);have hy:(qbJ s.data.toList k:Int)*256+(rdB s.data.toList (k+1):Int)=((qbJ s.data.toList (k+1):Nat):Int):=by rw[HQ.out k];omega
   have ws:IntKind.i64.wrap ((qbJ s.data.toList k:Int)*256)=(qbJ s.data.toList k:Int)*256:=by rw[IntKind.wrap_i64];omega
   obtain⟨y,ey⟩:∃ y,qbJ s.data.toList (k+1)=y:=⟨_,rfl⟩;rw[ey]at hy;have HY:=hid hy;have HE:=hid ey;clear hy hq ey;generalize qbJ s.data.toList k=m at *;generalize rdB s.data.toList (k+1)=bk at *;have wk:IntKind.i64.wrap (bk:Int)=(bk:Int):=by rw[IntKind.wrap_i64];omega
   go_wp2_with fail;go_roundw
   case rel=>exact⟨k+1,by omega,by rw[HE.out,← HY.out],by go_num,hb,hB⟩
   case measure=>simp[intOf];omega
  ·have hd:decide ((k:Int)<(F:Int))=false:=by simp;omega
   obtain rfl:k=F:=by omega
   clear HR HS HQ zh zf zd z9;have g1:=zm;have g2:(k:Int)≤(r.size:Int):=by omega
   have g3:(0:Int)≤(k:Int):=by omega
   have zg:Hid (lenB (qbJ s.data.toList k)=lenB (qbJ s.data.toList k)):=hid rfl;generalize lenB (qbJ s.data.toList k)=lb at *;generalize qbJ s.data.toList k=q at *;obtain⟨pf,zc⟩:∃ pf,s.extract 0 (1+k)=pf:=⟨_,rfl⟩;rw[zc]at z6;obtain⟨rr,zi⟩:∃ rr,r.extract k r.size=rr:=⟨_,rfl⟩;rw[zi]at z7;by_cases hc:(rdB s.data.toList 0=129∧slN s.data.toList<128)∨(rdB s.data.toList 0=130∧slN s.data.toList<256)
   ·have hq:=z6.out;rw[decide_eq_false (fun h=>h hc)]at hq;have HB:=hid (za.out (z8.out.trans (if_pos hc)));clear z6 za z8 HG zg hc z7;go_wp2_with fail;refine qaA 6 55 [(Told.val (.int .i64 (q:Int)),[5]),
     (Told.val (.string lb),[44]),
     (Told.val (.string s),[0]),
     (Told.val (.int .i64 (k:Int)),[7]),
     (Told.val (.int .i64 (1+(k:Int))),[47]),
     (Told.val (.string pf),[46,48])]
     (by kernel_rfl) (by kernel_rfl) rfl ?_ ?_
    ·simp only[take_succ_cons,List.take_zero,qaQ,and_true];refine And.intro ?_ (And.intro ?_ (And.intro ?_ (And.intro ?_ (And.intro ?_ (?_)))))
     ·intro a w hb h;refine qag ?_;simp[go_sem,ud0 h rfl,qaa]
     ·intro a w hb h;refine qag ?_;simp[go_sem,td0 h rfl,qaa];exact CL.out _
     ·intro a w hb h;refine qag ?_;simp[go_sem,ud0 h rfl,qaa]
     ·intro a w hb h;refine qag ?_;simp[go_sem,ud0 h rfl,qaa]
     ·intro a w hb h;refine qag ?_;simp[go_sem,td0 h rfl,qaa,zn]
     ·intro a w hb h;refine qag ?_;simp[go_sem,td0 h rfl,td1 h rfl,qaa,f1,f2,f3,f4,zc]
    simp only[zks,qaW,Act.put,zkt];rintro X bk _ rfl _ rfl _ rfl _ rfl _ rfl _ rfl;replace hb:=hb.trans (bk.mono hB);clear bk;go_wp2_with fail;go_ret3;exact⟨by rw[HB.out.1,HB.out.2.1,HB.out.2.2];rfl,by rw[ze.out];exact hb⟩
   ·have hq:=z6.out;rw[decide_eq_true hc]at hq;have HB:=hid (HG.out (z8.out.trans (if_neg hc)));have zo:=hid z7.out;clear z6 za z8 HG zg hc z7;go_wp2_with fail;refine qaA 6 55 [(Told.val (.int .i64 (q:Int)),[5]),
     (Told.val (.string lb),[44]),
     (Told.val (.string s),[0]),
     (Told.val (.int .i64 (k:Int)),[7]),
     (Told.val (.int .i64 (1+(k:Int))),[47]),
     (Told.val (.string pf),[46,48])]
     (by kernel_rfl) (by kernel_rfl) rfl ?_ ?_
    ·simp only[take_succ_cons,List.take_zero,qaQ,and_true];refine And.intro ?_ (And.intro ?_ (And.intro ?_ (And.intro ?_ (And.intro ?_ (?_)))))
     ·intro a w hb h;refine qag ?_;simp[go_sem,ud0 h rfl,qaa]
     ·intro a w hb h;refine qag ?_;simp[go_sem,td0 h rfl,qaa];exact CL.out _
     ·intro a w hb h;refine qag ?_;simp[go_sem,ud0 h rfl,qaa]
     ·intro a w hb h;refine qag ?_;simp[go_sem,ud0 h rfl,qaa]
     ·intro a w hb h;refine qag ?_;simp[go_sem,td0 h rfl,qaa,zn]
     ·intro a w hb h;refine qag ?_;simp[go_sem,td0 h rfl,td1 h rfl,qaa,f1,f2,f3,f4,zc]
    simp only[zks,qaW,Act.put,zkt];rintro X bk _ rfl _ rfl _ rfl _ rfl _ rfl _ rfl;replace hb:=hb.trans (bk.mono hB);replace hB:=jlt hB bk.size;clear bk;go_wp2_with fail;refine qaA 6 55 [(Told.val (.int .i64 (q:Int)),[5]),
     (Told.val (.string r),[6]),
     (Told.val (.int .i64 (k:Int)),[7]),
     (Told.val (.string rr),[52,53]),
     (Told.val (.int .i64 (q:Int)),[51]),
     (Told.val (.string rr),[54])]
     (by kernel_rfl) (by kernel_rfl) rfl ?_ ?_
    ·simp only[take_succ_cons,List.take_zero,qaQ,and_true];refine And.intro ?_ (And.intro ?_ (And.intro ?_ (And.intro ?_ (And.intro ?_ (?_)))))
     ·intro a w hb h;refine qag ?_;simp[go_sem,ud0 h rfl,qaa]
     ·intro a w hb h;refine qag ?_;simp[go_sem,ud0 h rfl,qaa]
     ·intro a w hb h;refine qag ?_;simp[go_sem,ud0 h rfl,qaa]
     ·intro a w hb h;refine qag ?_;simp[go_sem,td0 h rfl,td1 h rfl,qaa,g1,g2,g3,zi]
     ·intro a w hb h;refine qag ?_;simp[go_sem,td0 h rfl,qaa]
     ·intro a w hb h;refine qag ?_;simp[go_sem,td0 h rfl,qaa]
    simp only[zks,qaW,Act.put,zkt];rintro X bk _ rfl _ rfl _ rfl _ rfl _ rfl _ rfl;replace hb:=hb.trans (bk.mono hB);clear bk;go_wp2_with fail;go_ret3;exact⟨by rw[HB.out.1,HB.out.2.1,HB.out.2.2,← zo.out];rfl,by rw[ze.out];exact hb⟩
theorem mid_mid(s:ByteArray)(k j n:Nat)(h:n≤(s.extract k s.size).size):(s.extract k s.size).extract 0 n=s.extract k (k+n):=by
 apply ByteArray.ext;apply Array.toList_inj.1;rw[qdu]at h;simp only[ByteArray.data_extract,Array.toList_extract,List.extract_eq_take_drop,Nat.sub_zero,List.drop_zero,Nat.add_sub_cancel_left,List.take_take];rw[Nat.min_eq_left (by omega)]
theorem rd_parts(s:ByteArray)(h:0<s.size):qbS s=(if rdB s.data.toList 0%32=31 then 11 else if slE (s.extract 1 s.size).data.toList≠0 then slE (s.extract 1 s.size).data.toList else if (slR (s.extract 1 s.size)).size<slN (s.extract 1 s.size).data.toList then 10 else 0)∧
  (qbS s=0→slE (s.extract 1 s.size).data.toList=0∧qba s=(slR (s.extract 1 s.size)).extract 0 (slN (s.extract 1 s.size).data.toList)∧qbD s=(slR (s.extract 1 s.size)).extract (slN (s.extract 1 s.size).data.toList) (slR (s.extract 1 s.size)).size):=by
 have hd:(s.extract 1 s.size).data.toList=s.data.toList.drop 1:=qfb s 1;have hsz:(s.extract 1 s.size).size=s.size-1:=qdu s 1;have z0:(s.data.toList.drop 1).length=s.size-1:=by rw[List.length_drop,← Lib.size_eq]
 obtain⟨x,d,hx⟩:∃ x d,s.data.toList=x :: d:=by
  cases hq:s.data.toList with
  | nil=>rw[Lib.size_eq,hq]at h;exact absurd h (by decide)
  | cons x d=>exact⟨x,d,rfl⟩
 have z2:s.data.toList.drop 1=d:=by rw[hx];rfl
 obtain⟨r1,r2,r3⟩:=rd_of_sl x d;have hE:qbS s=if x.toNat%32=31 then 11 else if slE d≠0 then slE d else if d.length-slA d<slN d then 10 else 0:=by rw[qbS,hx,r3]
 have q0:rdB s.data.toList 0=x.toNat:=by rw[hx];rfl
 rw[z2]at hd z0;have hR:slE d=0→slR (s.extract 1 s.size)=s.extract (1+slA d) s.size:=fun h0=>by rw[slR,hd,if_pos h0,suf_suf]
 have z1:slE d=0→(slR (s.extract 1 s.size)).size=d.length-slA d:=fun h0=>by rw[hR h0,qdu,z0];omega
 rw[hd,q0];refine⟨?_,fun h0=>?_⟩
 ·rw[hE];by_cases c1:x.toNat%32=31
  ·rw[if_pos c1,if_pos c1]
  rw[if_neg c1,if_neg c1];by_cases c2:slE d≠0
  ·rw[if_pos c2,if_pos c2]
  ·rw[if_neg c2,if_neg c2,z1 (by simpa using c2)]
 ·have h1:=h0;rw[hE]at h1;by_cases c1:x.toNat%32=31
  ·rw[if_pos c1]at h1;cases h1
  rw[if_neg c1]at h1;by_cases c2:slE d≠0
  ·rw[if_pos c2]at h1;exact absurd h1 c2
  rw[if_neg c2]at h1;by_cases c3:d.length-slA d<slN d
  ·rw[if_pos c3]at h1;cases h1
  have e0:slE d=0:=by simpa using c2
  have hN:=r2 e0;obtain⟨_,g1,g2,_⟩:=qeq s h0;rw[hx,r1,hN]at g1 g2;refine⟨e0,?_,?_⟩
  ·rw[g1,hR e0,mid_mid s (1+slA d) 0 (slN d) (by rw[qdu];omega),Nat.add_comm (slA d) 1]
  ·rw[g2,hR e0,suf_suf,Nat.add_comm (slA d) 1]
theorem split_any(s:ByteArray)(w:World)(hs:s.size≤1000000000):Rt 180 #[.string s] w (.tuple #[.int .i64 (qc5 s),.string (qba s),.string (qbD s),.int .i64 (qbS s)]):=by
 unfold Rt;have hb:=Below.refl w.heap.size w;have hl:s.data.toList.length=s.size:=(Lib.size_eq s).symm;by_cases c0:s.size=0
 ·have q0:(s.toList==[])=true:=by rw[Lib.toList_data];have:s.data.toList=[]:=List.length_eq_zero_iff.1 (by omega);rw[this];rfl
  have HB:=hid (qcQ s 10 (by rw[rdE,if_pos (by omega)]) (by decide));clear hs hl c0;go_enter func180,ntmps180;go_wp2_with fail
  (try simp only[Exit.inBlock,Exit.then])
  exact jpr (qaY rfl _ _ _) rfl ⟨by rw[HB.out.1,HB.out.2.1,HB.out.2.2.1,HB.out.2.2.2];rfl,hb⟩
 have q0:(s.toList==[])=false:=by rw[Lib.toList_data];cases h:s.data.toList with|nil=>rw[h]at hl;exact absurd hl.symm c0|cons a r=>rfl
 have zb:0<s.size:=by omega
 have hi0:(0:Int)<(s.size:Int):=by omega
 have hi1:(1:Int)≤(s.size:Int):=by omega
 have hj1:1≤s.size:=by omega
 have t0:=qce s 0 zb;have h0:=qbA s.data.toList 0;have wb:IntKind.i64.wrap (rdB s.data.toList 0:Int)=(rdB s.data.toList 0:Int):=by rw[IntKind.wrap_i64];omega
 have CT:=hid (fun W=>isTag_any (rdB s.data.toList 0:Int) W (by omega) (by omega));rw[isT_byte _ h0]at CT;obtain⟨hE,hG⟩:=rd_parts s zb;have CS:=hid (fun W=>splitLen_any (s.extract 1 s.size) W (by rw[qdu];omega));have z0:=fun q (h:slE (s.extract 1 s.size).data.toList=q) (hq:q≠0)=>sl_bad (s.extract 1 s.size) q h hq;have z4:=fun (h:slE (s.extract 1 s.size).data.toList=0)=>sl_good (s.extract 1 s.size) h;have z5:=fun q (h:qbS s=q) (hq:q≠0)=>qcQ s q h hq;have z6:=fun (h:qbS s=0)=>qeq s h;have z7:(slR (s.extract 1 s.size)).size≤s.size:=by
  rw[slR];split
  ·rw[qdu,qdu];omega
  ·exact Nat.zero_le _
 obtain⟨b0,eb⟩:∃ b0,rdB s.data.toList 0=b0:=⟨_,rfl⟩;rw[eb]at t0 wb CT hE h0;have EB:=hid eb;clear eb hl c0;obtain⟨r,er⟩:∃ r,s.extract 1 s.size=r:=⟨_,rfl⟩;rw[er]at CS hE hG z0 z4 z7;by_cases c1:b0%32=31
 ·rw[decide_eq_true c1,Bool.not_true]at CT;have HB:=hid (z5 11 (by rw[hE,if_pos c1]) (by decide));clear hs hE hG z0 z4 z5 z6 c1 h0 z7 er CS;go_enter func180,ntmps180;go_wp2_with fail;refine (CT.out _).mono ?_;rintro e W1⟨rfl,bk⟩;replace hb:=bws hb bk;clear bk CT;go_wp2_with fail
  (try simp only[Exit.inBlock,Exit.then])
  exact jpr (qaY rfl _ _ _) rfl ⟨by rw[HB.out.1,HB.out.2.1,HB.out.2.2.1,HB.out.2.2.2];rfl,hb⟩
 rw[decide_eq_false c1,Bool.not_false]at CT;rw[if_neg c1]at hE;by_cases c2:slE r.data.toList=0
 ·obtain⟨z1,z2,z3⟩:=z4 c2;have d2:(slE r.data.toList != 0)=false:=by rw[c2];rfl
  rw[if_neg (by simp[c2])]at hE;by_cases c3:(slR r).size<slN r.data.toList
  ·have HB:=hid (z5 10 (by rw[hE,if_pos c3]) (by decide));rw[c2,z1]at CS;clear hs hE hG z0 z4 z5 z6 c1 h0 z1 z2 z3 d2 c2 z7;generalize slR r=rr at *;generalize slN r.data.toList=n at *;go_enter func180,ntmps180;go_wp2_with fail;refine (CT.out _).mono ?_;rintro e W1⟨rfl,bk⟩;replace hb:=bws hb bk;clear bk CT;go_wp2_with fail;refine (CS.out _).mono ?_;rintro e W2⟨rfl,bk⟩;replace hb:=bws hb bk;clear bk CS;go_wp2_with fail
   (try simp only[Exit.inBlock,Exit.then])
   exact jpr (qaY rfl _ _ _) rfl ⟨by rw[HB.out.1,HB.out.2.1,HB.out.2.2.1,HB.out.2.2.2];rfl,hb⟩
  ·have z8:qbS s=0:=by rw[hE,if_neg c3]
   obtain⟨_,y1,y2⟩:=hG z8;obtain⟨x0,_,_,x3⟩:=z6 z8;rw[EB.out]at x0;have HB:Hid (qc5 s=(b0:Int)∧qba s=(slR r).extract 0 (slN r.data.toList)∧qbD s=(slR r).extract (slN r.data.toList) (slR r).size∧qbS s=0):=hid ⟨x0,y1,y2,x3⟩;rw[c2,z1]at CS;clear hE hG z0 z4 z5 z6 c1 h0 z1 z2 z3 d2 c2 z8 y1 y2 x0 x3;generalize slR r=rr at *;generalize slN r.data.toList=n at *;have f2:n≤rr.size:=by omega
   have f1:(0:Int)≤(n:Int):=by omega
   have f3:(n:Int)≤(rr.size:Int):=by omega
   obtain⟨bd,z9⟩:∃ bd,rr.extract 0 n=bd:=⟨_,rfl⟩;obtain⟨rs,za⟩:∃ rs,rr.extract n rr.size=rs:=⟨_,rfl⟩;rw[z9,za]at HB;clear hs z7;go_enter func180,ntmps180;go_wp2_with fail;refine (CT.out _).mono ?_;rintro e W1⟨rfl,bk⟩;replace hb:=bws hb bk;clear bk CT;go_wp2_with fail;refine (CS.out _).mono ?_;rintro e W2⟨rfl,bk⟩;replace hb:=bws hb bk;clear bk CS;go_wp2_with fail;refine qaA 10 39 [(Told.val (.int .i64 (b0:Int)),[6]),
    (Told.val (.string rr),[8]),
    (Told.val (.int .i64 (n:Int)),[7]),
    (Told.val (.string bd),[33,34]),
    (Told.val (.string rr),[8]),
    (Told.val (.int .i64 (n:Int)),[7]),
    (Told.val (.string rs),[36,37]),
    (Told.val (.int .i64 (b0:Int)),[32]),
    (Told.val (.string bd),[35]),
    (Told.val (.string rs),[38])]
    (by kernel_rfl) (by kernel_rfl) rfl ?_ ?_
   ·simp only[take_succ_cons,List.take_zero,qaQ,and_true];refine And.intro ?_ (And.intro ?_ (And.intro ?_ (And.intro ?_ (And.intro ?_ (And.intro ?_ (And.intro ?_ (And.intro ?_ (And.intro ?_ (?_)))))))))
    ·intro a w hb h;refine qag ?_;simp[go_sem,ud0 h rfl,qaa]
    ·intro a w hb h;refine qag ?_;simp[go_sem,ud0 h rfl,qaa]
    ·intro a w hb h;refine qag ?_;simp[go_sem,ud0 h rfl,qaa]
    ·intro a w hb h;refine qag ?_;simp[go_sem,td0 h rfl,td1 h rfl,qaa,f1,f2,f3,z9]
    ·intro a w hb h;refine qag ?_;simp[go_sem,ud0 h rfl,qaa]
    ·intro a w hb h;refine qag ?_;simp[go_sem,ud0 h rfl,qaa]
    ·intro a w hb h;refine qag ?_;simp[go_sem,td0 h rfl,td1 h rfl,qaa,f1,f2,f3,za]
    ·intro a w hb h;refine qag ?_;simp[go_sem,td0 h rfl,qaa]
    ·intro a w hb h;refine qag ?_;simp[go_sem,td0 h rfl,qaa]
    ·intro a w hb h;refine qag ?_;simp[go_sem,td0 h rfl,qaa]
   simp only[zks,qaW,Act.put,zkt];rintro X bk _ rfl _ rfl _ rfl _ rfl _ rfl _ rfl _ rfl _ rfl _ rfl _ rfl;replace hb:=bws hb bk;clear bk;go_wp2_with fail
   (try simp only[Exit.inBlock,Exit.then])
   exact jpr (qaY rfl _ _ _) rfl ⟨by rw[HB.out.1,HB.out.2.1,HB.out.2.2.1,HB.out.2.2.2];rfl,hb⟩
 ·have d2:(slE r.data.toList != 0)=true:=by simp[c2]
  obtain⟨z1,z2,z3⟩:=z0 _ rfl c2;rw[if_pos c2]at hE;have HB:=hid (z5 _ hE c2);rw[z1,z2]at CS;clear hs hE hG z0 z4 z5 z6 c1 h0 z1 z2 z3 c2 z7;generalize slE r.data.toList=q at *;go_enter func180,ntmps180;go_wp2_with fail;refine (CT.out _).mono ?_;rintro e W1⟨rfl,bk⟩;replace hb:=bws hb bk;clear bk CT;go_wp2_with fail;refine (CS.out _).mono ?_;rintro e W2⟨rfl,bk⟩;replace hb:=bws hb bk;clear bk CS;go_wp2_with fail
  (try simp only[Exit.inBlock,Exit.then])
  exact jpr (qaY rfl _ _ _) rfl ⟨by rw[HB.out.1,HB.out.2.1,HB.out.2.2.1,HB.out.2.2.2];rfl,hb⟩
theorem read_any(s:ByteArray)(w:World)(hs:s.size≤1000000000):Rt 122 #[.string s] w (.tuple #[.int .i64 (qc5 s),.string (qba s),.string (qbD s),.int .i64 (qbS s)]):=by
 unfold Rt;have CS:=hid (fun W=>split_any s W hs);have z0:(qba s).size≤s.size∧(qbD s).size≤s.size:=by
  by_cases h:qbS s=0
  ·obtain⟨h1,h2⟩:=rd_sizes s h;exact⟨h1,jll h2⟩
  ·obtain⟨_,h1,h2,_⟩:=qcQ s _ rfl h;rw[h1,h2];exact⟨Nat.zero_le _,Nat.zero_le _⟩
 have C1:=hid (fun W=>qek (qba s) W (by omega));have C2:=hid (fun W=>qek (qbD s) W (by omega));have hb:=Below.refl w.heap.size w;clear hs z0;generalize qba s=bd at *;generalize qbD s=rs at *;generalize qc5 s=tg at *;generalize qbS s=q at *;go_enter func122,ntmps122;go_wp2_with fail;refine (CS.out _).mono ?_;rintro e W1⟨rfl,bk⟩;replace hb:=bws hb bk;clear bk CS;go_wp2_with fail;refine (C1.out _).mono ?_;rintro e W2⟨rfl,bk⟩;replace hb:=bws hb bk;clear bk C1;go_wp2_with fail;refine (C2.out _).mono ?_;rintro e W3⟨rfl,bk⟩;replace hb:=bws hb bk;clear bk C2;go_wp2_with fail
 (try simp only[Exit.inBlock,Exit.then])
 exact jpr (qaY rfl _ _ _) rfl ⟨rfl,hb⟩
def hnB(s:ByteArray):Bool:=if s.size<2 then false else if rdB s.data.toList 1<128 then decide (rdB s.data.toList 0=0) else decide (rdB s.data.toList 0=255)
theorem hn_iff(s:ByteArray):hnB s=true↔qdD s.data.toList:=by
 have hl:s.data.toList.length=s.size:=(Lib.size_eq s).symm;rw[hnB,qdD];by_cases c:s.size<2
 ·rw[if_pos c];exact⟨fun h=>(by cases h),fun h=>by omega⟩
 rw[if_neg c];by_cases d:rdB s.data.toList 1<128
 ·rw[if_pos d,decide_eq_true_eq];exact⟨fun h=>by omega,fun h=>by omega⟩
 ·rw[if_neg d,decide_eq_true_eq];exact⟨fun h=>by omega,fun h=>by omega⟩
theorem qf8(s:ByteArray)(w:World):Rt 108 #[.string s] w (.bool (hnB s)):=by
 unfold Rt;by_cases c:s.size<2
 ·have d1:decide ((s.size:Int)<2)=true:=by simp;omega
  have HV:Hid (hnB s=false):=hid (if_pos c);clear c;go_enter func108,ntmps108;go_wp2_with fail;go_ret;exact⟨by rw[HV.out];rfl,Below.refl _ _⟩
 have d1:decide ((s.size:Int)<2)=false:=by simp;omega
 have t0:=qce s 0 (by omega);have t1:=qce s 1 (by omega);have i0:(0:Int)<(s.size:Int):=by omega
 have i1:(1:Int)<(s.size:Int):=by omega
 have j0:0<s.size:=by omega
 have j1:1<s.size:=by omega
 by_cases d:rdB s.data.toList 1<128
 ·have d2:decide ((rdB s.data.toList 1:Int)<128)=true:=by simp;omega
  have e0:((rdB s.data.toList 0:Int)==0)=decide (rdB s.data.toList 0=0):=by rw[Bool.eq_iff_iff,beq_iff_eq,decide_eq_true_eq];omega
  have HV:Hid (hnB s=decide (rdB s.data.toList 0=0)):=hid (by rw[hnB,if_neg c,if_pos d]);clear c d;generalize rdB s.data.toList 1=b1 at *;generalize decide (rdB s.data.toList 0=0)=q at *;generalize rdB s.data.toList 0=b0 at *;go_enter func108,ntmps108;go_wp2_with fail;go_ret;exact⟨by rw[HV.out];rfl,Below.refl _ _⟩
 ·have d2:decide ((rdB s.data.toList 1:Int)<128)=false:=by simp;omega
  have e0:((rdB s.data.toList 0:Int)==255)=decide (rdB s.data.toList 0=255):=by rw[Bool.eq_iff_iff,beq_iff_eq,decide_eq_true_eq];omega
  have HV:Hid (hnB s=decide (rdB s.data.toList 0=255)):=hid (by rw[hnB,if_neg c,if_neg d]);clear c d;generalize rdB s.data.toList 1=b1 at *;generalize decide (rdB s.data.toList 0=255)=q at *;generalize rdB s.data.toList 0=b0 at *;go_enter func108,ntmps108;go_wp2_with fail;go_ret;exact⟨by rw[HV.out];rfl,Below.refl _ _⟩
theorem riN_one(l:List UInt8):riN l 1=(((rdB l 0:Nat):Int)+128)%256-128:=by
 have:=qbA l 0;rw[qe9,riN_zero];split<;>omega
theorem readInt_any(s:ByteArray)(w:World)(hs:s.size≤1000000000):Rt 69 #[.string s] w (.tuple #[.int .i64 (riV s),.int .i64 (qd1 s)]):=by
 unfold Rt;have hl:s.data.toList.length=s.size:=(Lib.size_eq s).symm;have hb:=Below.refl w.heap.size w;by_cases c0:s.size=0
 ·have q0:(s.toList==[])=true:=by rw[Lib.toList_data];have:s.data.toList=[]:=List.length_eq_zero_iff.1 (by omega);rw[this];rfl
  have HB:=hid (qeI s 10 (by rw[riE,if_pos (by omega)]) (by decide));clear hl hs;go_enter func69,ntmps69;go_wp2_with fail;go_ret2;exact⟨by rw[HB.out.1,HB.out.2];rfl,hb⟩
 have q0:(s.toList==[])=false:=by rw[Lib.toList_data];cases h:s.data.toList with|nil=>rw[h]at hl;exact absurd hl.symm c0|cons a r=>rfl
 have n0:¬ s.data.toList.length=0:=by omega
 have CN:=hid (fun W=>qf8 s W);by_cases c1:hnB s=true
 ·have HB:=hid (qeI s 11 (by rw[riE,if_neg n0,if_pos ((hn_iff s).1 c1)]) (by decide));rw[c1]at CN;clear hl hs n0 c0 c1;go_enter func69,ntmps69;go_wp2_with fail;refine (CN.out _).mono ?_;rintro e W1⟨rfl,bk⟩;replace hb:=bws hb bk;clear bk CN;go_wp2_with fail;go_ret2;exact⟨by rw[HB.out.1,HB.out.2];rfl,hb⟩
 have nb:¬ qdD s.data.toList:=fun h=>c1 ((hn_iff s).2 h);have z0:hnB s=false:=by simpa using c1
 rw[z0]at CN;by_cases c2:8<s.size
 ·have HB:=hid (qeI s 13 (by rw[riE,if_neg n0,if_neg nb,if_pos (by omega)]) (by decide));have d8:decide ((8:Int)<(s.size:Int))=true:=by simp;omega
  clear hl hs n0 c0 c1 nb z0 c2;go_enter func69,ntmps69;go_wp2_with fail;refine (CN.out _).mono ?_;rintro e W1⟨rfl,bk⟩;replace hb:=bws hb bk;clear bk CN;go_wp2_with fail;go_ret2;exact⟨by rw[HB.out.1,HB.out.2];rfl,hb⟩
 have d8:decide ((8:Int)<(s.size:Int))=false:=by simp;omega
 have z3:0<s.size:=by omega
 have z8:(0:Int)<(s.size:Int):=by omega
 have t0:=qce s 0 z3;have h0:=qbA s.data.toList 0;have HV:Hid (riV s=riN s.data.toList s.size∧qd1 s=0):=hid (by have h:riE s.data.toList=0:=(by rw[riE,if_neg n0,if_neg nb,if_neg (by omega)]);exact⟨by rw[riV,if_pos h,hl],h⟩);have z4:=riN_one s.data.toList;obtain⟨f0,f1⟩:=riN_first s.data.toList;have w8:IntKind.i8.wrap (rdB s.data.toList 0:Int)=riN s.data.toList 1:=by rw[z4];simp[IntKind.wrap,IntKind.signed,IntKind.bits];split<;>omega
 have z5:IntKind.i64.wrap (riN s.data.toList 1)=riN s.data.toList 1:=by rw[IntKind.wrap_i64];omega
 have HR:=hid (fun k (h:k<s.size)=>qce s k h);have HS:=hid (fun k=>qdR s.data.toList k);have HL:=hid (fun k=>qbA s.data.toList k);have HN:Hid (∀ k,riN s.data.toList (k+1)=riN s.data.toList k*256+(rdB s.data.toList k:Int)):=hid (fun k=>rfl);have hs8:s.size≤8:=by omega
 clear hl hs n0 nb c0 c1 z0 c2 h0 z4 f0 f1;obtain⟨b0,eb⟩:∃ b0,rdB s.data.toList 0=b0:=⟨_,rfl⟩;rw[eb]at t0 w8;clear eb;obtain⟨r1,z1⟩:∃ r1,riN s.data.toList 1=r1:=⟨_,rfl⟩;rw[z1]at w8 z5;have ER:=hid z1;clear z1;go_enter func69,ntmps69;go_wp2_with fail;refine (CN.out _).mono ?_;rintro e W1⟨rfl,bk⟩;replace hb:=bws hb bk;clear bk CN;go_wp2_with fail;generalize z2:w.heap.size=B at *;have z6:=hid z2;clear z2
 go_loopw [4,5] (fun nv iv wr=>∃ k:Nat,1≤k∧k≤s.size∧nv=.int .i64 (riN s.data.toList k)∧iv=.int .i64 (k:Int)∧Below B w wr) (fun _ iv _=>s.size-(intOf iv).toNat)
 case atStart=>exact⟨1,by omega,by omega,by rw[ER.out],rfl,hb⟩
 case round=>
  clear hb w8 z5 t0 z3 z8;obtain⟨k,hk1,hk,rfl,rfl,hb⟩:=hrel;by_cases z9:k<s.size
  ·have hd:decide ((k:Int)<(s.size:Int))=true:=by simp;omega
   have hik:(k:Int)<(s.size:Int):=by omega
   have tk:=HR.out k z9;have z7:=HL.out k;obtain⟨m0,m1⟩:=HS.out k (by omega);have ho:=qeo (riN s.data.toList k) (rdB s.data.toList k) z7 m0 m1;rw[← HN.out k]at ho;obtain⟨y,hy⟩:∃ y,riN s.data.toList (k+1)=y:=⟨_,rfl⟩;rw[hy]at ho;have HY:=hid hy;clear hy;have ws:IntKind.i64.wrap (riN s.data.toList k*256)=riN s.data.toList k*256:=by rw[IntKind.wrap_i64];omega
   generalize riN s.data.toList k=m at *;generalize rdB s.data.toList k=bk at *;have wk:IntKind.i64.wrap (bk:Int)=(bk:Int):=by rw[IntKind.wrap_i64];omega
   go_wp2_with fail;go_roundw
   case rel=>exact⟨k+1,by omega,by omega,by rw[HY.out],by go_num,hb⟩
   case measure=>simp[intOf];omega
  ·have hd:decide ((k:Int)<(s.size:Int))=false:=by simp;omega
   obtain rfl:k=s.size:=by omega
   obtain⟨y,hy⟩:∃ y,riN s.data.toList s.size=y:=⟨_,rfl⟩;rw[hy]at HV;have HY:=hid hy;clear hy;go_wp2_with fail;go_ret2;exact⟨by rw[HV.out.1,HV.out.2,← HY.out];rfl,by rw[z6.out];exact hb⟩
def outI(n:Int)(k:Nat):List UInt8:=List.replicate (8-k) 0++(b8L n).drop (8-k)
theorem outI_length(n:Int)(k:Nat)(h:k≤8):(outI n k).length=8:=by simp[outI,qbG]<;>omega
theorem outI_set(n:Int)(k:Nat)(h:k<8):(outI n k).set (7-k) (byt8 n (7-k))=outI n (k+1):=by
 have e:List.replicate (8-k) (0:UInt8)=List.replicate (8-(k+1)) 0++[0]:=by rw[show 8-k=(8-(k+1))+1 by omega,List.replicate_succ']
 have hd:(b8L n).drop (8-(k+1))=byt8 n (7-k)::(b8L n).drop (8-k):=by
  have hj:8-(k+1)<(b8L n).length:=by rw[qbG];omega
  rw[List.drop_eq_getElem_cons hj,show 8-(k+1)+1=8-k by omega];congr 1;simp[b8L]<;>congr 1
 rw[outI,e,outI,hd,List.append_assoc,List.set_append,if_neg (by simp)];rw[List.length_replicate,show 7-k-(8-(k+1))=0 by omega]
 rfl
theorem outI_full(n:Int):outI n 8=b8L n:=by simp[outI]
theorem outI_none(n:Int):outI n 0=List.replicate 8 0:=by simp[outI,qbG]
def bzeros8:Array Value:=qa0 (List.replicate 8 0)
theorem infoB8:(Tryz.prog.info? 167).map (fun i=>(i.zero,i.size))=some (some (.agg bzeros8),8):=by kernel_rfl
theorem bigEndian_any(n:Int)(w:World)(h0:-9223372036854775808≤n)(h1:n≤9223372036854775807):Rt 107 #[.int .i64 n] w (.string ⟨(b8L n).toArray⟩):=by
 unfold Rt;obtain⟨hz,hi⟩:=jzi infoB8;have z4:=hid (qad w (.cells bzeros8 167));have z6:=qaf w (.cells bzeros8 167);have HZ:Hid (bzeros8=qa0 (outI n 0)):=hid (by rw[outI_none];rfl);clear hi;go_enter func107,ntmps107;go_wp2_with fail;clear hz;generalize (w.alloc _)=W0 at *;generalize z5:w.heap.size=B at *;have z8:=hid z5;clear z5
 go_loopw [5] (fun iv wr=>∃ k:Nat,k≤8∧iv=.int .i64 (k:Int)∧wr.heap[B]?=some (.cells (qa0 (outI n k)) 167)∧Below B w wr) (fun iv _=>8-(intOf iv).toNat)
 case atStart=>exact⟨0,by omega,rfl,by rw[← HZ.out];exact z4.out,z6⟩
 case round=>
  clear z4 z6 HZ;obtain⟨k,hk,rfl,ho,hb⟩:=hrel;have HO:=hid ho;clear ho;by_cases zb:k<8
  ·have hd:decide ((k:Int)<8)=true:=by simp;omega
   obtain⟨i,z3⟩:∃ i,i=7-k:=⟨_,rfl⟩;have hi7:(7:Int)-(k:Int)=(i:Int):=by omega
   have hs:=outI_set n k zb;have z1:=byt8_val n (7-k);rw[← z3]at hs z1;have z7:(2:Int)^(8*k)=256^(7-i):=by
    have:=pow_shift (7-k) (by omega);rw[← z3,show 8*(7-i)=8*k by omega]at this;exact this
   rw[← z7]at z1;generalize byt8 n i=b8 at *;have r1:=bheap_set HO.out i b8;rw[hs]at r1;have co:=bcell_at HO.out i (by rw[outI_length _ _ (by omega)];omega);have fo:=jfr wr B i _ _ HO.out;have hi8:i<8:=by omega
   have hi8i:(i:Int)<8:=by omega
   have wi:IntKind.i64.wrap (i:Int)=(i:Int):=by rw[IntKind.wrap_i64];omega
   have hs0:(0:Int)≤8*(k:Int):=by omega
   have hw8:IntKind.i64.wrap (8*(k:Int))=8*(k:Int):=by rw[IntKind.wrap_i64];omega
   have hT:((8:Int)*(k:Int)).toNat=8*k:=by omega
   have z9:=hid r1;have za:Below B w (wr.setCell ⟨B,i,none⟩ (.int .u8 (b8.toNat:Int))):=hb.setCell (by simp) _;have hv:=z1.symm;clear r1 hb hs z3 z7 z1;go_wp2_with fail;go_roundw
   case rel=>exact⟨k+1,by omega,by go_num,z9.out,za⟩
   case measure=>simp[intOf];omega
  ·have hd:decide ((k:Int)<8)=false:=by simp;omega
   obtain rfl:k=8:=by omega
   rw[outI_full]at HO;have hl:=qbG n;have hc:=qbf wr B 8 (b8L n) (qb0 HO.out);have sl:=qdg 167 8 B (by kernel_rfl) (by kernel_rfl) (by kernel_rfl) (by omega);rw[hl]at hc;generalize z0:b8L n=row at *;have z2:=hid z0;clear z0;go_wp2_with fail;go_ret;exact⟨by rw[z2.out];rfl,by rw[z8.out];exact hb⟩
theorem hn_true(c:ByteArray)(h:hnB c=true):qbO (c.extract 1 c.size).data.toList=qbO c.data.toList∧1≤c.size:=by
 have hb:=(hn_iff c).1 h;rw[qfb]
 match hc:c.data.toList,hb with
 | [],hb=>exact absurd hb.1 (by simp)
 | [_],hb=>exact absurd hb.1 (by simp)
 | x :: y :: r,hb=>
  refine⟨?_,by rw[Lib.size_eq,hc];simp⟩;rw[qfv,if_pos ((riBad_two x y r).1 hb)]
  rfl
theorem hn_false(c:ByteArray)(h:hnB c=false):qbO c.data.toList=c.data.toList:=by
 have hb:¬ qdD c.data.toList:=fun hh=>by rw[(hn_iff c).2 hh]at h;cases h
 match hc:c.data.toList,hb with
 | [],hb=>rfl
 | [_],hb=>rfl
 | x :: y :: r,hb=>rw[qfv,if_neg (fun hh=>hb ((riBad_two x y r).2 hh))]
theorem int_any(n:Int)(w:World)(h0:-9223372036854775808≤n)(h1:n≤9223372036854775807):Rt 55 #[.int .i64 n] w (.string (wrX 2 (intB n))):=by
 unfold Rt;have CB:=hid (fun W=>bigEndian_any n W h0 h1);have HW:Hid (wrX 2 (intB n)=⟨(wrL ((2:Nat):Int) (intB n).size).toArray⟩++intB n):=hid (by rw[wrX,if_pos (int_wr n)];rfl);have z3:=qga n;have CE:=hid (fun W=>qgm 2 (intB n) W (by omega) (by omega));have HL:Hid ((⟨(b8L n).toArray⟩:ByteArray).data.toList=b8L n):=hid rfl;have z4:(⟨(b8L n).toArray⟩:ByteArray).size=8:=qbG n;have HI:Hid (∀ c:ByteArray,hnB c=false→qbO c.data.toList=qbO (b8L n)→c=intB n):=hid (fun c hc ht=>by
  rw[intB,← ht,hn_false c hc])
 have hb:=Below.refl w.heap.size w;rw[HW.out];generalize (⟨(wrL ((2:Nat):Int) (intB n).size).toArray⟩++intB n:ByteArray)=o at *;generalize intB n=ib at *;generalize (⟨(b8L n).toArray⟩:ByteArray)=sb at *;generalize b8L n=L at *;clear h0 h1 HW z3;go_enter func55,ntmps55;go_wp2_with fail;refine (CB.out _).mono ?_;rintro e W1⟨rfl,bk⟩;replace hb:=bws hb bk;clear bk CB;go_wp2_with fail;have hB:=hb.size;generalize z0:w.heap.size=B at *;have z1:=hid z0;clear z0
 go_loopw [3] (fun v wr=>∃ c:ByteArray,v=.string c∧Hid (qbO c.data.toList=qbO L)∧Below B w wr∧B≤wr.heap.size) (fun v _=>(match v with|.string c=>c.size|_=>0))
 case atStart=>exact⟨sb,rfl,hid (by rw[HL.out]),hb,hB⟩
 case round=>
  clear hb hB z4 HL;obtain⟨c,rfl,HT,hb,hB⟩:=hrel;have CN:=hid (fun W=>qf8 c W)
  cases hq:hnB c with
  | true=>
   obtain⟨ht,h1⟩:=hn_true c hq;rw[hq]at CN;have i1:(1:Int)≤(c.size:Int):=by omega
   have z2:=hid (ht.trans HT.out);have HM:Hid ((c.extract 1 c.size).size<c.size):=hid (by rw[qdu];omega);clear ht hq HT;go_wp2_with fail;refine (CN.out _).mono ?_;rintro e W2⟨rfl,bk⟩;replace hb:=hb.trans (bk.mono hB);replace hB:=jlt hB bk.size;clear bk CN;go_wp2_with fail;go_roundw
   case rel=>exact⟨_,rfl,z2,hb,hB⟩
   case measure=>exact HM.out
  | false=>
   obtain rfl:=HI.out c hq HT.out;rw[hq]at CN;clear HT hq HI;go_wp2_with fail;refine (CN.out _).mono ?_;rintro e W2⟨rfl,bk⟩;replace hb:=hb.trans (bk.mono hB);replace hB:=jlt hB bk.size;clear bk CN;go_wp2_with fail;refine (CE.out _).mono ?_;rintro e W3⟨rfl,bk⟩;replace hb:=hb.trans (bk.mono hB);clear bk CE;go_wp2_with fail;go_ret;exact⟨rfl,by rw[z1.out];exact hb⟩
def rvAt(l:List UInt8)(k m:Nat):UInt8:=if m<k∨l.length≤m+k then l.getD (l.length-1-m) 0 else l.getD m 0
def rvL(l:List UInt8)(k:Nat):List UInt8:=(List.range l.length).map (rvAt l k)
theorem qcF(l:List UInt8)(k:Nat):(rvL l k).length=l.length:=by simp[rvL]
theorem rvL_at(l:List UInt8)(k m:Nat)(h:m<l.length):(rvL l k).getD m 0=rvAt l k m:=by
 rw[rvL,List.getD_eq_getElem?_getD,List.getElem?_map,List.getElem?_range h];rfl
theorem qfV(a b:List UInt8)(hl:a.length=b.length)(h:∀ m,m<a.length→a.getD m 0=b.getD m 0):a=b:=by
 apply List.ext_getElem hl;intro m h1 h2;have:=h m h1;rwa[List.getD_eq_getElem?_getD,List.getD_eq_getElem?_getD,List.getElem?_eq_getElem h1,List.getElem?_eq_getElem h2]at this
theorem rvL_zero(l:List UInt8):rvL l 0=l:=by
 refine qfV _ _ (qcF l 0) fun m h=>?_;rw[qcF]at h;rw[rvL_at l 0 m h,rvAt,if_neg (by omega)]
theorem getD_set(l:List UInt8)(i m:Nat)(x:UInt8)(h:m<l.length):(l.set i x).getD m 0=if i=m then x else l.getD m 0:=by
 rw[List.getD_eq_getElem?_getD,List.getElem?_set,List.getD_eq_getElem?_getD];by_cases e:i=m
 ·subst e;rw[if_pos rfl,if_pos rfl,if_pos h];rfl
 ·rw[if_neg e,if_neg e]
theorem rvL_step(l:List UInt8)(k:Nat)(h:k<l.length-1-k):((rvL l k).set k ((rvL l k).getD (l.length-1-k) 0)).set (l.length-1-k) ((rvL l k).getD k 0)=rvL l (k+1):=by
 refine qfV _ _ (by simp[qcF]) fun m hm=>?_;have z0:m<l.length:=by simpa[qcF]using hm
 rw[getD_set _ _ _ _ (by simpa[qcF]using z0),getD_set _ _ _ _ (by rw[qcF];exact z0),rvL_at l k _ (by omega),rvL_at l k _ (by omega),rvL_at l k _ z0,rvL_at l (k+1) _ z0,rvAt,rvAt,rvAt,rvAt];rw[if_neg (show ¬ (k<k∨l.length≤k+k) by omega),if_neg (show ¬ (l.length-1-k<k∨l.length≤l.length-1-k+k) by omega)];by_cases e1:l.length-1-k=m
 ·rw[if_pos e1,if_pos (by omega),show l.length-1-m=k by omega]
 rw[if_neg e1];by_cases e2:k=m
 ·rw[if_pos e2,if_pos (by omega),e2]
 rw[if_neg e2];by_cases e3:m<k∨l.length≤m+k
 ·rw[if_pos e3,if_pos (by omega)]
 ·rw[if_neg e3,if_neg (by omega)]
theorem rvL_end(l:List UInt8)(k:Nat)(h:¬ k+k+1<l.length):rvL l k=l.reverse:=by
 refine qfV _ _ (by simp[qcF]) fun m hm=>?_;rw[qcF]at hm;rw[rvL_at l k m hm,rvAt,List.getD_eq_getElem?_getD (l:=l.reverse),List.getElem?_reverse hm,← List.getD_eq_getElem?_getD];by_cases e:m<k∨l.length≤m+k
 ·rw[if_pos e]
 ·rw[if_neg e,show l.length-1-m=m by omega]
theorem qgE(X:World):Below X.heap.size X X.drew:=⟨rfl,rfl,rfl,jlr _,fun k hk=>rfl⟩
theorem reverse_any(g z1 n B:Nat)(l:List UInt8)(w:World)(hl:l.length=n)(hn:n≤1000000)(ho:OwnS w B g z1 (Lib.byteCells l))(hg:g<w.heap.size):Calls Tryz.prog 229 #[.slice (some ⟨g,0,none⟩) n z1] w fun e w'=>e=.returned (.tuple #[])∧OwnS w' B g z1 (Lib.byteCells l.reverse)∧Below g w w'∧g<w'.heap.size:=by
 have z6:=hid ho;have z8:=Below.refl g w;have HL:=hid hl;have zk:IntKind.i64.wrap ((n:Int)-1)=(n:Int)-1:=by rw[IntKind.wrap_i64];omega
 have zg:=jll hg;clear ho hl;go_enter func229,ntmps229;go_wp2_with fail
 go_loopw [2,3] (fun iv jv wr=>∃ k:Nat,2*k≤n+1∧iv=.int .i64 (k:Int)∧jv=.int .i64 ((n:Int)-1-(k:Int))∧OwnS wr B g z1 (Lib.byteCells (rvL l k))∧Below g w wr∧g<wr.heap.size) (fun iv _ _=>n-(intOf iv).toNat)
 case atStart=>exact⟨0,by omega,rfl,by simp,by rw[rvL_zero];exact z6.out,z8,hg⟩
 case round=>
  clear z8 z6 zk hg zg;obtain⟨k,hk,rfl,rfl,z0,hb,z4⟩:=hrel;have HO:=hid z0;clear z0;by_cases zc:k+k+1<n
  ·obtain⟨j,hj⟩:∃ j,j=n-1-k:=⟨_,rfl⟩;have zb:(n:Int)-1-(k:Int)=(j:Int):=by omega
   have hd:decide ((k:Int)<(j:Int))=true:=by simp;omega
   have hkj:k<j:=by omega
   have zi:j<n:=by omega
   have zj:k<n:=by omega
   have hkni:(k:Int)<(n:Int):=by omega
   have hjni:(j:Int)<(n:Int):=by omega
   have hL:(rvL l k).length=n:=by rw[qcF];exact HL.out
   obtain⟨cx,fx⟩:=qdp HO.out k (by omega);obtain⟨cy,fy⟩:=qdp HO.out j (by omega);have HS:=hid (rvL_step l k (by rw[HL.out];omega));rw[HL.out,← hj]at HS;have wj:IntKind.i64.wrap ((j:Int)-1)=(j:Int)-1:=by rw[IntKind.wrap_i64];omega
   have za:(n:Int)-1-((k+1:Nat):Int)=(j:Int)-1:=by omega
   have zd:=hid za;have z5:=hid hL;rw[zb];generalize (rvL l k).getD k 0=x at *;generalize (rvL l k).getD j 0=y at *;clear hj zb hk za hL;go_wp2_with fail;have z7:=hid (qdQ HO.out k (by rw[z5.out];exact zj) y);have z2:=hid (qdQ z7.out j (by rw[List.length_set,z5.out];exact zi) x);rw[HS.out]at z2;have z9:Below g w ((wr.setCell ⟨g,k,none⟩ (.int .u8 (y.toNat:Int))).setCell ⟨g,j,none⟩ (.int .u8 (x.toNat:Int))):=(hb.setCell (by simp) _).setCell (by simp) _;have z3:g<((wr.setCell ⟨g,k,none⟩ (.int .u8 (y.toNat:Int))).setCell ⟨g,j,none⟩ (.int .u8 (x.toNat:Int))).heap.size:=by simp[World.setCell];exact z4
   have ze:=hid (z2.out.stays (qgE _));have zf:=z9.trans ((qgE _).mono (jll z3));have zh:=jl3 z3 (qgE ((wr.setCell ⟨g,k,none⟩ (.int .u8 (y.toNat:Int))).setCell ⟨g,j,none⟩ (.int .u8 (x.toNat:Int)))).size
   go_region
   generalize ((wr.setCell _ _).setCell _ _).drew=V at *;clear cx fx cy fy HO hb z4 z7 z2 HS z9 z3;go_wp2_with fail;go_roundw
   case rel=>exact⟨k+1,by omega,by go_num,by rw[zd.out],ze.out,zf,zh⟩
   case measure=>simp[intOf];omega
  ·have hd:decide ((k:Int)<(n:Int)-1-(k:Int))=false:=by simp;omega
   have he:=rvL_end l k (by rw[HL.out];exact zc);rw[he]at HO;have z0:=HO.out;clear HO he hk zc;go_wp2_with fail
   go_end0
   exact⟨rfl,z0,hb,z4⟩
theorem and127(n:Nat)(hn:n<9223372036854775808):bits .and .i64 (n:Int) 127=(n:Int)%128:=by
 have e1:(BitVec.ofInt 64 (n:Int)).toNat=n:=by rw[BitVec.toNat_ofInt];omega
 have e2:(BitVec.ofInt 64 127).toNat=127:=by decide
 have h:=Nat.and_two_pow_sub_one_eq_mod n 7;show IntKind.i64.wrap (((BitVec.ofInt 64 (n:Int) &&& BitVec.ofInt 64 127).toNat:Nat):Int)=_;rw[BitVec.toNat_and,e1,e2,show (127:Nat)=2^7-1 from rfl,h,IntKind.wrap_i64];omega
theorem or128f:∀ b:Fin 128,bits .or .u8 ((b.val:Nat):Int) 128=128+((b.val:Nat):Int):=by decide +kernel
theorem or128(b:Int)(h0:0≤b)(h1:b<128):bits .or .u8 b 128=128+b:=by
 have:=or128f ⟨b.toNat,by omega⟩;simp only at this;rwa[Int.toNat_of_nonneg h0]at this
theorem groupsOf_any(n:Nat)(w:World)(hn:n<9223372036854775808):Rt 212 #[.int .i64 (n:Int)] w (.string ⟨(grL n).toArray⟩):=by
 unfold Rt;obtain⟨i0,hi,zq,zr,zs⟩:=info_parts qca;have hb:=Below.refl w.heap.size w;have e8:(128:Nat)^9=9223372036854775808:=by decide
 have ha:=and127 n hn;have wt:IntKind.u8.wrap ((n:Int)%128)=(n:Int)%128:=by rw[IntKind.wrap_u8];omega
 have z9:=hid (show (w.alloc (.cells #[.int .u8 ((n:Int)%128)] 5)).ownsRow w.heap.size 5 1 (.slice (some ⟨w.heap.size,0,none⟩) 1 1) 1 [.int .u8 ((n:Int)%128)] from
  ⟨rfl,.inr ⟨w.heap.size,1,_,rfl,jlr _,qad w _,by omega,by unfold maxLen;omega,rfl,rfl⟩⟩)
 have z6:Below w.heap.size w (w.alloc (.cells #[.int .u8 ((n:Int)%128)] 5)):=hb.alloc hb.size _;have z4:w.heap.size≤(w.alloc (.cells #[.int .u8 ((n:Int)%128)] 5)).heap.size:=z6.size;have za:Hid (Own (w.alloc (.cells #[.int .u8 ((n:Int)%128)] 5)) w.heap.size (.slice (some ⟨w.heap.size,0,none⟩) 1 1) (Lib.byteCells [UInt8.ofNat (n%128)])):=hid (by
  rw[byteC _ (by omega),show ((n%128:Nat):Int)=(n:Int)%128 by simp];exact (qdq z9.out).1)
 have HG:Hid (hiL 9 (n/128)++[UInt8.ofNat (n%128)]=grL n):=hid rfl;clear z9;go_enter func212,ntmps212;go_wp2_with fail;generalize (w.alloc _)=W0 at *;generalize zd:w.heap.size=B at *;have zg:=hid zd;clear zd;obtain⟨G,z5⟩:∃ G,grL n=G:=⟨_,rfl⟩;rw[z5]at HG;have zi:=hid z5;clear z5
 go_loopw [0,3] (fun nv ov wr=>∃ (m f:Nat) (ao:Option Addr) (cp k:Nat) (l:List UInt8),m≤n∧l.length=k∧k+f≤10∧m<128^f∧Hid (hiL f m++l.reverse=G)∧nv=.int .i64 (m:Int)∧ov=.slice ao k cp∧Own wr B (.slice ao k cp) (Lib.byteCells l)∧1≤k∧Below B w wr∧B≤wr.heap.size) (fun nv _ _=>(intOf nv).toNat)
 case atStart=>exact⟨n/128,9,_,1,1,[UInt8.ofNat (n%128)],by omega,rfl,by omega,by omega,HG,by simp,rfl,za.out,by omega,z6,z4⟩
 case round=>
  clear hb z6 za HG z4 ha wt;obtain⟨m,f,ao,cp,k,l,hmn,hl,hkf,hm,HG,rfl,rfl,z2,hk1,hb,hB⟩:=hrel;have HO:=hid z2;clear z2;have HL:=hid (show (Lib.byteCells l).length=k by rw[Lib.byteCells_length];exact hl);by_cases h0:0<m
  ·have hd:decide ((0:Int)<(m:Int))=true:=by simp;omega
   obtain⟨f',rfl,e1,e2⟩:=group_step m h0 f hm;have ha:=and127 m (by omega);have zo:(0:Int)≤(m:Int)%128:=by omega
   have zp:(m:Int)%128<128:=by omega
   have wt:IntKind.u8.wrap ((m:Int)%128)=(m:Int)%128:=by rw[IntKind.wrap_u8];omega
   have hor:=or128 _ zo zp;have zh:Hid (hiL f' (m/128)++(l++[UInt8.ofNat (128+m%128)]).reverse=G):=hid (by rw[← HG.out,e1,List.append_assoc,List.reverse_append];rfl);have HC:Hid (Lib.byteCells [UInt8.ofNat (128+m%128)]=[.int .u8 (128+(m:Int)%128)]):=hid (by rw[byteC _ (by omega)];simp);clear e1 HG;generalize UInt8.ofNat (128+m%128)=bb at *;go_wp2_with (at_builtin;refine qaB rfl (.tmp 14) (.tmp 19) 41 rfl B 5 i0 (.int .u8 0) 1 underlying41 hi zq zr zs rfl ao k cp _ rfl (HO.out.alloc _) HL.out ⟨_,0,none⟩ 1 1 [.int .u8 _] rfl rfl (cell_one_new _ _ _) ?p2 ?p3 ?p4 ?p5 ?_)
   case p2=>intro u hu;simp at hu;subst hu;rfl
   case p3=>omega
   case p4=>omega
   case p5=>simp;omega
   intro zb zc W7 z1 z0;have ze:Below B wr W7:=qaV ((Below.refl B wr).alloc hB _) (by simp;omega) (HO.out.alloc _) z0;have zl:B≤W7.heap.size:=by have:=z0.size;simp at this;omega
   have z3:Own W7 B (.slice zb (k+1) zc) (Lib.byteCells (l++[bb])):=by
    rw[Lib.byteCells_append,HC.out];exact z1
   have zn:=hb.trans ze;clear z1 z0 HO HC HL hb ze;go_wp2_with fail;go_roundw
   case rel=>exact⟨m/128,f',zb,zc,k+1,_,by omega,by simp;omega,by omega,e2,zh,by go_num,rfl,z3,by omega,zn,zl⟩
   case measure=>simp[intOf];omega
  ·obtain rfl:m=0:=by omega
   have hd:decide ((0:Int)<((0:Nat):Int))=false:=by simp
   obtain⟨g,cq,e,z8,z7⟩:=HO.out.some (by rw[HL.out];omega);rw[HL.out]at e
   cases e
   have zm:=z8.base;have CR:=hid (reverse_any g cp k B l wr hl (by omega) z8 z7);have HT:Hid (l.reverse=G):=hid (by rw[← HG.out,hiL_zero];rfl);have zk:=hid (show l.reverse.length=k by rw[List.length_reverse];exact hl);clear HG HO HL z8;go_wp2_with fail;refine CR.out.mono ?_;rintro e W1⟨rfl,zf,bk,_⟩;replace hb:=hb.trans (bk.mono zm);have ht:=qcW zf zk.out cp;obtain⟨L,hL⟩:∃ L,(⟨l.reverse.toArray⟩:ByteArray)=L:=⟨_,rfl⟩;have zj:Hid (L=⟨(grL n).toArray⟩):=hid (by rw[← hL,zi.out,HT.out]);rw[hL]at ht;clear hL zf bk CR;go_wp2_with fail;go_ret;exact⟨by rw[zj.out];rfl,by rw[zg.out];exact hb⟩
theorem groups_any(z:Int)(w:World)(h0:0≤z)(h1:z≤9223372036854775807):Rt 212 #[.int .i64 z] w (.string ⟨(grL z.toNat).toArray⟩):=by
 unfold Rt;obtain⟨n,rfl⟩:∃ n:Nat,z=(n:Int):=⟨z.toNat,by omega⟩;exact groupsOf_any n w (by omega)
theorem ints_at{W:World}{ao:Option Addr}{zs:List Int}(h:IntsAt W ao zs)(hl:0<zs.length):∃ g z0,ao=some ⟨g,z0,none⟩∧∀ j,j<zs.length→W.cell? ⟨g,z0+j,none⟩=some (.int .i64 (zs.getD j 0)):=by
 obtain⟨g,z0,rfl,_⟩:=h 0 hl;refine⟨g,z0,rfl,fun j hj=>?_⟩;obtain⟨g',off',e,hc⟩:=h j hj
 cases e
 exact hc
def minU(zs:List Int):Nat→Int
 | 0=>zs.getD 0 0
 | k+1=>min (minU zs k) (zs.getD (k+1) 0)
theorem minU_all(zs:List Int):∀ k j,j≤k→minU zs k≤zs.getD j 0
 | 0,j,h=>by
  obtain rfl:j=0:=by omega
  exact Int.le_refl _
 | k+1,j,h=>by
  by_cases e:j=k+1
  ·subst e;rw[minU];omega
  ·have:=minU_all zs k j (by omega);rw[minU];omega
theorem min_any(ao:Option Addr)(n c:Nat)(zs:List Int)(w:World)(hn:zs.length=n)(h1:1≤n)(hm:n≤1000000)(hi:IntsAt w ao zs):Rt 209 #[.slice ao n c] w (.int .i64 (minU zs (n-1))):=by
 unfold Rt;obtain⟨g,off,rfl,hc⟩:=ints_at hi (by omega);have HC:=hid hc;have c0:=hc 0 (by omega);rw[Nat.add_zero]at c0;have HZ:Hid (zs.getD 0 0=minU zs 0):=hid rfl;have HN:=hid hn;have d1:decide ((n:Int)<1)=false:=by simp;omega
 have i0:(0:Int)<(n:Int):=by omega
 have j0:0<n:=by omega
 have hb:=Below.refl w.heap.size w;clear hi hc hn;obtain⟨z0,z1⟩:∃ z0,zs.getD 0 0=z0:=⟨_,rfl⟩;rw[z1]at c0 HZ;clear z1;go_enter func209,ntmps209;go_wp2_with fail
 go_loopw [3,4] (fun mv iv wr=>∃ k:Nat,1≤k∧k≤n∧mv=.int .i64 (minU zs (k-1))∧iv=.int .i64 (k:Int)∧Below w.heap.size w wr) (fun _ iv _=>n-(intOf iv).toNat)
 case atStart=>exact⟨1,by omega,by omega,by rw[HZ.out],rfl,hb⟩
 case round=>
  clear hb HZ c0;obtain⟨k,hk1,hk,rfl,rfl,hb⟩:=hrel;by_cases z2:k<n
  ·have hd:decide ((k:Int)<(n:Int))=true:=by simp;omega
   have hkn:(k:Int)<(n:Int):=by omega
   have ck:=(hb.cell (jbc (HC.out k (by rw[HN.out];exact z2)))).trans (HC.out k (by rw[HN.out];exact z2));obtain⟨y,hy⟩:∃ y,min (minU zs (k-1)) (zs.getD k 0)=y:=⟨_,rfl⟩;have HY:Hid (minU zs (k+1-1)=y):=hid (by rw[← hy,show k+1-1=(k-1)+1 by omega,minU,show k-1+1=k by omega]);generalize minU zs (k-1)=m at *;generalize zs.getD k 0=z at *;go_wp2_with fail;go_roundw
   case rel=>exact⟨k+1,by omega,by omega,by rw[HY.out,← hy],by go_num,hb⟩
   case measure=>simp[intOf];omega
  ·have hd:decide ((k:Int)<(n:Int))=false:=by simp;omega
   obtain rfl:k=n:=by omega
   go_wp2_with fail;go_ret;exact⟨rfl,hb⟩
def maxU(zs:List Int):Nat→Int
 | 0=>zs.getD 0 0
 | k+1=>max (maxU zs k) (zs.getD (k+1) 0)
theorem maxU_all(zs:List Int):∀ k j,j≤k→zs.getD j 0≤maxU zs k
 | 0,j,h=>by
  obtain rfl:j=0:=by omega
  exact Int.le_refl _
 | k+1,j,h=>by
  by_cases e:j=k+1
  ·subst e;rw[maxU];omega
  ·have:=maxU_all zs k j (by omega);rw[maxU];omega
theorem maxU_one(zs:List Int):∀ k,∃ j,j≤k∧maxU zs k=zs.getD j 0
 | 0=>⟨0,jlr _,rfl⟩
 | k+1=>by
  obtain⟨j,h1,h2⟩:=maxU_one zs k;by_cases e:maxU zs k≤zs.getD (k+1) 0
  ·exact⟨k+1,jlr _,by rw[maxU];omega⟩
  ·exact⟨j,by omega,by rw[maxU];omega⟩
theorem max_any(ao:Option Addr)(n c:Nat)(zs:List Int)(w:World)(hn:zs.length=n)(h1:1≤n)(hm:n≤1000000)(hi:IntsAt w ao zs):Rt 211 #[.slice ao n c] w (.int .i64 (maxU zs (n-1))):=by
 unfold Rt;obtain⟨g,off,rfl,hc⟩:=ints_at hi (by omega);have HC:=hid hc;have c0:=hc 0 (by omega);rw[Nat.add_zero]at c0;have HZ:Hid (zs.getD 0 0=maxU zs 0):=hid rfl;have HN:=hid hn;have d1:decide ((n:Int)<1)=false:=by simp;omega
 have i0:(0:Int)<(n:Int):=by omega
 have j0:0<n:=by omega
 have hb:=Below.refl w.heap.size w;clear hi hc hn;obtain⟨z0,z1⟩:∃ z0,zs.getD 0 0=z0:=⟨_,rfl⟩;rw[z1]at c0 HZ;clear z1;go_enter func211,ntmps211;go_wp2_with fail
 go_loopw [3,4] (fun mv iv wr=>∃ k:Nat,1≤k∧k≤n∧mv=.int .i64 (maxU zs (k-1))∧iv=.int .i64 (k:Int)∧Below w.heap.size w wr) (fun _ iv _=>n-(intOf iv).toNat)
 case atStart=>exact⟨1,by omega,by omega,by rw[HZ.out],rfl,hb⟩
 case round=>
  clear hb HZ c0;obtain⟨k,hk1,hk,rfl,rfl,hb⟩:=hrel;by_cases z2:k<n
  ·have hd:decide ((k:Int)<(n:Int))=true:=by simp;omega
   have hkn:(k:Int)<(n:Int):=by omega
   have ck:=(hb.cell (jbc (HC.out k (by rw[HN.out];exact z2)))).trans (HC.out k (by rw[HN.out];exact z2));obtain⟨y,hy⟩:∃ y,max (maxU zs (k-1)) (zs.getD k 0)=y:=⟨_,rfl⟩;have HY:Hid (maxU zs (k+1-1)=y):=hid (by rw[← hy,show k+1-1=(k-1)+1 by omega,maxU,show k-1+1=k by omega]);generalize maxU zs (k-1)=m at *;generalize zs.getD k 0=z at *;go_wp2_with fail;go_roundw
   case rel=>exact⟨k+1,by omega,by omega,by rw[HY.out,← hy],by go_num,hb⟩
   case measure=>simp[intOf];omega
  ·have hd:decide ((k:Int)<(n:Int))=false:=by simp;omega
   obtain rfl:k=n:=by omega
   go_wp2_with fail;go_ret;exact⟨rfl,hb⟩
def bgB(a b:Int):Bool:=if a<2 then decide (b<40) else (decide (a=2)&&decide (b≤1000000))
theorem bg_iff(zs:List Int)(h1:0≤zs.getD 1 0):bgB (zs.getD 0 0) (zs.getD 1 0)=true↔¬ qcP zs:=by
 rw[bgB,qcP];by_cases c:zs.getD 0 0<2
 ·rw[if_pos c,decide_eq_true_eq];omega
 ·rw[if_neg c,Bool.and_eq_true,decide_eq_true_eq,decide_eq_true_eq];omega
theorem isBeginning_any(a b:Int)(w:World):Rt 210 #[.int .i64 a,.int .i64 b] w (.bool (bgB a b)):=by
 unfold Rt;by_cases c:a<2
 ·have d1:decide (a<2)=true:=decide_eq_true c;have HV:Hid (bgB a b=decide (b<40)):=hid (if_pos c);clear c;go_enter func210,ntmps210;go_wp2_with fail;go_ret;exact⟨by rw[HV.out];rfl,Below.refl _ _⟩
 have d1:decide (a<2)=false:=decide_eq_false c;by_cases c2:a=2
 ·have d2:(a==2)=true:=by rw[c2];rfl
  have HV:Hid (bgB a b=decide (b≤1000000)):=hid (by rw[bgB,if_neg c,decide_eq_true c2,Bool.true_and]);clear c c2;go_enter func210,ntmps210;go_wp2_with fail;go_ret;exact⟨by rw[HV.out];rfl,Below.refl _ _⟩
 ·have d2:(a==2)=false:=by simp[c2]
  have HV:Hid (bgB a b=false):=hid (by rw[bgB,if_neg c,decide_eq_false c2,Bool.false_and]);clear c c2;go_enter func210,ntmps210;go_wp2_with fail;go_ret;exact⟨by rw[HV.out];rfl,Below.refl _ _⟩
theorem grB_eq(z:Int):(⟨(grL z.toNat).toArray⟩:ByteArray)=grB z:=rfl
theorem oidD_any(ao:Option Addr)(n c:Nat)(zs:List Int)(w:World)(hn:zs.length=n)(hm:n≤1000000)(z8:n≤c)(hz:∀ k,-9223372036854775808≤zs.getD k 0∧zs.getD k 0≤9223372036854775807)(hi:IntsAt w ao zs)
  (h2:2≤n) (z9:¬ minU zs (n-1)<0) (zd:¬ qcP zs) (zc:n≤20) (zy:¬ 268435455<maxU zs (n-1)) :
  Rt 172 #[.slice ao n c] w (.tuple #[.string (oidX zs),.int .i64 (qcc zs)]):=by
 unfold Rt;have hb:=Below.refl w.heap.size w;have z5:∀ k,k<zs.length→0≤zs.getD k 0:=fun k hk=>by have:=minU_all zs (n-1) k (by omega);omega
 have d2:decide ((n:Int)<2)=false:=by simp;omega
 have d3:decide (minU zs (n-1)<0)=false:=decide_eq_false z9;have CM:=hid (fun W hI=>min_any ao n c zs W hn (by omega) hm hI);have CX:=hid (fun W hI=>max_any ao n c zs W hn (by omega) hm hI);have CB:=hid (fun W=>isBeginning_any (zs.getD 0 0) (zs.getD 1 0) W);have HI:=hid hi;obtain⟨g,z3,rfl,ze⟩:=ints_at hi (by omega);have c0:=ze 0 (by omega);have c1:=ze 1 (by omega);rw[Nat.add_zero]at c0;have zq:=hid ze;have i0:(0:Int)<(n:Int):=by omega
 have j0:0<n:=by omega
 have i1:(1:Int)<(n:Int):=by omega
 have j1:1<n:=by omega
 have p0:=z5 0 (by omega);have p1:=z5 1 (by omega);have zt:Hid (∀ j,j<zs.length→zs.getD j 0≤maxU zs (n-1)):=hid (fun j hj=>maxU_all zs (n-1) j (by omega));have zA:=hid (maxU_one zs (n-1));clear hi ze;have hq:bgB (zs.getD 0 0) (zs.getD 1 0)=true:=(bg_iff zs p1).2 zd;rw[hq]at CB;have zE:¬ (2<zs.getD 0 0∨(zs.getD 0 0<2∧39<zs.getD 1 0)∨1000000<zs.getD 1 0):=zd;have zz:∀ k,k<zs.length→zs.getD k 0≤268435455:=fun k hk=>by have:=zt.out k hk;omega
 have zk:=oid_ok zs (by omega) z5 zd (by omega) (fun k _ hk=>zz k hk);have HR:Hid (oidX zs=⟨(wrL ((6:Nat):Int) (oidB zs).size).toArray⟩++oidB zs∧qcc zs=0):=hid ⟨by rw[oidX,if_pos zk,wrX,if_pos (oid_wr zs (by omega))];rfl,zk⟩;have zF:=qgd zs (by omega);have CE:=hid (fun W=>qgm 6 (oidB zs) W (by decide) (by omega));have zB:decide ((20:Int)<(n:Int))=false:=by simp;omega
 have zC:decide ((268435455:Int)<maxU zs (n-1))=false:=decide_eq_false zy;have zm:IntKind.i64.wrap (40*zs.getD 0 0)=40*zs.getD 0 0:=by rw[IntKind.wrap_i64];omega
 have zl:IntKind.i64.wrap (40*zs.getD 0 0+zs.getD 1 0)=40*zs.getD 0 0+zs.getD 1 0:=by rw[IntKind.wrap_i64];omega
 have CG:=hid (fun W=>groups_any (40*zs.getD 0 0+zs.getD 1 0) W (by omega) (by omega));rw[grB_eq,← oidP_two zs]at CG;have HS:=hid (fun k (zD:2≤k) (hk:k<n)=>oidP_succ zs k zD (by omega));have zw:=hid (fun k (h:k≤20)=>oidP_size zs k h);have zr:=hid grB_size;have z4:=hid (oidP_end zs);rw[hn]at z4;have zn:=hid (fun k (hk:k<n) W=>groups_any (zs.getD k 0) W (z5 k (by omega)) (hz k).2);have zu:=hid hn;have zj:(2:Int)≤(n:Int):=by omega
 generalize minU zs (n-1)=mn at *;obtain⟨z0,z7⟩:∃ z0,zs.getD 0 0=z0:=⟨_,rfl⟩;obtain⟨z1,zb⟩:∃ z1,zs.getD 1 0=z1:=⟨_,rfl⟩;rw[z7]at c0;rw[zb]at c1;rw[z7,zb]at CB;rw[z7,zb]at CG zl;rw[z7]at zm;clear hz hm z9 zd zE z5 hq zt zA z7 zb zz zk zF hn p0 p1;generalize maxU zs (n-1)=mx at *;generalize (⟨(wrL ((6:Nat):Int) (oidB zs).size).toArray⟩++oidB zs:ByteArray)=ox at *;obtain⟨b2,zh⟩:∃ b2,oidP zs 2=b2:=⟨_,rfl⟩;rw[zh]at CG;have zo:=hid zh;clear zh;go_enter func172,ntmps172;go_wp2_with fail;refine qgk 17 56 [(Told.val (.slice (some ⟨g,z3,none⟩) n c),[0]),
  (Told.val (.int .i64 (n:Int)),[7]),
  (Told.val (.bool false),[8]),
  (Told.val (.bool false),[9]),
  (Told.val (.slice (some ⟨g,z3,none⟩) n c),[0]),
  (Told.val (.int .i64 mn),[11]),
  (Told.val (.bool false),[12]),
  (Told.val (.bool false),[10,13]),
  (Told.val (.bool false),[14]),
  (Told.val (.slice (some ⟨g,z3,none⟩) n c),[0]),
  (Told.val (.pointer (some ⟨g,z3,none⟩)),[16]),
  (Told.val (.int .i64 z0),[17]),
  (Told.val (.slice (some ⟨g,z3,none⟩) n c),[0]),
  (Told.val (.pointer (some ⟨g,z3+1,none⟩)),[19]),
  (Told.val (.int .i64 z1),[20]),
  (Told.val (.bool true),[18,21]),
  (Told.val (.bool false),[22])]
  (by kernel_rfl) (by kernel_rfl) rfl (by simp[qc8,Told.val]) ?_ ?_
 ·simp only[take_succ_cons,List.take_zero,qaQ,and_true];refine And.intro ?_ (And.intro ?_ (And.intro ?_ (And.intro ?_ (And.intro ?_ (And.intro ?_ (And.intro ?_ (And.intro ?_ (And.intro ?_ (And.intro ?_ (And.intro ?_ (And.intro ?_ (And.intro ?_ (And.intro ?_ (And.intro ?_ (And.intro ?_ (?_))))))))))))))))
  ·intro a w hb h;refine qag ?_;simp[go_sem,ud0 h rfl,qaa]
  ·intro a w hb h;refine qag ?_;simp[go_sem,td0 h rfl,qaa]
  ·intro a w hb h;refine qag ?_;simp[go_sem,td0 h rfl,qaa,d2]
  ·intro a w hb h;refine qag ?_;simp[go_sem,td0 h rfl,qaa]
  ·intro a w hb h;refine qag ?_;simp[go_sem,ud0 h rfl,qaa]
  ·intro a w hb h;refine qag ?_;simp[go_sem,td0 h rfl,qaa];exact CM.out _ (HI.out.step hb)
  ·intro a w hb h;refine qag ?_;simp[go_sem,td0 h rfl,qaa,d3]
  ·intro a w hb h;refine qag ?_;simp[go_sem,td0 h rfl,td1 h rfl,qaa]
  ·intro a w hb h;refine qag ?_;simp[go_sem,td0 h rfl,qaa]
  ·intro a w hb h;refine qag ?_;simp[go_sem,ud0 h rfl,qaa]
  ·intro a w hb h;refine qag ?_;simp[go_sem,td0 h rfl,qaa,i0,j0]
  ·intro a w hb h;have hc:=(hb.cell (jbc c0)).trans c0;refine qag ?_;simp[go_sem,td0 h rfl,qaa,hc]
  ·intro a w hb h;refine qag ?_;simp[go_sem,ud0 h rfl,qaa]
  ·intro a w hb h;refine qag ?_;simp[go_sem,td0 h rfl,qaa,i1,j1]
  ·intro a w hb h;have hc:=(hb.cell (jbc c1)).trans c1;refine qag ?_;simp[go_sem,td0 h rfl,qaa,hc]
  ·intro a w hb h;refine qag ?_;simp[go_sem,td0 h rfl,td1 h rfl,qaa];exact CB.out _
  ·intro a w hb h;refine qag ?_;simp[go_sem,td0 h rfl,qaa]
 simp only[zks,qaW,Act.put,zkt];rintro X bk _ rfl _ rfl _ rfl _ rfl _ rfl _ rfl _ rfl _ rfl _ rfl _ rfl _ rfl _ rfl _ rfl _ rfl _ rfl _ rfl _ rfl;replace hb:=bws hb bk;replace HI:=hid (HI.out.step bk);replace c0:=(bk.cell (jbc c0)).trans c0;replace c1:=(bk.cell (jbc c1)).trans c1;clear bk;go_wp2_with fail;refine (CX.out _ HI.out).mono ?_;rintro e W2⟨rfl,bk⟩;replace hb:=bws hb bk;replace HI:=hid (HI.out.step bk);replace c0:=(bk.cell (jbc c0)).trans c0;replace c1:=(bk.cell (jbc c1)).trans c1;clear bk CX;go_wp2_with fail;refine qaA 9 56 [(Told.val (.slice (some ⟨g,z3,none⟩) n c),[0]),
  (Told.val (.pointer (some ⟨g,z3,none⟩)),[33]),
  (Told.val (.int .i64 z0),[34]),
  (Told.val (.int .i64 (40*z0)),[35]),
  (Told.val (.slice (some ⟨g,z3,none⟩) n c),[0]),
  (Told.val (.pointer (some ⟨g,z3+1,none⟩)),[37]),
  (Told.val (.int .i64 z1),[38]),
  (Told.val (.int .i64 (40*z0+z1)),[36,39]),
  (Told.val (.string b2),[40])]
  (by kernel_rfl) (by kernel_rfl) rfl ?_ ?_
 ·simp only[take_succ_cons,List.take_zero,qaQ,and_true];refine And.intro ?_ (And.intro ?_ (And.intro ?_ (And.intro ?_ (And.intro ?_ (And.intro ?_ (And.intro ?_ (And.intro ?_ (?_))))))))
  ·intro a w hb h;refine qag ?_;simp[go_sem,ud0 h rfl,qaa]
  ·intro a w hb h;refine qag ?_;simp[go_sem,td0 h rfl,qaa,i0,j0]
  ·intro a w hb h;have hc:=(hb.cell (jbc c0)).trans c0;refine qag ?_;simp[go_sem,td0 h rfl,qaa,hc]
  ·intro a w hb h;refine qag ?_;simp[go_sem,td0 h rfl,qaa,zm]
  ·intro a w hb h;refine qag ?_;simp[go_sem,ud0 h rfl,qaa]
  ·intro a w hb h;refine qag ?_;simp[go_sem,td0 h rfl,qaa,i1,j1]
  ·intro a w hb h;have hc:=(hb.cell (jbc c1)).trans c1;refine qag ?_;simp[go_sem,td0 h rfl,qaa,hc]
  ·intro a w hb h;refine qag ?_;simp[go_sem,td0 h rfl,td1 h rfl,qaa,zl]
  ·intro a w hb h;refine qag ?_;simp[go_sem,td0 h rfl,qaa];exact CG.out _
 simp only[zks,qaW,Act.put,zkt];rintro X bk _ rfl _ rfl _ rfl _ rfl _ rfl _ rfl _ rfl _ rfl _ rfl;replace hb:=bws hb bk;clear bk c0 c1 zm zl CG CB CM i0 j0 i1 j1 d2 d3 zB zC HI zy;by_cases zG:c=2
 ·have zH:n=2:=by omega
  subst zG;subst zH;clear zq zn HS zw zr z8 h2 zc;rw[zo.out]at z4;have e2:=z4.out;go_wp2_with fail
  go_loopw [4,45] (fun bv iv wr=>bv=.string b2∧iv=.int .i64 0∧Below w.heap.size w wr) (fun _ _ _=>0)
  case atStart=>exact⟨rfl,rfl,hb⟩
  case round=>
   clear hb;obtain⟨rfl,rfl,hb⟩:=hrel;subst e2;go_wp2_with fail;refine (CE.out _).mono ?_;rintro e W4⟨rfl,bk⟩;replace hb:=bws hb bk;clear bk;go_wp2_with fail;go_ret2;exact⟨by rw[HR.out.1,HR.out.2];rfl,hb⟩
 ·obtain⟨r,hr⟩:∃ r,n-2=r:=⟨_,rfl⟩;have zg:Hid (n=r+2):=hid (by omega);have zf:Hid (r+2≤20):=hid (by omega);have hr18:r≤18:=by omega
  clear h2 zc z8;go_wp2_with fail;clear hr zj;rw[zg.out]at zu z4;have hB:=hb.size;generalize zx:w.heap.size=B at *;have zp:=hid zx;clear zx
  go_loopw [4,6,45] (fun bv nv iv wr=>∃ j:Nat,j≤r∧bv=.string (oidP zs (j+2))∧iv=.int .i64 (j:Int)∧Below B w wr∧B≤wr.heap.size) (fun _ _ iv _=>r-(intOf iv).toNat)
  case atStart=>exact⟨0,by omega,by rw[zo.out],rfl,hb,hB⟩
  case round=>
   clear hB;obtain⟨j,hj,rfl,rfl,z6,hB⟩:=hrel;by_cases hlt:j<r
   ·have hd:decide ((j:Int)<(r:Int))=true:=by simp;omega
    have hjr:(j:Int)<(r:Int):=by omega
    have za:=zq.out (j+2) (by rw[zu.out];omega);rw[show z3+(j+2)=z3+2+j by omega]at za;have ck:=(z6.cell (zp.out▸jbc za)).trans za;have CK:=hid (fun W=>zn.out (j+2) (by rw[zg.out];omega) W);rw[grB_eq]at CK;have hs:=HS.out (j+2) (by omega) (by rw[zg.out];omega);have zc:=zf.out;have z1:=zw.out (j+2) (by omega);have z2:=zr.out (zs.getD (j+2) 0);have zI:(oidP zs (j+2)).size+(grB (zs.getD (j+2) 0)).size≤9223372036854775807:=by omega
    have zv:=hid hs;clear za hs z1 z2 zc hb;generalize grB (zs.getD (j+2) 0)=gz at *;generalize zs.getD (j+2) 0=z at *;obtain⟨bj,zi⟩:∃ bj,oidP zs (j+2)=bj:=⟨_,rfl⟩;rw[zi]at zv zI;simp only[zi];clear zi;go_wp2_with fail;refine (CK.out _).mono ?_;rintro e W5⟨rfl,bk⟩;replace z6:=z6.trans (bk.mono hB);replace hB:=jlt hB bk.size;clear bk CK ck;go_wp2_with fail;go_roundw
    case rel=>exact⟨j+1,by omega,by rw[show j+1+2=j+2+1 by omega,zv.out],by go_num,z6,hB⟩
    case measure=>simp[intOf];omega
   ·have hd:decide ((j:Int)<(r:Int))=false:=by simp;omega
    obtain rfl:j=r:=by omega
    rw[z4.out];clear hb;go_wp2_with fail;refine (CE.out _).mono ?_;rintro e W4⟨rfl,bk⟩;replace z6:=z6.trans (bk.mono hB);clear bk;go_wp2_with fail;go_ret2;exact⟨by rw[HR.out.1,HR.out.2];rfl,by rw[zp.out];exact z6⟩
end
end Go.Proofs.YteomfleofeeofaaGreatDoor
