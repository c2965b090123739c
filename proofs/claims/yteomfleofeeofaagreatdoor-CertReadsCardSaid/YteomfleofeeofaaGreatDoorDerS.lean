/- Things of the document on bytes. -/
import Derived.Test.YteomfleofeeofaaGreatDoorConvS
import Derived.Test.YteomfleofeeofaaGreatDoorToldG
namespace Go.Proofs.YteomfleofeeofaaGreatDoor
open Go.Lib (hid)
open _root_.List (take_succ_cons drop_succ_cons set_cons_succ set_cons_zero setIfInBounds_toArray)
set_option maxHeartbeats 16000000
open Go.Proofs.Tryz
set_option maxRecDepth 100000
set_option linter.unusedSimpArgs false
set_option linter.unusedVariables false
section
def isT(n:Int):Bool:=decide (0≤n)&&decide (n≤255)&&(n%32 != 31)
def lenL(n:Nat):List UInt8:=if n<128 then [UInt8.ofNat n] else if n<256 then [129,UInt8.ofNat n] else [130,UInt8.ofNat (n/256),UInt8.ofNat n]
def wrL(z0:Int)(n:Nat):List UInt8:=UInt8.ofNat z0.toNat :: lenL n
def wrE(z0:Int)(body:ByteArray):Int:=if isT z0=true then (if body.size<65536 then 0 else 13) else 1
def wrX(z0:Int)(body:ByteArray):ByteArray:=if wrE z0 body=0 then ⟨(wrL z0 body.size).toArray⟩++body else ⟨#[]⟩
def rdB(l:List UInt8)(i:Nat):Nat:=(l.getD i 0).toNat
theorem qbA(l:List UInt8)(i:Nat):rdB l i<256:=UInt8.toNat_lt _
def rdA(l:List UInt8):Nat:=if 128<rdB l 1 then rdB l 1-126 else 2
def rdN(l:List UInt8):Nat:=if rdB l 1=129 then rdB l 2 else if rdB l 1=130 then 256*rdB l 2+rdB l 3 else rdB l 1
def rdE(l:List UInt8):Int:=
 if l.length=0 then 10 else if rdB l 0%32=31 then 11 else if l.length<2 then 10 else if rdB l 1=128∨130<rdB l 1 then 11 else if l.length<rdA l then 10 else
  if (rdB l 1=129∧rdN l<128)∨(rdB l 1=130∧rdN l<256) then 11 else if l.length<rdA l+rdN l then 10 else 0
def qc5(s:ByteArray):Int:=if rdE s.data.toList=0 then (rdB s.data.toList 0:Int) else 0
def qba(s:ByteArray):ByteArray:=if rdE s.data.toList=0 then s.extract (rdA s.data.toList) (rdA s.data.toList+rdN s.data.toList) else ⟨#[]⟩
def qbD(s:ByteArray):ByteArray:=if rdE s.data.toList=0 then s.extract (rdA s.data.toList+rdN s.data.toList) s.size else ⟨#[]⟩
def qbS(s:ByteArray):Int:=rdE s.data.toList
theorem qcQ(s:ByteArray)(e:Int)(h:rdE s.data.toList=e)(he:e≠0):qc5 s=0∧qba s=⟨#[]⟩∧qbD s=⟨#[]⟩∧qbS s=e:=by
 have hn:¬ rdE s.data.toList=0:=by rw[h];exact he
 exact⟨if_neg hn,if_neg hn,if_neg hn,h⟩
theorem qeq(s:ByteArray)(h:rdE s.data.toList=0):qc5 s=(rdB s.data.toList 0:Int)∧qba s=s.extract (rdA s.data.toList) (rdA s.data.toList+rdN s.data.toList)∧qbD s=s.extract (rdA s.data.toList+rdN s.data.toList) s.size∧qbS s=0:=
 ⟨if_pos h,if_pos h,if_pos h,h⟩
theorem qce(s:ByteArray)(i:Nat)(hi:i<s.size):∀ k:i<s.size,((s[i]'k).toNat:Int)=(rdB s.data.toList i:Int):=fun k=>by
 rw[rdB,List.getD_eq_getElem?_getD,Array.getElem?_toList];simp[k]
 rfl
theorem isT_byte(b:Nat)(h:b<256):isT (b:Int)=!decide (b%32=31):=by
 rw[isT,decide_eq_true (by omega),decide_eq_true (by omega),Bool.true_and,Bool.true_and,bne];congr 1;by_cases c:b%32=31
 ·rw[decide_eq_true c];simp;omega
 ·rw[decide_eq_false c];simp;omega
theorem rd_sizes(s:ByteArray)(h:qbS s=0):(qba s).size≤s.size∧(qbD s).size<s.size:=by
 obtain⟨_,h2,h3,_⟩:=qeq s h;have hl:s.data.toList.length=s.size:=(Lib.size_eq s).symm;have hA:2≤rdA s.data.toList:=by rw[rdA];split<;>omega
 have hk:rdA s.data.toList+rdN s.data.toList≤s.size:=by
  have h':rdE s.data.toList=0:=h;rw[rdE]at h';split at h'
  ·cases h'
  split at h'
  ·cases h'
  split at h'
  ·cases h'
  split at h'
  ·cases h'
  split at h'
  ·cases h'
  split at h'
  ·cases h'
  split at h'
  ·cases h'
  omega
 rw[h2,h3,ByteArray.size_extract,ByteArray.size_extract];omega
open Go.RowKit Go.Sort in
theorem qaY{fn:Func}{t u v x:Tmp}(h:fn.results=#[.tmp t,.tmp u,.tmp v,.tmp x])(tmps:Array Value)(P:Program)(w:World):(results fn tmps).run P w=.ok (.tuple #[tmps.getD t undef,tmps.getD u undef,tmps.getD v undef,tmps.getD x undef]) w:=by
 simp[results,h]
end
section
open Go.RowKit Go.Sort
theorem qd2(n:Int)(w:World)(h0:-9223372036854775808≤n)(h1:n≤9223372036854775807):Rt 178 #[.int .i64 n] w (.bool (isT n)):=by
 unfold Rt;have hv:isT n=(decide (0≤n)&&decide (n≤255)&&(n%32 != 31)):=rfl;by_cases c1:0≤n
 ·have d1:decide (0≤n)=true:=decide_eq_true c1;by_cases c2:n≤255
  ·have d2:decide (n≤255)=true:=decide_eq_true c2;rw[d1,d2,Bool.true_and,Bool.true_and]at hv;have hr:n.tmod 32=n%32:=Int.tmod_eq_emod_of_nonneg c1
   cases c3:(n%32 != 31) with
   | true=>
    rw[c3]at hv;have HV:=hid hv;clear hv;go_enter func178,ntmps178;go_wp2_with fail;go_ret;exact⟨by rw[HV.out];rfl,Below.refl _ _⟩
   | false=>
    rw[c3]at hv;have HV:=hid hv;clear hv;go_enter func178,ntmps178;go_wp2_with fail;go_ret;exact⟨by rw[HV.out];rfl,Below.refl _ _⟩
  ·have d2:decide (n≤255)=false:=decide_eq_false c2;rw[d1,d2]at hv;have HV:=hid hv;clear hv;go_enter func178,ntmps178;go_wp2_with fail;go_ret;exact⟨by rw[HV.out];rfl,Below.refl _ _⟩
 ·have d1:decide (0≤n)=false:=decide_eq_false c1;rw[d1]at hv;have HV:=hid hv;clear hv;go_enter func178,ntmps178;go_wp2_with fail;go_ret;exact⟨by rw[HV.out];rfl,Below.refl _ _⟩
theorem rRead_any(s:ByteArray)(w:World)(hs:s.size≤1000000000):Rt 135 #[.string s] w (.tuple #[.int .i64 (qc5 s),.string (qba s),.string (qbD s),.int .i64 (qbS s)]):=by
 unfold Rt;have hl:s.data.toList.length=s.size:=(Lib.size_eq s).symm;have hb:=Below.refl w.heap.size w;by_cases c0:s.size=0
 ·have q0:(s.toList==[])=true:=by rw[Lib.toList_data];have:s.data.toList=[]:=List.length_eq_zero_iff.1 (by omega);rw[this];rfl
  have HB:=hid (qcQ s 10 (by rw[rdE,if_pos (by omega)]) (by decide));clear hl hs;go_enter func135,ntmps135;go_wp2_with fail
  (try simp only[Exit.inBlock,Exit.then])
  exact jpr (qaY rfl _ _ _) rfl ⟨by rw[HB.out.1,HB.out.2.1,HB.out.2.2.1,HB.out.2.2.2];rfl,hb⟩
 have q0:(s.toList==[])=false:=by rw[Lib.toList_data];cases h:s.data.toList with|nil=>rw[h]at hl;exact absurd hl.symm c0|cons a r=>rfl
 have z1:0<s.size:=by omega
 have z2:(0:Int)<(s.size:Int):=by omega
 have t0:=qce s 0 z1;have h0:=qbA s.data.toList 0;have CT:=hid (fun W=>qd2 (rdB s.data.toList 0:Int) W (by omega) (by omega));rw[isT_byte _ h0]at CT;have n0:¬ s.data.toList.length=0:=by omega
 by_cases c1:rdB s.data.toList 0%32=31
 ·rw[decide_eq_true c1,Bool.not_true]at CT;have HB:=hid (qcQ s 11 (by rw[rdE,if_neg n0,if_pos c1]) (by decide));generalize rdB s.data.toList 0=b0 at *;clear hl hs n0 c1 c0;go_enter func135,ntmps135;go_wp2_with fail;refine (CT.out _).mono ?_;rintro e W1⟨rfl,bk⟩;replace hb:=bws hb bk;clear bk CT;go_wp2_with fail
  (try simp only[Exit.inBlock,Exit.then])
  exact jpr (qaY rfl _ _ _) rfl ⟨by rw[HB.out.1,HB.out.2.1,HB.out.2.2.1,HB.out.2.2.2];rfl,hb⟩
 rw[decide_eq_false c1,Bool.not_false]at CT;by_cases c2:s.size<2
 ·have d2:decide ((s.size:Int)<2)=true:=by simp;omega
  have HB:=hid (qcQ s 10 (by rw[rdE,if_neg n0,if_neg c1,if_pos (by omega)]) (by decide));generalize rdB s.data.toList 0=b0 at *;clear hl hs n0 c1 c0 c2;go_enter func135,ntmps135;go_wp2_with fail;refine (CT.out _).mono ?_;rintro e W1⟨rfl,bk⟩;replace hb:=bws hb bk;clear bk CT;go_wp2_with fail
  (try simp only[Exit.inBlock,Exit.then])
  exact jpr (qaY rfl _ _ _) rfl ⟨by rw[HB.out.1,HB.out.2.1,HB.out.2.2.1,HB.out.2.2.2];rfl,hb⟩
 have n2:¬ s.data.toList.length<2:=by omega
 have d2:decide ((s.size:Int)<2)=false:=by simp;omega
 have z5:1<s.size:=by omega
 have hi1:(1:Int)<(s.size:Int):=by omega
 have t1:=qce s 1 z5;have h1:=qbA s.data.toList 1;by_cases c3:rdB s.data.toList 1=128
 ·have d3:((rdB s.data.toList 1:Int)==128)=true:=by simp;omega
  have HB:=hid (qcQ s 11 (by rw[rdE,if_neg n0,if_neg c1,if_neg n2,if_pos (.inl c3)]) (by decide));generalize rdB s.data.toList 0=b0 at *;generalize rdB s.data.toList 1=b1 at *;clear hl hs n0 n2 c0 c1 c2 c3;go_enter func135,ntmps135;go_wp2_with fail;refine (CT.out _).mono ?_;rintro e W1⟨rfl,bk⟩;replace hb:=bws hb bk;clear bk CT;go_wp2_with fail
  (try simp only[Exit.inBlock,Exit.then])
  exact jpr (qaY rfl _ _ _) rfl ⟨by rw[HB.out.1,HB.out.2.1,HB.out.2.2.1,HB.out.2.2.2];rfl,hb⟩
 have d3:((rdB s.data.toList 1:Int)==128)=false:=by simp;omega
 by_cases c4:130<rdB s.data.toList 1
 ·have d4:decide (130<(rdB s.data.toList 1:Int))=true:=by simp;omega
  have HB:=hid (qcQ s 11 (by rw[rdE,if_neg n0,if_neg c1,if_neg n2,if_pos (.inr c4)]) (by decide));generalize rdB s.data.toList 0=b0 at *;generalize rdB s.data.toList 1=b1 at *;clear hl hs n0 n2 c0 c1 c2 c3 c4;go_enter func135,ntmps135;go_wp2_with fail;refine (CT.out _).mono ?_;rintro e W1⟨rfl,bk⟩;replace hb:=bws hb bk;clear bk CT;go_wp2_with fail
  (try simp only[Exit.inBlock,Exit.then])
  exact jpr (qaY rfl _ _ _) rfl ⟨by rw[HB.out.1,HB.out.2.1,HB.out.2.2.1,HB.out.2.2.2];rfl,hb⟩
 have d4:decide (130<(rdB s.data.toList 1:Int))=false:=by simp;omega
 have n3:¬ (rdB s.data.toList 1=128∨130<rdB s.data.toList 1):=by omega
 by_cases c5:rdB s.data.toList 1<128
 ·have d5:decide (128<(rdB s.data.toList 1:Int))=false:=by simp;omega
  have hA:rdA s.data.toList=2:=if_neg (by omega);have hN:rdN s.data.toList=rdB s.data.toList 1:=by rw[rdN,if_neg (by omega),if_neg (by omega)]
  by_cases c6:s.size<2+rdB s.data.toList 1
  ·have d6:decide ((s.size:Int)<2+(rdB s.data.toList 1:Int))=true:=by simp;omega
   have HB:=hid (qcQ s 10 (by rw[rdE,if_neg n0,if_neg c1,if_neg n2,if_neg n3,if_neg (by omega),if_neg (by omega),if_pos (by omega)]) (by decide));generalize rdB s.data.toList 0=b0 at *;generalize rdB s.data.toList 1=b1 at *;clear hl hs n0 n2 n3 c0 c1 c2 c3 c4 c5 c6 hA hN;go_enter func135,ntmps135;go_wp2_with fail;refine (CT.out _).mono ?_;rintro e W1⟨rfl,bk⟩;replace hb:=bws hb bk;clear bk CT;go_wp2_with fail
   (try simp only[Exit.inBlock,Exit.then])
   exact jpr (qaY rfl _ _ _) rfl ⟨by rw[HB.out.1,HB.out.2.1,HB.out.2.2.1,HB.out.2.2.2];rfl,hb⟩
  ·have d6:decide ((s.size:Int)<2+(rdB s.data.toList 1:Int))=false:=by simp;omega
   have HB:=hid (qeq s (by rw[rdE,if_neg n0,if_neg c1,if_neg n2,if_neg n3,if_neg (by omega),if_neg (by omega),if_neg (by omega)]));rw[hA,hN]at HB;have w0:IntKind.i64.wrap (rdB s.data.toList 0:Int)=(rdB s.data.toList 0:Int):=by rw[IntKind.wrap_i64];omega
   have wn:IntKind.i64.wrap (2+(rdB s.data.toList 1:Int))=2+(rdB s.data.toList 1:Int):=by rw[IntKind.wrap_i64];omega
   generalize rdB s.data.toList 0=b0 at *;generalize rdB s.data.toList 1=b1 at *;have f1:((2:Int)+(b1:Int)).toNat=2+b1:=by omega
   have f2:(2:Int)+(b1:Int)≤(s.size:Int):=by omega
   have f3:(2:Int)≤(2:Int)+(b1:Int):=by omega
   have f4:(0:Int)≤(2:Int)+(b1:Int):=by omega
   clear hl hs n0 n2 n3 c0 c1 c2 c3 c4 c5 c6 hA hN;go_enter func135,ntmps135;go_wp2_with fail;refine (CT.out _).mono ?_;rintro e W1⟨rfl,bk⟩;replace hb:=bws hb bk;clear bk CT;go_wp2_with fail;refine qao 17 84 [.val (.string s) [(0,.string s)],.val (.int .u8 (b0:Int)) [(70,.string s)],.val (.int .i64 (b0:Int)) [(71,.int .u8 (b0:Int))],.val (.string s) [(0,.string s)],.val (.int .i64 2) [(7,.int .i64 2)],.val (.int .i64 2) [(7,.int .i64 2)],.val (.int .i64 ((b1:Int))) [(6,.int .i64 ((b1:Int)))],.val (.int .i64 (2+(b1:Int))) [(75,.int .i64 2),(76,.int .i64 ((b1:Int)))],.val (.string (s.extract 2 (2+b1))) [(73,.string s),(74,.int .i64 2),(77,.int .i64 (2+(b1:Int)))],.val (.string s) [(0,.string s)],.val (.int .i64 2) [(7,.int .i64 2)],.val (.int .i64 ((b1:Int))) [(6,.int .i64 ((b1:Int)))],.val (.int .i64 (2+(b1:Int))) [(80,.int .i64 2),(81,.int .i64 ((b1:Int)))],.val (.string (s.extract (2+b1) s.size)) [(79,.string s),(82,.int .i64 (2+(b1:Int)))],.val (.int .i64 (b0:Int)) [(72,.int .i64 (b0:Int))],.val (.string (s.extract 2 (2+b1))) [(78,.string (s.extract 2 (2+b1)))],.val (.string (s.extract (2+b1) s.size)) [(83,.string (s.extract (2+b1) s.size))]] (by kernel_rfl) (by kernel_rfl) rfl ?_ ?_ ?_
   ·simp only[take_succ_cons,List.take_zero,qaO,qaP,HeadSpec.val,HeadSpec.fresh,and_true];refine⟨?_,?_,?_,?_,?_,?_,?_,?_,?_,?_,?_,?_,?_,?_,?_,?_,?_⟩
    ·intro z0 w hb h;simp[go_sem,rd0 h,qaa]
    ·intro z0 w hb h;simp[go_sem,rd0 h,qaa,z2,z1,t0]
    ·intro z0 w hb h;simp[go_sem,rd0 h,qaa,w0]
    ·intro z0 w hb h;simp[go_sem,rd0 h,qaa]
    ·intro z0 w hb h;simp[go_sem,rd0 h,qaa]
    ·intro z0 w hb h;simp[go_sem,rd0 h,qaa]
    ·intro z0 w hb h;simp[go_sem,rd0 h,qaa]
    ·intro z0 w hb h;simp[go_sem,rd0 h,rd1 h,qaa,wn]
    ·intro z0 w hb h;simp[go_sem,rd0 h,rd1 h,rd2 h,qaa,f1,f2,f3,f4]
    ·intro z0 w hb h;simp[go_sem,rd0 h,qaa]
    ·intro z0 w hb h;simp[go_sem,rd0 h,qaa]
    ·intro z0 w hb h;simp[go_sem,rd0 h,qaa]
    ·intro z0 w hb h;simp[go_sem,rd0 h,rd1 h,qaa,wn]
    ·intro z0 w hb h;simp[go_sem,rd0 h,rd1 h,qaa,f1,f2,f4]
    ·intro z0 w hb h;simp[go_sem,rd0 h,qaa]
    ·intro z0 w hb h;simp[go_sem,rd0 h,qaa]
    ·intro z0 w hb h;simp[go_sem,rd0 h,qaa]
   ·simp[qay,qax,qaK,HeadSpec.val,HeadSpec.fresh,Act.put]
   ·simp only[zks,qaN,HeadSpec.val,HeadSpec.fresh,Act.put,zkt];intro X hx _;go_wp2_with fail
    (try simp only[Exit.inBlock,Exit.then])
    exact jpr (qaY rfl _ _ _) rfl ⟨by rw[HB.out.1,HB.out.2.1,HB.out.2.2.1,HB.out.2.2.2];rfl,hb.trans (hx.mono hb.size)⟩
 by_cases c7:rdB s.data.toList 1=129
 ·have hA:rdA s.data.toList=3:=by rw[rdA,if_pos (by omega)];omega
  replace t1:∀ k:1<s.size,((s[1]'k).toNat:Int)=129:=fun k=>by rw[t1 k,c7];rfl
  have hN:rdN s.data.toList=rdB s.data.toList 2:=by rw[rdN,if_pos c7]
  by_cases c6:s.size<3
  ·have d6:decide ((s.size:Int)<3)=true:=by simp;omega
   have HB:=hid (qcQ s 10 (by rw[rdE,if_neg n0,if_neg c1,if_neg n2,if_neg n3,if_pos (by omega)]) (by decide));generalize rdB s.data.toList 0=b0 at *;clear hl hs n0 n2 n3 c0 c1 c2 c3 c4 c5 c7 hA hN d3 d4 c6;go_enter func135,ntmps135;go_wp2_with fail;refine (CT.out _).mono ?_;rintro e W1⟨rfl,bk⟩;replace hb:=bws hb bk;clear bk CT;go_wp2_with fail
   (try simp only[Exit.inBlock,Exit.then])
   exact jpr (qaY rfl _ _ _) rfl ⟨by rw[HB.out.1,HB.out.2.1,HB.out.2.2.1,HB.out.2.2.2];rfl,hb⟩
  have d6:decide ((s.size:Int)<3)=false:=by simp;omega
  have z3:2<s.size:=by omega
  have z4:(2:Int)<(s.size:Int):=by omega
  have t2:=qce s 2 z3;have h2:=qbA s.data.toList 2;by_cases c8:rdB s.data.toList 2<128
  ·have d8:decide ((rdB s.data.toList 2:Int)<128)=true:=by simp;omega
   have HB:=hid (qcQ s 11 (by rw[rdE,if_neg n0,if_neg c1,if_neg n2,if_neg n3,if_neg (by omega),if_pos (.inl ⟨c7,by omega⟩)]) (by decide));generalize rdB s.data.toList 0=b0 at *;generalize rdB s.data.toList 2=b2 at *;clear hl hs n0 n2 n3 c0 c1 c2 c3 c4 c5 c7 hA hN d3 d4 c6 c8;go_enter func135,ntmps135;go_wp2_with fail;refine (CT.out _).mono ?_;rintro e W1⟨rfl,bk⟩;replace hb:=bws hb bk;clear bk CT;go_wp2_with fail
   (try simp only[Exit.inBlock,Exit.then])
   exact jpr (qaY rfl _ _ _) rfl ⟨by rw[HB.out.1,HB.out.2.1,HB.out.2.2.1,HB.out.2.2.2];rfl,hb⟩
  have d8:decide ((rdB s.data.toList 2:Int)<128)=false:=by simp;omega
  by_cases c9:s.size<3+rdB s.data.toList 2
  ·have d9:decide ((s.size:Int)<3+(rdB s.data.toList 2:Int))=true:=by simp;omega
   have HB:=hid (qcQ s 10 (by rw[rdE,if_neg n0,if_neg c1,if_neg n2,if_neg n3,if_neg (by omega),if_neg (by omega),if_pos (by omega)]) (by decide));generalize rdB s.data.toList 0=b0 at *;generalize rdB s.data.toList 2=b2 at *;clear hl hs n0 n2 n3 c0 c1 c2 c3 c4 c5 c7 hA hN d3 d4 c6 c8 c9;go_enter func135,ntmps135;go_wp2_with fail;refine (CT.out _).mono ?_;rintro e W1⟨rfl,bk⟩;replace hb:=bws hb bk;clear bk CT;go_wp2_with fail
   (try simp only[Exit.inBlock,Exit.then])
   exact jpr (qaY rfl _ _ _) rfl ⟨by rw[HB.out.1,HB.out.2.1,HB.out.2.2.1,HB.out.2.2.2];rfl,hb⟩
  have d9:decide ((s.size:Int)<3+(rdB s.data.toList 2:Int))=false:=by simp;omega
  have HB:=hid (qeq s (by rw[rdE,if_neg n0,if_neg c1,if_neg n2,if_neg n3,if_neg (by omega),if_neg (by omega),if_neg (by omega)]));rw[hA,hN]at HB;have w0:IntKind.i64.wrap (rdB s.data.toList 0:Int)=(rdB s.data.toList 0:Int):=by rw[IntKind.wrap_i64];omega
  have wn:IntKind.i64.wrap (3+(rdB s.data.toList 2:Int))=3+(rdB s.data.toList 2:Int):=by rw[IntKind.wrap_i64];omega
  generalize rdB s.data.toList 0=b0 at *;generalize rdB s.data.toList 2=b2 at *;have f1:((3:Int)+(b2:Int)).toNat=3+b2:=by omega
  have f2:(3:Int)+(b2:Int)≤(s.size:Int):=by omega
  have f3:(3:Int)≤(3:Int)+(b2:Int):=by omega
  have f4:(0:Int)≤(3:Int)+(b2:Int):=by omega
  clear hl hs n0 n2 n3 c0 c1 c2 c3 c4 c5 c7 hA hN d3 d4 c6 c8 c9;go_enter func135,ntmps135;go_wp2_with fail;refine (CT.out _).mono ?_;rintro e W1⟨rfl,bk⟩;replace hb:=bws hb bk;clear bk CT;go_wp2_with fail;refine qao 17 84 [.val (.string s) [(0,.string s)],.val (.int .u8 (b0:Int)) [(70,.string s)],.val (.int .i64 (b0:Int)) [(71,.int .u8 (b0:Int))],.val (.string s) [(0,.string s)],.val (.int .i64 3) [(7,.int .i64 3)],.val (.int .i64 3) [(7,.int .i64 3)],.val (.int .i64 ((b2:Int))) [(6,.int .i64 ((b2:Int)))],.val (.int .i64 (3+(b2:Int))) [(75,.int .i64 3),(76,.int .i64 ((b2:Int)))],.val (.string (s.extract 3 (3+b2))) [(73,.string s),(74,.int .i64 3),(77,.int .i64 (3+(b2:Int)))],.val (.string s) [(0,.string s)],.val (.int .i64 3) [(7,.int .i64 3)],.val (.int .i64 ((b2:Int))) [(6,.int .i64 ((b2:Int)))],.val (.int .i64 (3+(b2:Int))) [(80,.int .i64 3),(81,.int .i64 ((b2:Int)))],.val (.string (s.extract (3+b2) s.size)) [(79,.string s),(82,.int .i64 (3+(b2:Int)))],.val (.int .i64 (b0:Int)) [(72,.int .i64 (b0:Int))],.val (.string (s.extract 3 (3+b2))) [(78,.string (s.extract 3 (3+b2)))],.val (.string (s.extract (3+b2) s.size)) [(83,.string (s.extract (3+b2) s.size))]] (by kernel_rfl) (by kernel_rfl) rfl ?_ ?_ ?_
  ·simp only[take_succ_cons,List.take_zero,qaO,qaP,HeadSpec.val,HeadSpec.fresh,and_true];refine⟨?_,?_,?_,?_,?_,?_,?_,?_,?_,?_,?_,?_,?_,?_,?_,?_,?_⟩
   ·intro z0 w hb h;simp[go_sem,rd0 h,qaa]
   ·intro z0 w hb h;simp[go_sem,rd0 h,qaa,z2,z1,t0]
   ·intro z0 w hb h;simp[go_sem,rd0 h,qaa,w0]
   ·intro z0 w hb h;simp[go_sem,rd0 h,qaa]
   ·intro z0 w hb h;simp[go_sem,rd0 h,qaa]
   ·intro z0 w hb h;simp[go_sem,rd0 h,qaa]
   ·intro z0 w hb h;simp[go_sem,rd0 h,qaa]
   ·intro z0 w hb h;simp[go_sem,rd0 h,rd1 h,qaa,wn]
   ·intro z0 w hb h;simp[go_sem,rd0 h,rd1 h,rd2 h,qaa,f1,f2,f3,f4]
   ·intro z0 w hb h;simp[go_sem,rd0 h,qaa]
   ·intro z0 w hb h;simp[go_sem,rd0 h,qaa]
   ·intro z0 w hb h;simp[go_sem,rd0 h,qaa]
   ·intro z0 w hb h;simp[go_sem,rd0 h,rd1 h,qaa,wn]
   ·intro z0 w hb h;simp[go_sem,rd0 h,rd1 h,qaa,f1,f2,f4]
   ·intro z0 w hb h;simp[go_sem,rd0 h,qaa]
   ·intro z0 w hb h;simp[go_sem,rd0 h,qaa]
   ·intro z0 w hb h;simp[go_sem,rd0 h,qaa]
  ·simp[qay,qax,qaK,HeadSpec.val,HeadSpec.fresh,Act.put]
  ·simp only[zks,qaN,HeadSpec.val,HeadSpec.fresh,Act.put,zkt];intro X hx _;go_wp2_with fail
   (try simp only[Exit.inBlock,Exit.then])
   exact jpr (qaY rfl _ _ _) rfl ⟨by rw[HB.out.1,HB.out.2.1,HB.out.2.2.1,HB.out.2.2.2];rfl,hb.trans (hx.mono hb.size)⟩
 have c7:rdB s.data.toList 1=130:=by omega
 have hA:rdA s.data.toList=4:=by rw[rdA,if_pos (by omega)];omega
 replace t1:∀ k:1<s.size,((s[1]'k).toNat:Int)=130:=fun k=>by rw[t1 k,c7];rfl
 have hN:rdN s.data.toList=256*rdB s.data.toList 2+rdB s.data.toList 3:=by rw[rdN,if_neg (by omega),if_pos c7]
 by_cases c6:s.size<4
 ·have d6:decide ((s.size:Int)<4)=true:=by simp;omega
  have HB:=hid (qcQ s 10 (by rw[rdE,if_neg n0,if_neg c1,if_neg n2,if_neg n3,if_pos (by omega)]) (by decide));generalize rdB s.data.toList 0=b0 at *;clear hl hs n0 n2 n3 c0 c1 c2 c3 c4 c5 c7 hA hN d3 d4 c6;go_enter func135,ntmps135;go_wp2_with fail;refine (CT.out _).mono ?_;rintro e W1⟨rfl,bk⟩;replace hb:=bws hb bk;clear bk CT;go_wp2_with fail
  (try simp only[Exit.inBlock,Exit.then])
  exact jpr (qaY rfl _ _ _) rfl ⟨by rw[HB.out.1,HB.out.2.1,HB.out.2.2.1,HB.out.2.2.2];rfl,hb⟩
 have d6:decide ((s.size:Int)<4)=false:=by simp;omega
 have z3:2<s.size:=by omega
 have z4:(2:Int)<(s.size:Int):=by omega
 have t2:=qce s 2 z3;have h2:=qbA s.data.toList 2;have z6:3<s.size:=by omega
 have hi3:(3:Int)<(s.size:Int):=by omega
 have t3:=qce s 3 z6;have h3:=qbA s.data.toList 3;have wm:IntKind.i64.wrap (256*(rdB s.data.toList 2:Int))=256*(rdB s.data.toList 2:Int):=by rw[IntKind.wrap_i64];omega
 have wk:IntKind.i64.wrap (256*(rdB s.data.toList 2:Int)+(rdB s.data.toList 3:Int))=256*(rdB s.data.toList 2:Int)+(rdB s.data.toList 3:Int):=by rw[IntKind.wrap_i64];omega
 by_cases c8:(256*rdB s.data.toList 2+rdB s.data.toList 3)<256
 ·have d8:decide ((256*(rdB s.data.toList 2:Int)+(rdB s.data.toList 3:Int))<256)=true:=by simp;omega
  have HB:=hid (qcQ s 11 (by rw[rdE,if_neg n0,if_neg c1,if_neg n2,if_neg n3,if_neg (by omega),if_pos (.inr ⟨c7,by omega⟩)]) (by decide));generalize rdB s.data.toList 0=b0 at *;generalize rdB s.data.toList 2=b2 at *;generalize rdB s.data.toList 3=b3 at *;clear hl hs n0 n2 n3 c0 c1 c2 c3 c4 c5 c7 hA hN d3 d4 c6 c8;go_enter func135,ntmps135;go_wp2_with fail;refine (CT.out _).mono ?_;rintro e W1⟨rfl,bk⟩;replace hb:=bws hb bk;clear bk CT;go_wp2_with fail
  (try simp only[Exit.inBlock,Exit.then])
  exact jpr (qaY rfl _ _ _) rfl ⟨by rw[HB.out.1,HB.out.2.1,HB.out.2.2.1,HB.out.2.2.2];rfl,hb⟩
 have d8:decide ((256*(rdB s.data.toList 2:Int)+(rdB s.data.toList 3:Int))<256)=false:=by simp;omega
 by_cases c9:s.size<4+(256*rdB s.data.toList 2+rdB s.data.toList 3)
 ·have d9:decide ((s.size:Int)<4+(256*(rdB s.data.toList 2:Int)+(rdB s.data.toList 3:Int)))=true:=by simp;omega
  have HB:=hid (qcQ s 10 (by rw[rdE,if_neg n0,if_neg c1,if_neg n2,if_neg n3,if_neg (by omega),if_neg (by omega),if_pos (by omega)]) (by decide));generalize rdB s.data.toList 0=b0 at *;generalize rdB s.data.toList 2=b2 at *;generalize rdB s.data.toList 3=b3 at *;clear hl hs n0 n2 n3 c0 c1 c2 c3 c4 c5 c7 hA hN d3 d4 c6 c8 c9;go_enter func135,ntmps135;go_wp2_with fail;refine (CT.out _).mono ?_;rintro e W1⟨rfl,bk⟩;replace hb:=bws hb bk;clear bk CT;go_wp2_with fail
  (try simp only[Exit.inBlock,Exit.then])
  exact jpr (qaY rfl _ _ _) rfl ⟨by rw[HB.out.1,HB.out.2.1,HB.out.2.2.1,HB.out.2.2.2];rfl,hb⟩
 have d9:decide ((s.size:Int)<4+(256*(rdB s.data.toList 2:Int)+(rdB s.data.toList 3:Int)))=false:=by simp;omega
 have HB:=hid (qeq s (by rw[rdE,if_neg n0,if_neg c1,if_neg n2,if_neg n3,if_neg (by omega),if_neg (by omega),if_neg (by omega)]));rw[hA,hN]at HB;have w0:IntKind.i64.wrap (rdB s.data.toList 0:Int)=(rdB s.data.toList 0:Int):=by rw[IntKind.wrap_i64];omega
 have wn:IntKind.i64.wrap (4+(256*(rdB s.data.toList 2:Int)+(rdB s.data.toList 3:Int)))=4+(256*(rdB s.data.toList 2:Int)+(rdB s.data.toList 3:Int)):=by rw[IntKind.wrap_i64];omega
 generalize rdB s.data.toList 0=b0 at *;generalize rdB s.data.toList 2=b2 at *;generalize rdB s.data.toList 3=b3 at *;have f1:((4:Int)+(256*(b2:Int)+(b3:Int))).toNat=4+(256*b2+b3):=by omega
 have f2:(4:Int)+(256*(b2:Int)+(b3:Int))≤(s.size:Int):=by omega
 have f3:(4:Int)≤(4:Int)+(256*(b2:Int)+(b3:Int)):=by omega
 have f4:(0:Int)≤(4:Int)+(256*(b2:Int)+(b3:Int)):=by omega
 clear hl hs n0 n2 n3 c0 c1 c2 c3 c4 c5 c7 hA hN d3 d4 c6 c8 c9;go_enter func135,ntmps135;go_wp2_with fail;refine (CT.out _).mono ?_;rintro e W1⟨rfl,bk⟩;replace hb:=bws hb bk;clear bk CT;go_wp2_with fail;refine qao 17 84 [.val (.string s) [(0,.string s)],.val (.int .u8 (b0:Int)) [(70,.string s)],.val (.int .i64 (b0:Int)) [(71,.int .u8 (b0:Int))],.val (.string s) [(0,.string s)],.val (.int .i64 4) [(7,.int .i64 4)],.val (.int .i64 4) [(7,.int .i64 4)],.val (.int .i64 ((256*(b2:Int)+(b3:Int)))) [(6,.int .i64 ((256*(b2:Int)+(b3:Int))))],.val (.int .i64 (4+(256*(b2:Int)+(b3:Int)))) [(75,.int .i64 4),(76,.int .i64 ((256*(b2:Int)+(b3:Int))))],.val (.string (s.extract 4 (4+(256*b2+b3)))) [(73,.string s),(74,.int .i64 4),(77,.int .i64 (4+(256*(b2:Int)+(b3:Int))))],.val (.string s) [(0,.string s)],.val (.int .i64 4) [(7,.int .i64 4)],.val (.int .i64 ((256*(b2:Int)+(b3:Int)))) [(6,.int .i64 ((256*(b2:Int)+(b3:Int))))],.val (.int .i64 (4+(256*(b2:Int)+(b3:Int)))) [(80,.int .i64 4),(81,.int .i64 ((256*(b2:Int)+(b3:Int))))],.val (.string (s.extract (4+(256*b2+b3)) s.size)) [(79,.string s),(82,.int .i64 (4+(256*(b2:Int)+(b3:Int))))],.val (.int .i64 (b0:Int)) [(72,.int .i64 (b0:Int))],.val (.string (s.extract 4 (4+(256*b2+b3)))) [(78,.string (s.extract 4 (4+(256*b2+b3))))],.val (.string (s.extract (4+(256*b2+b3)) s.size)) [(83,.string (s.extract (4+(256*b2+b3)) s.size))]] (by kernel_rfl) (by kernel_rfl) rfl ?_ ?_ ?_
 ·simp only[take_succ_cons,List.take_zero,qaO,qaP,HeadSpec.val,HeadSpec.fresh,and_true];refine⟨?_,?_,?_,?_,?_,?_,?_,?_,?_,?_,?_,?_,?_,?_,?_,?_,?_⟩
  ·intro z0 w hb h;simp[go_sem,rd0 h,qaa]
  ·intro z0 w hb h;simp[go_sem,rd0 h,qaa,z2,z1,t0]
  ·intro z0 w hb h;simp[go_sem,rd0 h,qaa,w0]
  ·intro z0 w hb h;simp[go_sem,rd0 h,qaa]
  ·intro z0 w hb h;simp[go_sem,rd0 h,qaa]
  ·intro z0 w hb h;simp[go_sem,rd0 h,qaa]
  ·intro z0 w hb h;simp[go_sem,rd0 h,qaa]
  ·intro z0 w hb h;simp[go_sem,rd0 h,rd1 h,qaa,wn]
  ·intro z0 w hb h;simp[go_sem,rd0 h,rd1 h,rd2 h,qaa,f1,f2,f3,f4]
  ·intro z0 w hb h;simp[go_sem,rd0 h,qaa]
  ·intro z0 w hb h;simp[go_sem,rd0 h,qaa]
  ·intro z0 w hb h;simp[go_sem,rd0 h,qaa]
  ·intro z0 w hb h;simp[go_sem,rd0 h,rd1 h,qaa,wn]
  ·intro z0 w hb h;simp[go_sem,rd0 h,rd1 h,qaa,f1,f2,f4]
  ·intro z0 w hb h;simp[go_sem,rd0 h,qaa]
  ·intro z0 w hb h;simp[go_sem,rd0 h,qaa]
  ·intro z0 w hb h;simp[go_sem,rd0 h,qaa]
 ·simp[qay,qax,qaK,HeadSpec.val,HeadSpec.fresh,Act.put]
 ·simp only[zks,qaN,HeadSpec.val,HeadSpec.fresh,Act.put,zkt];intro X hx _;go_wp2_with fail
  (try simp only[Exit.inBlock,Exit.then])
  exact jpr (qaY rfl _ _ _) rfl ⟨by rw[HB.out.1,HB.out.2.1,HB.out.2.2.1,HB.out.2.2.2];rfl,hb.trans (hx.mono hb.size)⟩
theorem row_news(W:World)(B:Nat)(t:TypeId)(l:List Value)(fr:Nat×Nat)(h:W.heap[B]?=some (.cells l.toArray t fr)):∀ j u,l[j]?=some u→W.cell? ((⟨B,0,none⟩:Addr).add j)=some u:=fun j u hj=>by
 have z0:(⟨B,0,none⟩:Addr).add j=⟨B,j,none⟩:=by unfold Addr.add;split<;>simp_all
 rw[z0,jco W B _ _ t fr h];simpa using hj
theorem qcY(k:Nat)(h:k<256):((UInt8.ofNat k).toNat:Int)=(k:Int):=by simp;omega
theorem wrShort_cells(a n:Nat)(ha:a<256)(hn:n<128):[Value.int .u8 (a:Int)]++[.int .u8 (n:Int)]=Lib.byteCells (UInt8.ofNat a :: [UInt8.ofNat n]):=by
 have e0:=qcY a ha;have e1:((UInt8.ofNat n).toNat:Int)=(n:Int)%256:=by rw[UInt8.toNat_ofNat'];omega
 simp only[Lib.byteCells,List.map_cons,List.map_nil,List.cons_append,List.nil_append,e0,e1];rw[Int.emod_eq_of_lt (by omega) (by omega)]
theorem rwrShort_any(a:Nat)(b:ByteArray)(w:World)(ha:a<256)(ht:isT (a:Int)=true)(hn:b.size<128):Rt 117 #[.int .i64 (a:Int),.string b] w (.tuple #[.string (⟨(UInt8.ofNat a :: [UInt8.ofNat b.size]).toArray⟩++b),.int .i64 0]):=by
 unfold Rt;obtain⟨i0,hi,zg,zh,zi⟩:=info_parts qca;have CT:=hid (fun W=>qd2 (a:Int) W (by omega) (by omega));rw[ht]at CT;have HC:=hid (wrShort_cells a b.size ha hn);have d1:decide ((65536:Int)≤(b.size:Int))=false:=by simp;omega
 have d2:decide ((b.size:Int)<128)=true:=by simp;omega
 have wt:IntKind.u8.wrap (a:Int)=(a:Int):=by rw[IntKind.wrap_u8];omega
 have z8:2+b.size≤9223372036854775807:=by omega
 have hb:=Below.refl w.heap.size w;clear ht;go_enter func117,ntmps117;go_wp2_with fail;refine (CT.out w).mono ?_;rintro e W1⟨rfl,bk⟩;replace hb:=bws hb bk;clear bk CT;have z5:Below w.heap.size w (W1.alloc (.cells #[.int .u8 (a:Int)] 5)):=hb.alloc hb.size _;have z9:w.heap.size≤(W1.alloc (.cells #[.int .u8 (a:Int)] 5)).heap.size:=z5.size
 have za:=hid (show (W1.alloc (.cells #[.int .u8 (a:Int)] 5)).ownsRow W1.heap.size 5 1 (.slice (some ⟨W1.heap.size,0,none⟩) 1 1) 1 [.int .u8 (a:Int)] from
  ⟨rfl,.inr ⟨W1.heap.size,1,_,rfl,jlr _,qad W1 _,by omega,by unfold maxLen;omega,rfl,rfl⟩⟩)
 have z3:=hid (za.out.alloc (.cells #[.int .u8 (b.size:Int)] 5));have HN:=hid (row_news _ (W1.heap.size+1) 5 [.int .u8 (b.size:Int)] (0,0) (qaz W1 (.cells #[.int .u8 (a:Int)] 5) (.cells #[.int .u8 (b.size:Int)] 5)));have z6:Below w.heap.size w ((W1.alloc (.cells #[.int .u8 (a:Int)] 5)).alloc (.cells #[.int .u8 (b.size:Int)] 5)):=z5.alloc z9 _;have hW1:=hb.size;go_wp2_with (at_builtin;refine wpList_append_own _ rfl (.tmp 20) (.tmp 23) 41 rfl W1.heap.size 5 i0 (.int .u8 0) 1 1 underlying41 hi zg zh zi rfl (by omega) (.slice (some ⟨W1.heap.size,0,none⟩) 1 1) 1 _ rfl z3.out ⟨W1.heap.size+1,0,none⟩ 1 1 [.int .u8 (b.size:Int)] rfl rfl HN.out ?b2 ?b3 ?b4 ?b5 ?_)
 case b2=>intro u hu;simp at hu;(first|(subst hu;rfl)|(rcases hu with rfl|rfl<;>rfl)|(rcases hu with rfl|rfl|rfl<;>rfl))
 case b3=>unfold maxLen;omega
 case b4=>omega
 case b5=>simp;omega
 intro v1 W2 z1 z0 _;have zf:Below w.heap.size w W2:=z6.grown z0 z6.size (fun k hk=>by have:=(World.ownsRow.lt z3.out k hk).1;omega);have z2:=qdq z1;have e3:=HC.out;simp only[List.cons_append,List.nil_append]at e3 z2;rw[e3]at z2;obtain⟨g,cp,rfl,zb,_⟩:=z2.1.some (by rw[Lib.byteCells_length];simp);rw[Lib.byteCells_length];generalize z4:(UInt8.ofNat a :: [UInt8.ofNat b.size])=L at *;have hcv:=qbf W2 g cp L (fun j x hx=>zb.cells j _ (by simp[Lib.byteCells,hx]));clear zb z2 z1 z0 e3 HC za z3 HN hb z5 z6;have zc:L.toArray.size=2:=by rw[← z4];rfl
 have ze:=hid z4;clear z4;generalize z7:(⟨L.toArray⟩:ByteArray)=il at *;have zd:=hid z7;have hsum2:il.size+b.size≤9223372036854775807:=by rw[← z7];show L.toArray.size+b.size≤_;rw[zc];exact z8
 clear z7 zc;go_wp2_with fail;go_ret2;exact⟨by rw[ze.out,zd.out];rfl,zf⟩
theorem wrMid_cells(a n:Nat)(ha:a<256)(hn:128≤n∧n<256):[Value.int .u8 (a:Int)]++[.int .u8 129,.int .u8 (n:Int)]=Lib.byteCells (UInt8.ofNat a :: [129,UInt8.ofNat n]):=by
 have e0:=qcY a ha;have e1:((UInt8.ofNat n).toNat:Int)=(n:Int)%256:=by rw[UInt8.toNat_ofNat'];omega
 simp only[Lib.byteCells,List.map_cons,List.map_nil,List.cons_append,List.nil_append,e0,e1];rw[Int.emod_eq_of_lt (by omega) (by omega)];rfl
theorem rwrMid_any(a:Nat)(b:ByteArray)(w:World)(ha:a<256)(ht:isT (a:Int)=true)(hn:128≤b.size∧b.size<256):Rt 117 #[.int .i64 (a:Int),.string b] w (.tuple #[.string (⟨(UInt8.ofNat a :: [129,UInt8.ofNat b.size]).toArray⟩++b),.int .i64 0]):=by
 unfold Rt;obtain⟨i0,hi,zg,zh,zi⟩:=info_parts qca;have CT:=hid (fun W=>qd2 (a:Int) W (by omega) (by omega));rw[ht]at CT;have HC:=hid (wrMid_cells a b.size ha hn);have d1:decide ((65536:Int)≤(b.size:Int))=false:=by simp;omega
 have d2:decide ((b.size:Int)<128)=false:=by simp;omega
 have d3:decide ((b.size:Int)<256)=true:=by simp;omega
 have wt:IntKind.u8.wrap (a:Int)=(a:Int):=by rw[IntKind.wrap_u8];omega
 have z8:3+b.size≤9223372036854775807:=by omega
 have hb:=Below.refl w.heap.size w;clear ht;go_enter func117,ntmps117;go_wp2_with fail;refine (CT.out w).mono ?_;rintro e W1⟨rfl,bk⟩;replace hb:=bws hb bk;clear bk CT;have z5:Below w.heap.size w (W1.alloc (.cells #[.int .u8 (a:Int)] 5)):=hb.alloc hb.size _;have z9:w.heap.size≤(W1.alloc (.cells #[.int .u8 (a:Int)] 5)).heap.size:=z5.size
 have za:=hid (show (W1.alloc (.cells #[.int .u8 (a:Int)] 5)).ownsRow W1.heap.size 5 1 (.slice (some ⟨W1.heap.size,0,none⟩) 1 1) 1 [.int .u8 (a:Int)] from
  ⟨rfl,.inr ⟨W1.heap.size,1,_,rfl,jlr _,qad W1 _,by omega,by unfold maxLen;omega,rfl,rfl⟩⟩)
 have z3:=hid (za.out.alloc (.cells #[.int .u8 129,.int .u8 (b.size:Int)] 5));have HN:=hid (row_news _ (W1.heap.size+1) 5 [.int .u8 129,.int .u8 (b.size:Int)] (0,0) (qaz W1 (.cells #[.int .u8 (a:Int)] 5) (.cells #[.int .u8 129,.int .u8 (b.size:Int)] 5)));have z6:Below w.heap.size w ((W1.alloc (.cells #[.int .u8 (a:Int)] 5)).alloc (.cells #[.int .u8 129,.int .u8 (b.size:Int)] 5)):=z5.alloc z9 _;have hW1:=hb.size;go_wp2_with (at_builtin;refine wpList_append_own _ rfl (.tmp 27) (.tmp 30) 41 rfl W1.heap.size 5 i0 (.int .u8 0) 1 1 underlying41 hi zg zh zi rfl (by omega) (.slice (some ⟨W1.heap.size,0,none⟩) 1 1) 1 _ rfl z3.out ⟨W1.heap.size+1,0,none⟩ 2 2 [.int .u8 129,.int .u8 (b.size:Int)] rfl rfl HN.out ?b2 ?b3 ?b4 ?b5 ?_)
 case b2=>intro u hu;simp at hu;(first|(subst hu;rfl)|(rcases hu with rfl|rfl<;>rfl)|(rcases hu with rfl|rfl|rfl<;>rfl))
 case b3=>unfold maxLen;omega
 case b4=>omega
 case b5=>simp;omega
 intro v1 W2 z1 z0 _;have zf:Below w.heap.size w W2:=z6.grown z0 z6.size (fun k hk=>by have:=(World.ownsRow.lt z3.out k hk).1;omega);have z2:=qdq z1;have e3:=HC.out;simp only[List.cons_append,List.nil_append]at e3 z2;rw[e3]at z2;obtain⟨g,cp,rfl,zb,_⟩:=z2.1.some (by rw[Lib.byteCells_length];simp);rw[Lib.byteCells_length];generalize z4:(UInt8.ofNat a :: [129,UInt8.ofNat b.size])=L at *;have hcv:=qbf W2 g cp L (fun j x hx=>zb.cells j _ (by simp[Lib.byteCells,hx]));clear zb z2 z1 z0 e3 HC za z3 HN hb z5 z6;have zc:L.toArray.size=3:=by rw[← z4];rfl
 have ze:=hid z4;clear z4;generalize z7:(⟨L.toArray⟩:ByteArray)=il at *;have zd:=hid z7;have hsum2:il.size+b.size≤9223372036854775807:=by rw[← z7];show L.toArray.size+b.size≤_;rw[zc];exact z8
 clear z7 zc;go_wp2_with fail;go_ret2;exact⟨by rw[ze.out,zd.out];rfl,zf⟩
theorem wrLong_cells(a n:Nat)(ha:a<256)(hn:256≤n∧n<65536):[Value.int .u8 (a:Int)]++[.int .u8 130,.int .u8 ((n:Int)/256),.int .u8 ((n:Int)%256)]=Lib.byteCells (UInt8.ofNat a :: [130,UInt8.ofNat (n/256),UInt8.ofNat n]):=by
 have e0:=qcY a ha;have e1:((UInt8.ofNat n).toNat:Int)=(n:Int)%256:=by rw[UInt8.toNat_ofNat'];omega
 simp only[Lib.byteCells,List.map_cons,List.map_nil,List.cons_append,List.nil_append,e0,e1];rw[qcY (n/256) (by omega)];rfl
theorem rwrLong_any(a:Nat)(b:ByteArray)(w:World)(ha:a<256)(ht:isT (a:Int)=true)(hn:256≤b.size∧b.size<65536):Rt 117 #[.int .i64 (a:Int),.string b] w (.tuple #[.string (⟨(UInt8.ofNat a :: [130,UInt8.ofNat (b.size/256),UInt8.ofNat b.size]).toArray⟩++b),.int .i64 0]):=by
 unfold Rt;obtain⟨i0,hi,zg,zh,zi⟩:=info_parts qca;have CT:=hid (fun W=>qd2 (a:Int) W (by omega) (by omega));rw[ht]at CT;have HC:=hid (wrLong_cells a b.size ha hn);have d1:decide ((65536:Int)≤(b.size:Int))=false:=by simp;omega
 have d2:decide ((b.size:Int)<128)=false:=by simp;omega
 have d3:decide ((b.size:Int)<256)=false:=by simp;omega
 have wt:IntKind.u8.wrap (a:Int)=(a:Int):=by rw[IntKind.wrap_u8];omega
 have z8:4+b.size≤9223372036854775807:=by omega
 have hb:=Below.refl w.heap.size w;clear ht;go_enter func117,ntmps117;go_wp2_with fail;refine (CT.out w).mono ?_;rintro e W1⟨rfl,bk⟩;replace hb:=bws hb bk;clear bk CT;have z5:Below w.heap.size w (W1.alloc (.cells #[.int .u8 (a:Int)] 5)):=hb.alloc hb.size _;have z9:w.heap.size≤(W1.alloc (.cells #[.int .u8 (a:Int)] 5)).heap.size:=z5.size
 have za:=hid (show (W1.alloc (.cells #[.int .u8 (a:Int)] 5)).ownsRow W1.heap.size 5 1 (.slice (some ⟨W1.heap.size,0,none⟩) 1 1) 1 [.int .u8 (a:Int)] from
  ⟨rfl,.inr ⟨W1.heap.size,1,_,rfl,jlr _,qad W1 _,by omega,by unfold maxLen;omega,rfl,rfl⟩⟩)
 have z3:=hid (za.out.alloc (.cells #[.int .u8 130,.int .u8 ((b.size:Int)/256),.int .u8 ((b.size:Int)%256)] 5));have HN:=hid (row_news _ (W1.heap.size+1) 5 [.int .u8 130,.int .u8 ((b.size:Int)/256),.int .u8 ((b.size:Int)%256)] (0,0) (qaz W1 (.cells #[.int .u8 (a:Int)] 5) (.cells #[.int .u8 130,.int .u8 ((b.size:Int)/256),.int .u8 ((b.size:Int)%256)] 5)));have z6:Below w.heap.size w ((W1.alloc (.cells #[.int .u8 (a:Int)] 5)).alloc (.cells #[.int .u8 130,.int .u8 ((b.size:Int)/256),.int .u8 ((b.size:Int)%256)] 5)):=z5.alloc z9 _;have hW1:=hb.size;go_wp2_with (at_builtin;refine wpList_append_own _ rfl (.tmp 32) (.tmp 39) 41 rfl W1.heap.size 5 i0 (.int .u8 0) 1 1 underlying41 hi zg zh zi rfl (by omega) (.slice (some ⟨W1.heap.size,0,none⟩) 1 1) 1 _ rfl z3.out ⟨W1.heap.size+1,0,none⟩ 3 3 [.int .u8 130,.int .u8 ((b.size:Int)/256),.int .u8 ((b.size:Int)%256)] rfl rfl HN.out ?b2 ?b3 ?b4 ?b5 ?_)
 case b2=>intro u hu;simp at hu;(first|(subst hu;rfl)|(rcases hu with rfl|rfl<;>rfl)|(rcases hu with rfl|rfl|rfl<;>rfl))
 case b3=>unfold maxLen;omega
 case b4=>omega
 case b5=>simp;omega
 intro v1 W2 z1 z0 _;have zf:Below w.heap.size w W2:=z6.grown z0 z6.size (fun k hk=>by have:=(World.ownsRow.lt z3.out k hk).1;omega);have z2:=qdq z1;have e3:=HC.out;simp only[List.cons_append,List.nil_append]at e3 z2;rw[e3]at z2;obtain⟨g,cp,rfl,zb,_⟩:=z2.1.some (by rw[Lib.byteCells_length];simp);rw[Lib.byteCells_length];generalize z4:(UInt8.ofNat a :: [130,UInt8.ofNat (b.size/256),UInt8.ofNat b.size])=L at *;have hcv:=qbf W2 g cp L (fun j x hx=>zb.cells j _ (by simp[Lib.byteCells,hx]));clear zb z2 z1 z0 e3 HC za z3 HN hb z5 z6;have zc:L.toArray.size=4:=by rw[← z4];rfl
 have ze:=hid z4;clear z4;generalize z7:(⟨L.toArray⟩:ByteArray)=il at *;have zd:=hid z7;have hsum2:il.size+b.size≤9223372036854775807:=by rw[← z7];show L.toArray.size+b.size≤_;rw[zc];exact z8
 clear z7 zc;go_wp2_with fail;go_ret2;exact⟨by rw[ze.out,zd.out];rfl,zf⟩
theorem rwrBad_any(n:Int)(b:ByteArray)(w:World)(h0:-9223372036854775808≤n)(h1:n≤9223372036854775807)(ht:isT n=false):Rt 117 #[.int .i64 n,.string b] w (.tuple #[.string ⟨#[]⟩,.int .i64 1]):=by
 unfold Rt;have CT:=hid (fun W=>qd2 n W h0 h1);rw[ht]at CT;have hb:=Below.refl w.heap.size w;clear ht h0 h1;go_enter func117,ntmps117;go_wp2_with fail;refine (CT.out w).mono ?_;rintro e W1⟨rfl,bk⟩;go_wp2_with fail;go_ret2;exact⟨rfl,hb.trans (bk.mono hb.size)⟩
theorem rwrBig_any(n:Int)(b:ByteArray)(w:World)(h0:-9223372036854775808≤n)(h1:n≤9223372036854775807)(ht:isT n=true)(hb':65536≤b.size):Rt 117 #[.int .i64 n,.string b] w (.tuple #[.string ⟨#[]⟩,.int .i64 13]):=by
 unfold Rt;have CT:=hid (fun W=>qd2 n W h0 h1);rw[ht]at CT;have d1:decide ((65536:Int)≤(b.size:Int))=true:=by simp;omega
 have hb:=Below.refl w.heap.size w;clear ht h0 h1;go_enter func117,ntmps117;go_wp2_with fail;refine (CT.out w).mono ?_;rintro e W1⟨rfl,bk⟩;go_wp2_with fail;go_ret2;exact⟨rfl,hb.trans (bk.mono hb.size)⟩
theorem qdr(n:Int)(b:ByteArray)(w:World)(h0:-9223372036854775808≤n)(h1:n≤9223372036854775807):Rt 117 #[.int .i64 n,.string b] w (.tuple #[.string (wrX n b),.int .i64 (wrE n b)]):=by
 unfold Rt
 cases ht:isT n with
 | false=>
  have e1:wrE n b=1:=by rw[wrE,ht];rfl
  rw[wrX,e1,if_neg (by decide)];exact rwrBad_any n b w h0 h1 ht
 | true=>
  by_cases z0:65536≤b.size
  ·have e1:wrE n b=13:=by rw[wrE,ht,if_pos rfl,if_neg (by omega)]
   rw[wrX,e1,if_neg (by decide)];exact rwrBig_any n b w h0 h1 ht z0
  ·have e1:wrE n b=0:=by rw[wrE,ht,if_pos rfl,if_pos (by omega)]
   rw[wrX,e1,if_pos rfl,wrL,lenL];have hr:0≤n∧n≤255:=by
    have h:=ht;simp only[isT,Bool.and_eq_true,decide_eq_true_eq]at h;exact h.1
   obtain⟨a,rfl⟩:∃ a:Nat,n=(a:Int):=⟨n.toNat,by omega⟩;rw[Int.toNat_natCast];by_cases c1:b.size<128
   ·rw[if_pos c1];exact rwrShort_any a b w (by omega) ht c1
   ·rw[if_neg c1];by_cases c2:b.size<256
    ·rw[if_pos c2];exact rwrMid_any a b w (by omega) ht ⟨by omega,c2⟩
    ·rw[if_neg c2];exact rwrLong_any a b w (by omega) ht ⟨by omega,by omega⟩
def qdD(l:List UInt8):Prop:=1<l.length∧((rdB l 0=0∧rdB l 1<128)∨(rdB l 0=255∧128≤rdB l 1))
instance (l:List UInt8):Decidable (qdD l):=by unfold qdD;infer_instance
def riE(l:List UInt8):Int:=if l.length=0 then 10 else if qdD l then 11 else if 8<l.length then 13 else 0
def riN(l:List UInt8):Nat→Int
 | 0=>if 128≤rdB l 0 then -1 else 0
 | k+1=>riN l k*256+(rdB l k:Int)
def riV(s:ByteArray):Int:=if riE s.data.toList=0 then riN s.data.toList s.data.toList.length else 0
def qd1(s:ByteArray):Int:=riE s.data.toList
theorem riN_first(l:List UInt8):-128≤riN l 1∧riN l 1<128:=by
 have h:=qbA l 0;rw[riN,riN];split<;>omega
theorem riN_bound(l:List UInt8):∀ k,-(128*256^k:Nat)≤riN l (k+1)∧riN l (k+1)<(128*256^k:Nat)
 | 0=>riN_first l
 | k+1=>by
  have h:=qbA l (k+1);have ih:=riN_bound l k;rw[riN,Nat.pow_succ];omega
theorem qdR(l:List UInt8)(k:Nat)(h:k≤7):-36028797018963968≤riN l k∧riN l k<36028797018963968:=by
 cases k with
 | zero=>rw[riN];split<;>omega
 | succ k=>
  have ih:=riN_bound l k;have:256^k≤256^6:=Nat.pow_le_pow_right (by decide) (by omega);have e6:(256:Nat)^6=281474976710656:=by decide
  omega
theorem qeo(m:Int)(b:Nat)(hb:b<256)(h0:-36028797018963968≤m)(h1:m<36028797018963968):bits .or .i64 (m*256) (b:Int)=m*256+(b:Int):=by
 have e1:(BitVec.ofInt 64 (m*256)).toNat=2^8*(m%72057594037927936).toNat:=by rw[BitVec.toNat_ofInt];omega
 have e2:(BitVec.ofInt 64 (b:Int)).toNat=b:=by rw[BitVec.toNat_ofInt];omega
 have h:=Nat.two_pow_add_eq_or_of_lt (show b<2^8 by omega) (m%72057594037927936).toNat;show IntKind.i64.wrap (((BitVec.ofInt 64 (m*256) ||| BitVec.ofInt 64 (b:Int)).toNat:Nat):Int)=_;rw[BitVec.toNat_or,e1,e2,← h,IntKind.wrap_i64];omega
theorem qeI(s:ByteArray)(e:Int)(h:riE s.data.toList=e)(he:e≠0):riV s=0∧qd1 s=e:=⟨if_neg (by rw[h];exact he),h⟩
theorem rReadInt_any(s:ByteArray)(w:World)(hs:s.size≤1000000000):Rt 78 #[.string s] w (.tuple #[.int .i64 (riV s),.int .i64 (qd1 s)]):=by
 unfold Rt;have hl:s.data.toList.length=s.size:=(Lib.size_eq s).symm;have hb:=Below.refl w.heap.size w;by_cases c0:s.size=0
 ·have q0:(s.toList==[])=true:=by rw[Lib.toList_data];have:s.data.toList=[]:=List.length_eq_zero_iff.1 (by omega);rw[this];rfl
  have HB:=hid (qeI s 10 (by rw[riE,if_pos (by omega)]) (by decide));generalize rdB s.data.toList 0=b0 at *;generalize rdB s.data.toList 1=b1 at *;clear hl hs;go_enter func78,ntmps78;go_wp2_with fail;go_ret2;exact⟨by rw[HB.out.1,HB.out.2];rfl,hb⟩
 have q0:(s.toList==[])=false:=by rw[Lib.toList_data];cases h:s.data.toList with|nil=>rw[h]at hl;exact absurd hl.symm c0|cons a r=>rfl
 have z4:0<s.size:=by omega
 have hi0:(0:Int)<(s.size:Int):=by omega
 have t0:=qce s 0 z4;have h0:=qbA s.data.toList 0;have n0:¬ s.data.toList.length=0:=by omega
 by_cases c1:s.size=1
 ·have d1:decide ((1:Int)<(s.size:Int))=false:=by simp;omega
  have nb:¬ qdD s.data.toList:=fun h=>by have:=h.1;omega
  have d8:decide ((8:Int)<(s.size:Int))=false:=by simp;omega
  by_cases c5:128≤rdB s.data.toList 0
  ·skip;have HV:Hid (riV s=riN s.data.toList s.size∧qd1 s=0):=hid (by have h:riE s.data.toList=0:=(by rw[riE,if_neg n0,if_neg nb,if_neg (by omega)]);exact⟨by rw[riV,if_pos h,hl],h⟩);have HI:Hid (riN s.data.toList 0 = -1):=hid (by rw[riN,if_pos (by omega)]);have d9:decide (128≤(rdB s.data.toList 0:Int))=true:=by simp;omega
   have HR:=hid (fun k (h:k<s.size)=>qce s k h);have HS:=hid (fun k=>qdR s.data.toList k);have HL:=hid (fun k=>qbA s.data.toList k);have HN:Hid (∀ k,riN s.data.toList (k+1)=riN s.data.toList k*256+(rdB s.data.toList k:Int)):=hid (fun k=>rfl);have z3:s.size≤8:=by omega
   skip;clear hl hs n0 nb c5 c0 h0;generalize rdB s.data.toList 1=b1 at *;obtain⟨b0,eb⟩:∃ b0,rdB s.data.toList 0=b0:=⟨_,rfl⟩;rw[eb]at t0 d9;clear eb;go_enter func78,ntmps78;go_wp2_with fail
   go_loopw [4,5] (fun nv iv wr=>∃ k:Nat,k≤s.size∧nv=.int .i64 (riN s.data.toList k)∧iv=.int .i64 (k:Int)∧Below w.heap.size w wr) (fun _ iv _=>s.size-(intOf iv).toNat)
   case atStart=>exact⟨0,by omega,by rw[HI.out],rfl,hb⟩
   case round=>
    clear hb;obtain⟨k,hk,rfl,rfl,hb⟩:=hrel;by_cases z1:k<s.size
    ·have hd:decide ((k:Int)<(s.size:Int))=true:=by simp;omega
     have z2:(k:Int)<(s.size:Int):=by omega
     have tk:=HR.out k z1;have z0:=HL.out k;obtain⟨m0,m1⟩:=HS.out k (by omega);have ho:=qeo (riN s.data.toList k) (rdB s.data.toList k) z0 m0 m1;rw[← HN.out k]at ho;have HX:Hid (∃ y,riN s.data.toList (k+1)=y):=hid ⟨_,rfl⟩;obtain⟨y,hy⟩:=HX.out;rw[hy]at ho;have HY:=hid hy;clear hy HX;have ws:IntKind.i64.wrap (riN s.data.toList k*256)=riN s.data.toList k*256:=by rw[IntKind.wrap_i64];omega
     generalize riN s.data.toList k=m at *;generalize rdB s.data.toList k=bk at *;have wk:IntKind.i64.wrap (bk:Int)=(bk:Int):=by rw[IntKind.wrap_i64];omega
     go_wp2_with fail;go_roundw
     case rel=>exact⟨k+1,by omega,by rw[HY.out],by go_num,hb⟩
     case measure=>simp[intOf];omega
    ·have hd:decide ((k:Int)<(s.size:Int))=false:=by simp;omega
     obtain rfl:k=s.size:=by omega
     obtain⟨y,hy⟩:∃ y,riN s.data.toList s.size=y:=⟨_,rfl⟩;rw[hy]at HV;have HY:=hid hy;skip;go_wp2_with fail;go_ret2;exact⟨by rw[HV.out.1,HV.out.2,← HY.out];rfl,hb⟩
  ·skip;have HV:Hid (riV s=riN s.data.toList s.size∧qd1 s=0):=hid (by have h:riE s.data.toList=0:=(by rw[riE,if_neg n0,if_neg nb,if_neg (by omega)]);exact⟨by rw[riV,if_pos h,hl],h⟩);have HI:Hid (riN s.data.toList 0=0):=hid (by rw[riN,if_neg (by omega)]);have d9:decide (128≤(rdB s.data.toList 0:Int))=false:=by simp;omega
   have HR:=hid (fun k (h:k<s.size)=>qce s k h);have HS:=hid (fun k=>qdR s.data.toList k);have HL:=hid (fun k=>qbA s.data.toList k);have HN:Hid (∀ k,riN s.data.toList (k+1)=riN s.data.toList k*256+(rdB s.data.toList k:Int)):=hid (fun k=>rfl);have z3:s.size≤8:=by omega
   skip;clear hl hs n0 nb c5 c0 h0;generalize rdB s.data.toList 1=b1 at *;obtain⟨b0,eb⟩:∃ b0,rdB s.data.toList 0=b0:=⟨_,rfl⟩;rw[eb]at t0 d9;clear eb;go_enter func78,ntmps78;go_wp2_with fail
   go_loopw [4,5] (fun nv iv wr=>∃ k:Nat,k≤s.size∧nv=.int .i64 (riN s.data.toList k)∧iv=.int .i64 (k:Int)∧Below w.heap.size w wr) (fun _ iv _=>s.size-(intOf iv).toNat)
   case atStart=>exact⟨0,by omega,by rw[HI.out],rfl,hb⟩
   case round=>
    clear hb;obtain⟨k,hk,rfl,rfl,hb⟩:=hrel;by_cases z1:k<s.size
    ·have hd:decide ((k:Int)<(s.size:Int))=true:=by simp;omega
     have z2:(k:Int)<(s.size:Int):=by omega
     have tk:=HR.out k z1;have z0:=HL.out k;obtain⟨m0,m1⟩:=HS.out k (by omega);have ho:=qeo (riN s.data.toList k) (rdB s.data.toList k) z0 m0 m1;rw[← HN.out k]at ho;have HX:Hid (∃ y,riN s.data.toList (k+1)=y):=hid ⟨_,rfl⟩;obtain⟨y,hy⟩:=HX.out;rw[hy]at ho;have HY:=hid hy;clear hy HX;have ws:IntKind.i64.wrap (riN s.data.toList k*256)=riN s.data.toList k*256:=by rw[IntKind.wrap_i64];omega
     generalize riN s.data.toList k=m at *;generalize rdB s.data.toList k=bk at *;have wk:IntKind.i64.wrap (bk:Int)=(bk:Int):=by rw[IntKind.wrap_i64];omega
     go_wp2_with fail;go_roundw
     case rel=>exact⟨k+1,by omega,by rw[HY.out],by go_num,hb⟩
     case measure=>simp[intOf];omega
    ·have hd:decide ((k:Int)<(s.size:Int))=false:=by simp;omega
     obtain rfl:k=s.size:=by omega
     obtain⟨y,hy⟩:∃ y,riN s.data.toList s.size=y:=⟨_,rfl⟩;rw[hy]at HV;have HY:=hid hy;skip;go_wp2_with fail;go_ret2;exact⟨by rw[HV.out.1,HV.out.2,← HY.out];rfl,hb⟩
 have d1:decide ((1:Int)<(s.size:Int))=true:=by simp;omega
 have z5:1<s.size:=by omega
 have hi1:(1:Int)<(s.size:Int):=by omega
 have t1:=qce s 1 z5;have h1:=qbA s.data.toList 1;by_cases c2:rdB s.data.toList 0=0
 ·have f0:((rdB s.data.toList 0:Int)==0)=true:=by simp;omega
  have f1:((rdB s.data.toList 0:Int)==255)=false:=by simp;omega
  by_cases c3:rdB s.data.toList 1<128
  ·have f2:decide ((rdB s.data.toList 1:Int)<128)=true:=by simp;omega
   have HB:=hid (qeI s 11 (by rw[riE,if_neg n0,if_pos ⟨by omega,.inl ⟨c2,c3⟩⟩]) (by decide));generalize rdB s.data.toList 0=b0 at *;generalize rdB s.data.toList 1=b1 at *;clear hl hs n0 c0 c1 c2 c3;go_enter func78,ntmps78;go_wp2_with fail;go_ret2;exact⟨by rw[HB.out.1,HB.out.2];rfl,hb⟩
  have f2:decide ((rdB s.data.toList 1:Int)<128)=false:=by simp;omega
  have nb:¬ qdD s.data.toList:=fun h=>by rcases h.2 with h|h<;>omega
  by_cases c8:8<s.size
  ·have d8:decide ((8:Int)<(s.size:Int))=true:=by simp;omega
   have HB:=hid (qeI s 13 (by rw[riE,if_neg n0,if_neg nb,if_pos (by omega)]) (by decide));generalize rdB s.data.toList 0=b0 at *;generalize rdB s.data.toList 1=b1 at *;clear hl hs n0 nb c0 c1 c8;go_enter func78,ntmps78;go_wp2_with fail;go_ret2;exact⟨by rw[HB.out.1,HB.out.2];rfl,hb⟩
  have d8:decide ((8:Int)<(s.size:Int))=false:=by simp;omega
  have HV:Hid (riV s=riN s.data.toList s.size∧qd1 s=0):=hid (by have h:riE s.data.toList=0:=(by rw[riE,if_neg n0,if_neg nb,if_neg (by omega)]);exact⟨by rw[riV,if_pos h,hl],h⟩);have HI:Hid (riN s.data.toList 0=0):=hid (by rw[riN,if_neg (by omega)]);have d9:decide (128≤(rdB s.data.toList 0:Int))=false:=by simp;omega
  have HR:=hid (fun k (h:k<s.size)=>qce s k h);have HS:=hid (fun k=>qdR s.data.toList k);have HL:=hid (fun k=>qbA s.data.toList k);have HN:Hid (∀ k,riN s.data.toList (k+1)=riN s.data.toList k*256+(rdB s.data.toList k:Int)):=hid (fun k=>rfl);have z3:s.size≤8:=by omega
  skip;clear hl hs n0 nb c0 c1 c2 c3 c8 h0;generalize rdB s.data.toList 1=b1 at *;obtain⟨b0,eb⟩:∃ b0,rdB s.data.toList 0=b0:=⟨_,rfl⟩;rw[eb]at t0 d9 f0 f1;clear eb;go_enter func78,ntmps78;go_wp2_with fail
  go_loopw [4,5] (fun nv iv wr=>∃ k:Nat,k≤s.size∧nv=.int .i64 (riN s.data.toList k)∧iv=.int .i64 (k:Int)∧Below w.heap.size w wr) (fun _ iv _=>s.size-(intOf iv).toNat)
  case atStart=>exact⟨0,by omega,by rw[HI.out],rfl,hb⟩
  case round=>
   clear hb;obtain⟨k,hk,rfl,rfl,hb⟩:=hrel;by_cases z1:k<s.size
   ·have hd:decide ((k:Int)<(s.size:Int))=true:=by simp;omega
    have z2:(k:Int)<(s.size:Int):=by omega
    have tk:=HR.out k z1;have z0:=HL.out k;obtain⟨m0,m1⟩:=HS.out k (by omega);have ho:=qeo (riN s.data.toList k) (rdB s.data.toList k) z0 m0 m1;rw[← HN.out k]at ho;have HX:Hid (∃ y,riN s.data.toList (k+1)=y):=hid ⟨_,rfl⟩;obtain⟨y,hy⟩:=HX.out;rw[hy]at ho;have HY:=hid hy;clear hy HX;have ws:IntKind.i64.wrap (riN s.data.toList k*256)=riN s.data.toList k*256:=by rw[IntKind.wrap_i64];omega
    generalize riN s.data.toList k=m at *;generalize rdB s.data.toList k=bk at *;have wk:IntKind.i64.wrap (bk:Int)=(bk:Int):=by rw[IntKind.wrap_i64];omega
    go_wp2_with fail;go_roundw
    case rel=>exact⟨k+1,by omega,by rw[HY.out],by go_num,hb⟩
    case measure=>simp[intOf];omega
   ·have hd:decide ((k:Int)<(s.size:Int))=false:=by simp;omega
    obtain rfl:k=s.size:=by omega
    obtain⟨y,hy⟩:∃ y,riN s.data.toList s.size=y:=⟨_,rfl⟩;rw[hy]at HV;have HY:=hid hy;skip;go_wp2_with fail;go_ret2;exact⟨by rw[HV.out.1,HV.out.2,← HY.out];rfl,hb⟩
 have f0:((rdB s.data.toList 0:Int)==0)=false:=by simp;omega
 by_cases c4:rdB s.data.toList 0=255
 ·have f1:((rdB s.data.toList 0:Int)==255)=true:=by simp;omega
  by_cases c3:128≤rdB s.data.toList 1
  ·have f2:decide (128≤(rdB s.data.toList 1:Int))=true:=by simp;omega
   have HB:=hid (qeI s 11 (by rw[riE,if_neg n0,if_pos ⟨by omega,.inr ⟨c4,c3⟩⟩]) (by decide));generalize rdB s.data.toList 0=b0 at *;generalize rdB s.data.toList 1=b1 at *;clear hl hs n0 c0 c1 c2 c3 c4;go_enter func78,ntmps78;go_wp2_with fail;go_ret2;exact⟨by rw[HB.out.1,HB.out.2];rfl,hb⟩
  have f2:decide (128≤(rdB s.data.toList 1:Int))=false:=by simp;omega
  have nb:¬ qdD s.data.toList:=fun h=>by rcases h.2 with h|h<;>omega
  by_cases c8:8<s.size
  ·have d8:decide ((8:Int)<(s.size:Int))=true:=by simp;omega
   have HB:=hid (qeI s 13 (by rw[riE,if_neg n0,if_neg nb,if_pos (by omega)]) (by decide));generalize rdB s.data.toList 0=b0 at *;generalize rdB s.data.toList 1=b1 at *;clear hl hs n0 nb c0 c1 c8;go_enter func78,ntmps78;go_wp2_with fail;go_ret2;exact⟨by rw[HB.out.1,HB.out.2];rfl,hb⟩
  have d8:decide ((8:Int)<(s.size:Int))=false:=by simp;omega
  have HV:Hid (riV s=riN s.data.toList s.size∧qd1 s=0):=hid (by have h:riE s.data.toList=0:=(by rw[riE,if_neg n0,if_neg nb,if_neg (by omega)]);exact⟨by rw[riV,if_pos h,hl],h⟩);have HI:Hid (riN s.data.toList 0 = -1):=hid (by rw[riN,if_pos (by omega)]);have d9:decide (128≤(rdB s.data.toList 0:Int))=true:=by simp;omega
  have HR:=hid (fun k (h:k<s.size)=>qce s k h);have HS:=hid (fun k=>qdR s.data.toList k);have HL:=hid (fun k=>qbA s.data.toList k);have HN:Hid (∀ k,riN s.data.toList (k+1)=riN s.data.toList k*256+(rdB s.data.toList k:Int)):=hid (fun k=>rfl);have z3:s.size≤8:=by omega
  skip;clear hl hs n0 nb c0 c1 c2 c3 c4 c8 h0;generalize rdB s.data.toList 1=b1 at *;obtain⟨b0,eb⟩:∃ b0,rdB s.data.toList 0=b0:=⟨_,rfl⟩;rw[eb]at t0 d9 f0 f1;clear eb;go_enter func78,ntmps78;go_wp2_with fail
  go_loopw [4,5] (fun nv iv wr=>∃ k:Nat,k≤s.size∧nv=.int .i64 (riN s.data.toList k)∧iv=.int .i64 (k:Int)∧Below w.heap.size w wr) (fun _ iv _=>s.size-(intOf iv).toNat)
  case atStart=>exact⟨0,by omega,by rw[HI.out],rfl,hb⟩
  case round=>
   clear hb;obtain⟨k,hk,rfl,rfl,hb⟩:=hrel;by_cases z1:k<s.size
   ·have hd:decide ((k:Int)<(s.size:Int))=true:=by simp;omega
    have z2:(k:Int)<(s.size:Int):=by omega
    have tk:=HR.out k z1;have z0:=HL.out k;obtain⟨m0,m1⟩:=HS.out k (by omega);have ho:=qeo (riN s.data.toList k) (rdB s.data.toList k) z0 m0 m1;rw[← HN.out k]at ho;have HX:Hid (∃ y,riN s.data.toList (k+1)=y):=hid ⟨_,rfl⟩;obtain⟨y,hy⟩:=HX.out;rw[hy]at ho;have HY:=hid hy;clear hy HX;have ws:IntKind.i64.wrap (riN s.data.toList k*256)=riN s.data.toList k*256:=by rw[IntKind.wrap_i64];omega
    generalize riN s.data.toList k=m at *;generalize rdB s.data.toList k=bk at *;have wk:IntKind.i64.wrap (bk:Int)=(bk:Int):=by rw[IntKind.wrap_i64];omega
    go_wp2_with fail;go_roundw
    case rel=>exact⟨k+1,by omega,by rw[HY.out],by go_num,hb⟩
    case measure=>simp[intOf];omega
   ·have hd:decide ((k:Int)<(s.size:Int))=false:=by simp;omega
    obtain rfl:k=s.size:=by omega
    obtain⟨y,hy⟩:∃ y,riN s.data.toList s.size=y:=⟨_,rfl⟩;rw[hy]at HV;have HY:=hid hy;skip;go_wp2_with fail;go_ret2;exact⟨by rw[HV.out.1,HV.out.2,← HY.out];rfl,hb⟩
 have f1:((rdB s.data.toList 0:Int)==255)=false:=by simp;omega
 have nb:¬ qdD s.data.toList:=fun h=>by rcases h.2 with h|h<;>omega
 by_cases c8:8<s.size
 ·have d8:decide ((8:Int)<(s.size:Int))=true:=by simp;omega
  have HB:=hid (qeI s 13 (by rw[riE,if_neg n0,if_neg nb,if_pos (by omega)]) (by decide));generalize rdB s.data.toList 0=b0 at *;generalize rdB s.data.toList 1=b1 at *;clear hl hs n0 nb c0 c1 c8;go_enter func78,ntmps78;go_wp2_with fail;go_ret2;exact⟨by rw[HB.out.1,HB.out.2];rfl,hb⟩
 have d8:decide ((8:Int)<(s.size:Int))=false:=by simp;omega
 by_cases c5:128≤rdB s.data.toList 0
 ·skip;have HV:Hid (riV s=riN s.data.toList s.size∧qd1 s=0):=hid (by have h:riE s.data.toList=0:=(by rw[riE,if_neg n0,if_neg nb,if_neg (by omega)]);exact⟨by rw[riV,if_pos h,hl],h⟩);have HI:Hid (riN s.data.toList 0 = -1):=hid (by rw[riN,if_pos (by omega)]);have d9:decide (128≤(rdB s.data.toList 0:Int))=true:=by simp;omega
  have HR:=hid (fun k (h:k<s.size)=>qce s k h);have HS:=hid (fun k=>qdR s.data.toList k);have HL:=hid (fun k=>qbA s.data.toList k);have HN:Hid (∀ k,riN s.data.toList (k+1)=riN s.data.toList k*256+(rdB s.data.toList k:Int)):=hid (fun k=>rfl);have z3:s.size≤8:=by omega
  skip;clear hl hs n0 nb c0 c1 c2 c4 c8 h0 c5;generalize rdB s.data.toList 1=b1 at *;obtain⟨b0,eb⟩:∃ b0,rdB s.data.toList 0=b0:=⟨_,rfl⟩;rw[eb]at t0 d9 f0 f1;clear eb;go_enter func78,ntmps78;go_wp2_with fail
  go_loopw [4,5] (fun nv iv wr=>∃ k:Nat,k≤s.size∧nv=.int .i64 (riN s.data.toList k)∧iv=.int .i64 (k:Int)∧Below w.heap.size w wr) (fun _ iv _=>s.size-(intOf iv).toNat)
  case atStart=>exact⟨0,by omega,by rw[HI.out],rfl,hb⟩
  case round=>
   clear hb;obtain⟨k,hk,rfl,rfl,hb⟩:=hrel;by_cases z1:k<s.size
   ·have hd:decide ((k:Int)<(s.size:Int))=true:=by simp;omega
    have z2:(k:Int)<(s.size:Int):=by omega
    have tk:=HR.out k z1;have z0:=HL.out k;obtain⟨m0,m1⟩:=HS.out k (by omega);have ho:=qeo (riN s.data.toList k) (rdB s.data.toList k) z0 m0 m1;rw[← HN.out k]at ho;have HX:Hid (∃ y,riN s.data.toList (k+1)=y):=hid ⟨_,rfl⟩;obtain⟨y,hy⟩:=HX.out;rw[hy]at ho;have HY:=hid hy;clear hy HX;have ws:IntKind.i64.wrap (riN s.data.toList k*256)=riN s.data.toList k*256:=by rw[IntKind.wrap_i64];omega
    generalize riN s.data.toList k=m at *;generalize rdB s.data.toList k=bk at *;have wk:IntKind.i64.wrap (bk:Int)=(bk:Int):=by rw[IntKind.wrap_i64];omega
    go_wp2_with fail;go_roundw
    case rel=>exact⟨k+1,by omega,by rw[HY.out],by go_num,hb⟩
    case measure=>simp[intOf];omega
   ·have hd:decide ((k:Int)<(s.size:Int))=false:=by simp;omega
    obtain rfl:k=s.size:=by omega
    obtain⟨y,hy⟩:∃ y,riN s.data.toList s.size=y:=⟨_,rfl⟩;rw[hy]at HV;have HY:=hid hy;skip;go_wp2_with fail;go_ret2;exact⟨by rw[HV.out.1,HV.out.2,← HY.out];rfl,hb⟩
 ·skip;have HV:Hid (riV s=riN s.data.toList s.size∧qd1 s=0):=hid (by have h:riE s.data.toList=0:=(by rw[riE,if_neg n0,if_neg nb,if_neg (by omega)]);exact⟨by rw[riV,if_pos h,hl],h⟩);have HI:Hid (riN s.data.toList 0=0):=hid (by rw[riN,if_neg (by omega)]);have d9:decide (128≤(rdB s.data.toList 0:Int))=false:=by simp;omega
  have HR:=hid (fun k (h:k<s.size)=>qce s k h);have HS:=hid (fun k=>qdR s.data.toList k);have HL:=hid (fun k=>qbA s.data.toList k);have HN:Hid (∀ k,riN s.data.toList (k+1)=riN s.data.toList k*256+(rdB s.data.toList k:Int)):=hid (fun k=>rfl);have z3:s.size≤8:=by omega
  skip;clear hl hs n0 nb c0 c1 c2 c4 c8 h0 c5;generalize rdB s.data.toList 1=b1 at *;obtain⟨b0,eb⟩:∃ b0,rdB s.data.toList 0=b0:=⟨_,rfl⟩;rw[eb]at t0 d9 f0 f1;clear eb;go_enter func78,ntmps78;go_wp2_with fail
  go_loopw [4,5] (fun nv iv wr=>∃ k:Nat,k≤s.size∧nv=.int .i64 (riN s.data.toList k)∧iv=.int .i64 (k:Int)∧Below w.heap.size w wr) (fun _ iv _=>s.size-(intOf iv).toNat)
  case atStart=>exact⟨0,by omega,by rw[HI.out],rfl,hb⟩
  case round=>
   clear hb;obtain⟨k,hk,rfl,rfl,hb⟩:=hrel;by_cases z1:k<s.size
   ·have hd:decide ((k:Int)<(s.size:Int))=true:=by simp;omega
    have z2:(k:Int)<(s.size:Int):=by omega
    have tk:=HR.out k z1;have z0:=HL.out k;obtain⟨m0,m1⟩:=HS.out k (by omega);have ho:=qeo (riN s.data.toList k) (rdB s.data.toList k) z0 m0 m1;rw[← HN.out k]at ho;have HX:Hid (∃ y,riN s.data.toList (k+1)=y):=hid ⟨_,rfl⟩;obtain⟨y,hy⟩:=HX.out;rw[hy]at ho;have HY:=hid hy;clear hy HX;have ws:IntKind.i64.wrap (riN s.data.toList k*256)=riN s.data.toList k*256:=by rw[IntKind.wrap_i64];omega
    generalize riN s.data.toList k=m at *;generalize rdB s.data.toList k=bk at *;have wk:IntKind.i64.wrap (bk:Int)=(bk:Int):=by rw[IntKind.wrap_i64];omega
    go_wp2_with fail;go_roundw
    case rel=>exact⟨k+1,by omega,by rw[HY.out],by go_num,hb⟩
    case measure=>simp[intOf];omega
   ·have hd:decide ((k:Int)<(s.size:Int))=false:=by simp;omega
    obtain rfl:k=s.size:=by omega
    obtain⟨y,hy⟩:∃ y,riN s.data.toList s.size=y:=⟨_,rfl⟩;rw[hy]at HV;have HY:=hid hy;skip;go_wp2_with fail;go_ret2;exact⟨by rw[HV.out.1,HV.out.2,← HY.out];rfl,hb⟩
end
section
theorem toNat_of(k:Nat)(h:k<256):(UInt8.ofNat k).toNat=k:=by rw[UInt8.toNat_ofNat'];omega
theorem rd_list(a n:Nat)(bl rl:List UInt8)(ha:a<256)(ht:a%32≠31)(hn:bl.length=n)(h:n<65536):rdB (wrL a n++(bl++rl)) 0=a∧rdA (wrL a n++(bl++rl))=(wrL a n).length∧rdN (wrL a n++(bl++rl))=n∧rdE (wrL a n++(bl++rl))=0:=by
 have e0:rdB (wrL a n++(bl++rl)) 0=a:=toNat_of a ha;have hl:(wrL a n++(bl++rl)).length=(wrL a n).length+n+rl.length:=by rw[List.length_append,List.length_append,hn];omega
 by_cases c1:n<128
 ·have ew:wrL a n=[UInt8.ofNat a,UInt8.ofNat n]:=by rw[wrL,lenL,if_pos c1];rfl
  rw[ew]at e0 hl ⊢;have e1:rdB ([UInt8.ofNat a,UInt8.ofNat n]++(bl++rl)) 1=n:=toNat_of n (by omega);generalize [UInt8.ofNat a,UInt8.ofNat n]++(bl++rl)=l at *;have hA:rdA l=2:=if_neg (by omega);have hN:rdN l=n:=by rw[rdN,if_neg (by omega),if_neg (by omega),e1]
  refine⟨e0,hA,hN,?_⟩;simp only[List.length_cons,List.length_nil]at hl;rw[rdE,if_neg (by omega),if_neg (by omega),if_neg (by omega),if_neg (by omega),if_neg (by omega),if_neg (by omega),if_neg (by omega)]
 by_cases c2:n<256
 ·have ew:wrL a n=[UInt8.ofNat a,129,UInt8.ofNat n]:=by rw[wrL,lenL,if_neg c1,if_pos c2];rfl
  rw[ew]at e0 hl ⊢;have e1:rdB ([UInt8.ofNat a,129,UInt8.ofNat n]++(bl++rl)) 1=129:=rfl;have e2:rdB ([UInt8.ofNat a,129,UInt8.ofNat n]++(bl++rl)) 2=n:=toNat_of n (by omega);generalize [UInt8.ofNat a,129,UInt8.ofNat n]++(bl++rl)=l at *;have hA:rdA l=3:=by rw[rdA,if_pos (by omega),e1]
  have hN:rdN l=n:=by rw[rdN,if_pos e1,e2]
  refine⟨e0,hA,hN,?_⟩;simp only[List.length_cons,List.length_nil]at hl;rw[rdE,if_neg (by omega),if_neg (by omega),if_neg (by omega),if_neg (by omega),if_neg (by omega),if_neg (by omega),if_neg (by omega)]
 ·have ew:wrL a n=[UInt8.ofNat a,130,UInt8.ofNat (n/256),UInt8.ofNat n]:=by rw[wrL,lenL,if_neg c1,if_neg c2];rfl
  rw[ew]at e0 hl ⊢;have e1:rdB ([UInt8.ofNat a,130,UInt8.ofNat (n/256),UInt8.ofNat n]++(bl++rl)) 1=130:=rfl;have e2:rdB ([UInt8.ofNat a,130,UInt8.ofNat (n/256),UInt8.ofNat n]++(bl++rl)) 2=n/256:=toNat_of _ (by omega);have e3:rdB ([UInt8.ofNat a,130,UInt8.ofNat (n/256),UInt8.ofNat n]++(bl++rl)) 3=n%256:=by
   show (UInt8.ofNat n).toNat=n%256;rw[UInt8.toNat_ofNat']
  generalize [UInt8.ofNat a,130,UInt8.ofNat (n/256),UInt8.ofNat n]++(bl++rl)=l at *;have hA:rdA l=4:=by rw[rdA,if_pos (by omega),e1]
  have hN:rdN l=n:=by rw[rdN,if_neg (by omega),if_pos e1,e2,e3];omega
  refine⟨e0,hA,hN,?_⟩;simp only[List.length_cons,List.length_nil]at hl;rw[rdE,if_neg (by omega),if_neg (by omega),if_neg (by omega),if_neg (by omega),if_neg (by omega),if_neg (by omega),if_neg (by omega)]
theorem ext_of(s:ByteArray)(a b:Nat)(l:List UInt8)(h:((s.data.toList.drop a).take (b-a))=l):s.extract a b=⟨l.toArray⟩:=by
 have h2:(s.extract a b).data.toList=(⟨l.toArray⟩:ByteArray).data.toList:=by rw[Lib.extract_data,h]
 apply ByteArray.ext;exact Array.toList_inj.1 h2
theorem mk_data(s:ByteArray):(⟨s.data.toList.toArray⟩:ByteArray)=s:=by
 apply ByteArray.ext;exact Array.toArray_toList
theorem rd_wr(n:Int)(b r:ByteArray)(h:wrE n b=0):qc5 (wrX n b++r)=n∧qba (wrX n b++r)=b∧qbD (wrX n b++r)=r∧qbS (wrX n b++r)=0:=by
 have hT:isT n=true:=by
  cases ht:isT n with
  | true=>rfl
  | false=>rw[wrE,ht]at h;cases h
 have hz:b.size<65536:=by
  apply Nat.lt_of_not_le;intro hc;rw[wrE,hT,if_pos rfl,if_neg (by omega)]at h
  cases h
 have hr:0≤n∧n≤255∧n%32≠31:=by
  have h':=hT;simp only[isT,Bool.and_eq_true,decide_eq_true_eq,bne_iff_ne]at h';exact⟨h'.1.1,h'.1.2,h'.2⟩
 obtain⟨a,rfl⟩:∃ a:Nat,n=(a:Int):=⟨n.toNat,by omega⟩;have hx:wrX (a:Int) b=⟨(wrL (a:Int) b.size).toArray⟩++b:=by rw[wrX,if_pos h]
 have hl:(wrX (a:Int) b++r).data.toList=wrL (a:Int) b.size++(b.data.toList++r.data.toList):=by
  rw[hx,ByteArray.data_append,ByteArray.data_append,Array.toList_append,Array.toList_append,List.append_assoc]
 have z0:b.data.toList.length=b.size:=(Lib.size_eq b).symm;obtain⟨q0,qA,qN,qE⟩:=rd_list a b.size b.data.toList r.data.toList (by omega) (by omega) z0 hz;have hw:wrL ((a:Nat):Int) b.size=wrL a b.size:=rfl;obtain⟨g1,g2,g3,g4⟩:=qeq (wrX (a:Int) b++r) (by rw[hl];exact qE);rw[hl,q0]at g1;rw[hl,qA,qN]at g2 g3;refine⟨g1,?_,?_,g4⟩
 ·rw[g2,ext_of _ _ _ b.data.toList,mk_data];rw[hl,List.drop_left,Nat.add_sub_cancel_left,← z0,List.take_left]
 ·rw[g3,ext_of _ _ _ r.data.toList,mk_data];rw[hl,← List.append_assoc,List.drop_left' (by rw[List.length_append,z0]),jtl];have:(wrX (a:Int) b++r).size=(wrX (a:Int) b++r).data.toList.length:=Lib.size_eq _;rw[this,hl,List.length_append,List.length_append,z0];omega
end
section
open Go.RowKit Go.Sort
def byt8(n:Int)(j:Nat):UInt8:=UInt8.ofNat (n/256^(7-j)%256).toNat
def b8L(n:Int):List UInt8:=(List.range 8).map fun j=>byt8 n j
theorem qbG(n:Int):(b8L n).length=8:=by simp[b8L]
def qbO:List UInt8→List UInt8
 | x :: y :: r=>if (x.toNat=0∧y.toNat<128)∨(x.toNat=255∧128≤y.toNat) then qbO (y :: r) else x :: y :: r
 | l=>l
def intB(n:Int):ByteArray:=⟨(qbO (b8L n)).toArray⟩
theorem b8L_snoc(n:Int)(k:Nat)(h:k<8):(b8L n).take (k+1)=(b8L n).take k++[byt8 n k]:=by
 rw[b8L,← List.map_take,← List.map_take,List.take_range,List.take_range,Nat.min_eq_left (by omega),Nat.min_eq_left (by omega),List.range_succ,List.map_append]
 rfl
theorem byt8_val(n:Int)(k:Nat):((byt8 n k).toNat:Int)=n/256^(7-k)%256:=by
 rw[byt8,UInt8.toNat_ofNat'];have h:=Int.emod_nonneg (n/256^(7-k)) (show (256:Int)≠0 by decide);have h2:=Int.emod_lt_of_pos (n/256^(7-k)) (show (0:Int)<256 by decide);omega
theorem pow_shift(k:Nat)(h:k<8):(2:Int)^(8*(7-k))=256^(7-k):=by
 rw[show (256:Int)=2^8 from rfl,← Int.pow_mul]
theorem rIntLoop_any(n:Int)(w:World)(h0:-9223372036854775808≤n)(h1:n≤9223372036854775807):Rt 64 #[.int .i64 n] w (.string (wrX 2 (intB n))):=by
 unfold Rt;obtain⟨i0,hi,zv,zw,zx⟩:=info_parts qca;have hb:=Below.refl w.heap.size w;go_enter func64,ntmps64;go_wp2_with fail;generalize zj:w.heap.size=B at *;have z8:=hid zj;clear zj
 go_loopw [3,4] (fun ov iv wr=>∃ (k:Nat) (ao:Option Addr) (cp:Nat),k≤8∧iv=.int .i64 (7-(k:Int))∧ov=.slice ao k cp∧Own wr B (.slice ao k cp) (Lib.byteCells ((b8L n).take k))∧Below B w wr∧B≤wr.heap.size) (fun _ iv _=>(intOf iv+1).toNat)
 case atStart=>exact⟨0,none,0,by omega,rfl,rfl,Own.nil _ _,hb,by rw[← z8.out];exact hb.size⟩
 case round=>
  clear hb;obtain⟨k,ao,cp,hk,rfl,rfl,z1,hb,hB⟩:=hrel;have HO:=hid z1;clear z1;have HL:=hid (show (Lib.byteCells ((b8L n).take k)).length=k from by rw[Lib.byteCells_length,List.length_take,qbG];omega);by_cases ze:k<8
  ·obtain⟨i,zm⟩:∃ i,i=7-k:=⟨_,rfl⟩;have zs:(7:Int)-(k:Int)=(i:Int):=by omega
   have hd:decide ((0:Int)≤(i:Int))=true:=by simp
   have zg:=hid (b8L_snoc n k ze);have HV:=hid (byt8_val n k);have zo:=pow_shift k ze;rw[← zm]at zo HV;have zt:(0:Int)≤8*(i:Int):=by omega
   have zu:IntKind.i64.wrap (8*(i:Int))=8*(i:Int):=by rw[IntKind.wrap_i64];omega
   have hT:((8:Int)*(i:Int)).toNat=8*i:=by omega
   rw[zs];go_wp2_with (at_builtin;refine qaB rfl (.tmp 11) (.tmp 17) 41 rfl B 5 i0 (.int .u8 0) 1 underlying41 hi zv zw zx rfl ao k cp _ rfl (HO.out.alloc _) HL.out ⟨_,0,none⟩ 1 1 [.int .u8 _] rfl rfl (cell_one_new _ _ _) ?p2 ?p3 ?p4 ?p5 ?_)
   case p2=>intro u hu;simp at hu;subst hu;rfl
   case p3=>omega
   case p4=>omega
   case p5=>simp;omega
   intro zh zi W7 z6 z0;have zk:Below B wr W7:=qaV ((Below.refl B wr).alloc hB _) (by simp;omega) (HO.out.alloc _) z0;have zp:B≤W7.heap.size:=by have:=z0.size;simp at this;omega
   have z9:Own W7 B (.slice zh (k+1) zi) (Lib.byteCells ((b8L n).take (k+1))):=by
    rw[zg.out,Lib.byteCells_append];have e:Lib.byteCells [byt8 n k]=[.int .u8 (n/2^(8*(7-k))%256)]:=by simp only[Lib.byteCells,List.map_cons,List.map_nil,byt8_val,pow_shift k ze]
    rw[e];exact z6
   have zq:=hb.trans zk;clear z6 z0 HO zg HV HL zo zt zu hT hb zk zm;go_wp2_with fail;go_roundw
   case rel=>exact⟨k+1,zh,zi,by omega,by go_num,rfl,z9,zq,zp⟩
   case measure=>simp[intOf];omega
  ·have hd:decide ((0:Int)≤(7:Int)-(k:Int))=false:=by simp;omega
   obtain rfl:k=8:=by omega
   have z1:=HO.out;rw[jtl (by rw[qbG];exact jlr _)]at z1;obtain⟨g,cp1,e1,zf,_⟩:=z1.some (by rw[Lib.byteCells_length,qbG];decide);rw[Lib.byteCells_length,qbG]at e1
   cases e1
   have zr:8≤cp:=by have:=zf.le;rwa[Lib.byteCells_length,qbG]at this
   have HG:=hid zf;have z4:=hid (qbG n);have z3:Hid (intB n=⟨(qbO (b8L n)).toArray⟩):=hid rfl;generalize b8L n=L at *;generalize zn:intB n=ib at *;have zc:=hid zn;clear zn;clear HO HL z1 zf hd;go_wp2_with fail
   go_loopw [3] (fun ov zy=>∃ (j m c:Nat),j+m=8∧1≤m∧m≤c∧ov=.slice (some ⟨g,j,none⟩) m c∧Hid (qbO (L.drop j)=qbO L)∧zy=wr) (fun ov _=>(match ov with|.slice _ m _=>m|_=>0))
   case atStart=>exact⟨0,8,cp,rfl,by omega,zr,rfl,hid rfl,rfl⟩
   case round=>
    obtain⟨j,m,c,hjm,hm1,hmc,rfl,HT,rfl⟩:=hrel;have hj:j<L.length:=by rw[z4.out];omega
    have HD:Hid (L.drop j=L.getD j 0 :: L.drop (j+1)):=hid (by rw[List.drop_eq_getElem_cons hj,List.getD_eq_getElem?_getD,List.getElem?_eq_getElem hj];rfl);have HX:=hid (qel wr g j c m (L.drop j) (by rw[List.length_drop,z4.out];omega) (fun i x hx=>by
     rw[List.getElem?_drop]at hx;exact HG.out.cells (j+i) _ (by simp[Lib.byteCells,hx])))
    by_cases c1:m=1
    ·subst c1;have d1:decide ((1:Int)<((1:Nat):Int))=false:=by simp
     have ht:=HX.out;have zl:L.drop (j+1)=[]:=List.drop_of_length_le (by rw[z4.out];omega);have HF:Hid ((⟨(L.drop j).toArray⟩:ByteArray)=ib):=hid (by rw[z3.out,← HT.out,HD.out,zl];rfl);rw[HF.out]at ht;have CW:=hid (fun W=>qdr 2 ib W (by decide) (by decide));have z2:Hid (wrX 2 ib=wrX 2 (intB n)):=hid (by rw[zc.out]);generalize wrX 2 ib=xo at *;generalize wrE 2 ib=xe at *;clear HF z3 HG z4 HX HD HT zl hj;go_wp2_with fail;refine (CW.out _).mono ?_;rintro e W1⟨rfl,bk⟩;replace hb:=hb.trans (bk.mono hB);clear bk CW;go_wp2_with fail;go_ret;exact⟨by first|(rw[← z2.out];done)|(rw[← z2.out];rfl),by rw[z8.out];exact hb⟩
    ·have d1:decide ((1:Int)<(m:Int))=true:=by simp;omega
     have z5:j+1<L.length:=by rw[z4.out];omega
     have z7:Hid (L.drop (j+1)=L.getD (j+1) 0 :: L.drop (j+2)):=hid (by rw[List.drop_eq_getElem_cons z5,List.getD_eq_getElem?_getD,List.getElem?_eq_getElem z5];rfl);have k0:wr.cell? ⟨g,j,none⟩=some (.int .u8 ((L.getD j 0).toNat:Int)):=(qdp HG.out j hj).1;have k1:wr.cell? ⟨g,j+1,none⟩=some (.int .u8 ((L.getD (j+1) 0).toNat:Int)):=(qdp HG.out (j+1) z5).1;have za:=(L.getD j 0).toNat_lt;have zb:=(L.getD (j+1) 0).toNat_lt;have HC:Hid (qbO (L.drop j)=if ((L.getD j 0).toNat=0∧(L.getD (j+1) 0).toNat<128)∨((L.getD j 0).toNat=255∧128≤(L.getD (j+1) 0).toNat) then qbO (L.drop (j+1)) else L.drop j):=hid (by rw[HD.out,z7.out,qbO]);generalize (L.getD j 0).toNat=x at k0 za HC;generalize (L.getD (j+1) 0).toNat=y at k1 zb HC;have hi0:(0:Int)<(m:Int):=by omega
     have hi1:(1:Int)<(m:Int):=by omega
     have hi2:(1:Int)≤(m:Int):=by omega
     by_cases a0:x=0
     ·have f0:((x:Int)==0)=true:=by simp;omega
      have f1:((x:Int)==255)=false:=by simp;omega
      by_cases a1:y<128
      ·have f2:decide ((y:Int)<128)=true:=by simp;omega
       have zd:=hid ((show qbO (L.drop j)=qbO (L.drop (j+1)) by rw[HC.out,if_pos (by omega)]).symm.trans HT.out);clear HC HT HX HD z7 hj z5;go_wp2_with fail;go_roundw
       case rel=>exact⟨j+1,m-1,c-1,by omega,by omega,by omega,by go_num,zd,by first|rfl|trivial⟩
       case measure=>simp;omega
      ·have f2:decide ((y:Int)<128)=false:=by simp;omega
       have ht:=HX.out;have HF:Hid ((⟨(L.drop j).toArray⟩:ByteArray)=ib):=hid (by rw[z3.out,← HT.out,HC.out,if_neg (by omega)]);rw[HF.out]at ht;clear HC HT HX HD z7 hj z5;have CW:=hid (fun W=>qdr 2 ib W (by decide) (by decide));have z2:Hid (wrX 2 ib=wrX 2 (intB n)):=hid (by rw[zc.out]);generalize wrX 2 ib=xo at *;generalize wrE 2 ib=xe at *;clear HF z3 HG z4;go_wp2_with fail;refine (CW.out _).mono ?_;rintro e W1⟨rfl,bk⟩;replace hb:=hb.trans (bk.mono hB);clear bk CW;go_wp2_with fail;go_ret;exact⟨by first|(rw[← z2.out];done)|(rw[← z2.out];rfl),by rw[z8.out];exact hb⟩
     have f0:((x:Int)==0)=false:=by simp;omega
     by_cases a2:x=255
     ·have f1:((x:Int)==255)=true:=by simp;omega
      by_cases a1:128≤y
      ·have f2:decide (128≤(y:Int))=true:=by simp;omega
       have zd:=hid ((show qbO (L.drop j)=qbO (L.drop (j+1)) by rw[HC.out,if_pos (by omega)]).symm.trans HT.out);clear HC HT HX HD z7 hj z5;go_wp2_with fail;go_roundw
       case rel=>exact⟨j+1,m-1,c-1,by omega,by omega,by omega,by go_num,zd,by first|rfl|trivial⟩
       case measure=>simp;omega
      ·have f2:decide (128≤(y:Int))=false:=by simp;omega
       have ht:=HX.out;have HF:Hid ((⟨(L.drop j).toArray⟩:ByteArray)=ib):=hid (by rw[z3.out,← HT.out,HC.out,if_neg (by omega)]);rw[HF.out]at ht;clear HC HT HX HD z7 hj z5;have CW:=hid (fun W=>qdr 2 ib W (by decide) (by decide));have z2:Hid (wrX 2 ib=wrX 2 (intB n)):=hid (by rw[zc.out]);generalize wrX 2 ib=xo at *;generalize wrE 2 ib=xe at *;clear HF z3 HG z4;go_wp2_with fail;refine (CW.out _).mono ?_;rintro e W1⟨rfl,bk⟩;replace hb:=hb.trans (bk.mono hB);clear bk CW;go_wp2_with fail;go_ret;exact⟨by first|(rw[← z2.out];done)|(rw[← z2.out];rfl),by rw[z8.out];exact hb⟩
     ·have f1:((x:Int)==255)=false:=by simp;omega
      have ht:=HX.out;have HF:Hid ((⟨(L.drop j).toArray⟩:ByteArray)=ib):=hid (by rw[z3.out,← HT.out,HC.out,if_neg (by omega)]);rw[HF.out]at ht;clear HC HT HX HD z7 hj z5;have CW:=hid (fun W=>qdr 2 ib W (by decide) (by decide));have z2:Hid (wrX 2 ib=wrX 2 (intB n)):=hid (by rw[zc.out]);generalize wrX 2 ib=xo at *;generalize wrE 2 ib=xe at *;clear HF z3 HG z4;go_wp2_with fail;refine (CW.out _).mono ?_;rintro e W1⟨rfl,bk⟩;replace hb:=hb.trans (bk.mono hB);clear bk CW;go_wp2_with fail;go_ret;exact⟨by first|(rw[← z2.out];done)|(rw[← z2.out];rfl),by rw[z8.out];exact hb⟩
end
section
theorem rdB_cons(x:UInt8)(l:List UInt8)(k:Nat):rdB (x :: l) (k+1)=rdB l k:=by
 rw[rdB,rdB,List.getD_cons_succ]
theorem rdB_zero(x:UInt8)(l:List UInt8):rdB (x :: l) 0=x.toNat:=rfl
theorem riN_zero(l:List UInt8):riN l 0=if 128≤rdB l 0 then -1 else 0:=rfl
theorem qe9(l:List UInt8)(k:Nat):riN l (k+1)=riN l k*256+(rdB l k:Int):=rfl
theorem riN_tail(x y:UInt8)(r:List UInt8)(h:(x.toNat=0∧y.toNat<128)∨(x.toNat=255∧128≤y.toNat)):∀ k,riN (x :: y :: r) (k+1)=riN (y :: r) k
 | 0=>by
  rw[qe9,riN_zero,riN_zero,rdB_zero,rdB_zero];rcases h with⟨h1,h2⟩|⟨h1,h2⟩
  ·rw[h1,if_neg (by omega),if_neg (by omega)];rfl
  ·rw[h1,if_pos (by omega),if_pos (by omega)];rfl
 | k+1=>by rw[qe9,riN_tail x y r h k,rdB_cons,← qe9]
theorem qfv(x y:UInt8)(r:List UInt8):qbO (x :: y :: r)=if (x.toNat=0∧y.toNat<128)∨(x.toNat=255∧128≤y.toNat) then qbO (y :: r) else x :: y :: r:=rfl
theorem trim_val:∀ (l:List UInt8),riN (qbO l) (qbO l).length=riN l l.length
 | []=>rfl
 | [x]=>rfl
 | x :: y :: r=>by
  rw[qfv];split
  ·rename_i h;rw[trim_val (y :: r)];exact (riN_tail x y r h (y :: r).length).symm
  ·rfl
theorem trim_size:∀ (l:List UInt8),(qbO l).length≤l.length∧(l≠[]→qbO l≠[])
 | []=>⟨jlr _,fun h=>h⟩
 | [x]=>⟨jlr _,fun h=>h⟩
 | x :: y :: r=>by
  rw[qfv];split
  ·have h:=trim_size (y :: r);exact⟨jlt h.1 (by simp),fun _=>h.2 (by simp)⟩
  ·exact⟨jlr _,fun _=>by simp⟩
theorem riBad_two(x y:UInt8)(r:List UInt8):qdD (x :: y :: r)↔(x.toNat=0∧y.toNat<128)∨(x.toNat=255∧128≤y.toNat):=
 ⟨fun h=>h.2,fun h=>⟨by simp,h⟩⟩
theorem trim_good:∀ (l:List UInt8),¬ qdD (qbO l)
 | []=>fun h=>by have:=h.1;simp[qbO]at this
 | [x]=>fun h=>by have:=h.1;simp[qbO]at this
 | x :: y :: r=>by
  rw[qfv];split
  ·exact trim_good (y :: r)
  ·rename_i h;rwa[riBad_two]
theorem riN_range(l:List UInt8)(k:Nat)(h:k+1=l.length):-(128*256^k:Nat)≤riN l l.length∧riN l l.length<(128*256^k:Nat):=by
 rw[← h];exact riN_bound l k
theorem b8L_at(n:Int)(k:Nat)(h:k<8):(rdB (b8L n) k:Int)=n/256^(7-k)%256:=by
 rw[← byt8_val,rdB,b8L,List.getD_eq_getElem?_getD,List.getElem?_map,List.getElem?_range h]
 rfl
theorem b8L_val(n:Int)(h0:-9223372036854775808≤n)(h1:n≤9223372036854775807):∀ k,k<8→riN (b8L n) (k+1)=n/256^(7-k)
 | 0,_=>by
  have a:=b8L_at n 0 (by omega);have e:(256:Int)^(7-0)=72057594037927936:=by decide
  rw[qe9,riN_zero,e]at *;split<;>omega
 | k+1,h=>by
  have ih:=b8L_val n h0 h1 k (by omega);rw[qe9,ih,b8L_at n (k+1) h];have e:(256:Int)^(7-k)=256^(7-(k+1))*256:=by rw[show 7-k=(7-(k+1))+1 by omega,Int.pow_succ]
  rw[e,← Int.ediv_ediv_of_nonneg (Int.pow_nonneg (by decide))];omega
theorem intB_facts(n:Int)(h0:-9223372036854775808≤n)(h1:n≤9223372036854775807):1≤(intB n).data.toList.length∧(intB n).data.toList.length≤8∧¬ qdD (intB n).data.toList∧riN (intB n).data.toList (intB n).data.toList.length=n:=by
 have e:(intB n).data.toList=qbO (b8L n):=rfl;rw[e];have hs:=trim_size (b8L n);have z0:b8L n≠[]:=fun h=>by have:=qbG n;rw[h]at this;cases this
 refine⟨?_,?_,trim_good _,?_⟩
 ·have:=List.length_pos_iff.2 (hs.2 z0);omega
 ·have:=hs.1;rw[qbG]at this;exact this
 ·rw[trim_val,qbG,b8L_val n h0 h1 7 (by omega)];simp
theorem qga(n:Int):(intB n).size≤8:=by
 have h:=(trim_size (b8L n)).1;rw[qbG]at h;exact h
theorem int_back(n:Int)(h0:-9223372036854775808≤n)(h1:n≤9223372036854775807):qd1 (intB n)=0∧riV (intB n)=n:=by
 obtain⟨a,b,c,d⟩:=intB_facts n h0 h1;have e:riE (intB n).data.toList=0:=by rw[riE,if_neg (by omega),if_neg c,if_neg (by omega)]
 exact⟨e,by rw[riV,if_pos e,d]⟩
theorem ri_range(s:ByteArray):-9223372036854775808≤riV s∧riV s≤9223372036854775807:=by
 rw[riV];split
 ·rename_i h;rw[riE]at h;split at h
  ·cases h
  split at h
  ·cases h
  split at h
  ·cases h
  rename_i a b c;obtain⟨k,hk⟩:∃ k,k+1=s.data.toList.length:=⟨s.data.toList.length-1,by omega⟩;have r:=riN_range _ k hk;have hp:256^k≤256^7:=Nat.pow_le_pow_right (by decide) (by omega);have e7:(256:Nat)^7=72057594037927936:=by decide
  omega
 ·omega
theorem int_wr(n:Int):wrE 2 (intB n)=0:=by
 have:=qga n;rw[wrE,if_pos (by decide),if_pos (by omega)]
def hiL:Nat→Nat→List UInt8
 | 0,_=>[]
 | f+1,n=>if n=0 then [] else hiL f (n/128)++[UInt8.ofNat (128+n%128)]
def grL(n:Nat):List UInt8:=hiL 9 (n/128)++[UInt8.ofNat (n%128)]
theorem hiL_zero(f:Nat):hiL f 0=[]:=by cases f<;>rfl
theorem hiL_length:∀ (f n:Nat),(hiL f n).length≤f
 | 0,_=>jlr _
 | f+1,n=>by
  rw[hiL];split
  ·simp
  ·have:=hiL_length f (n/128);rw[List.length_append];simp;exact this
theorem qfD(n:Nat):1≤(grL n).length∧(grL n).length≤10:=by
 have:=hiL_length 9 (n/128);rw[grL,List.length_append];simp;omega
def qcc(zs:List Int):Int:=
 if zs.length<2 then 1 else if (zs.any fun z=>decide (z<0))=true then 1 else
  if 2<zs.getD 0 0∨(zs.getD 0 0<2∧39<zs.getD 1 0)∨1000000<zs.getD 1 0 then 1 else
   if 20<zs.length then 13 else if ((zs.drop 2).any fun z=>decide (268435455<z))=true then 13 else 0
def restL(zs:List Int):List UInt8:=zs.flatMap fun z=>grL z.toNat
def oidL(zs:List Int):List UInt8:=grL (40*zs.getD 0 0+zs.getD 1 0).toNat++restL (zs.drop 2)
def oidB(zs:List Int):ByteArray:=⟨(oidL zs).toArray⟩
def oidX(zs:List Int):ByteArray:=if qcc zs=0 then wrX 6 (oidB zs) else ⟨#[]⟩
theorem qfY:∀ (zs:List Int),(restL zs).length≤10*zs.length
 | []=>jlr _
 | z :: r=>by
  have:=qfY r;have:=(qfD z.toNat).2;rw[restL,List.flatMap_cons,List.length_append,List.length_cons,← restL];omega
theorem qgd(zs:List Int)(h:zs.length≤20):(oidB zs).size≤210:=by
 have a:=qfY (zs.drop 2);have b:=(qfD (40*zs.getD 0 0+zs.getD 1 0).toNat).2;rw[List.length_drop]at a;show (oidL zs).length≤210;rw[oidL,List.length_append];omega
theorem oid_wr(zs:List Int)(h:zs.length≤20):wrE 6 (oidB zs)=0:=by
 have:=qgd zs h;rw[wrE,if_pos (by decide),if_pos (by omega)]
end
section
open Go.RowKit Go.Sort
def IntsAt(W:World)(ao:Option Addr)(zs:List Int):Prop:=∀ j,j<zs.length→∃ g z0,ao=some ⟨g,z0,none⟩∧W.cell? ⟨g,z0+j,none⟩=some (.int .i64 (zs.getD j 0))
theorem IntsAt.step{W W':World}{ao:Option Addr}{zs:List Int}(h:IntsAt W ao zs)(hb:Below W.heap.size W W'):IntsAt W' ao zs:=fun j hj=>by
 obtain⟨g,z0,ha,hc⟩:=h j hj;exact⟨g,z0,ha,(hb.cell (jbc hc)).trans hc⟩
theorem IntsAt.nil(W:World)(ao:Option Addr):IntsAt W ao []:=fun j hj=>by cases hj
def qeC(zs:List Int):List Value:=zs.map fun z=>.int .i64 z
theorem iCells_length(zs:List Int):(qeC zs).length=zs.length:=List.length_map _
theorem iCells_at(zs:List Int)(j:Nat)(h:j<zs.length):(qeC zs)[j]?=some (.int .i64 (zs.getD j 0)):=by
 simp[qeC,List.getElem?_eq_getElem h,List.getD_eq_getElem?_getD]
theorem IntsAt.own{W:World}{base n c:Nat}{ao:Option Addr}{zs:List Int}(h:Own W base (.slice ao n c) (qeC zs))(hn:zs.length=n):IntsAt W ao zs:=fun j hj=>by
 obtain⟨g,cp,e,ho,_⟩:=h.some (by rw[iCells_length];omega)
 cases e
 exact⟨g,0,rfl,by rw[Nat.zero_add];exact ho.cells j _ (iCells_at zs j hj)⟩
theorem qag{P:Program}{w:World}{v:Value}{r:Result Next}(h:qaa P w v r):qai P w (Told.val v) r:=by
 cases r with
 | ok n w'=>
  cases n<;>simp only[qaa]at h<;>simp only[qai]
  case value u=>obtain⟨rfl,rfl⟩:=h;exact⟨Below.refl _ _,rfl⟩
  case enter f args=>
   obtain⟨rfl,hc⟩:=h;exact⟨rfl,hc.mono fun e w'' ⟨he,hb⟩=>⟨v,he,rfl,hb⟩⟩
 | halt x w'=>simp only[qaa]at h
theorem byteC(k:Nat)(h:k<256):Lib.byteCells [UInt8.ofNat k]=[.int .u8 (k:Int)]:=by
 simp only[Lib.byteCells,List.map_cons,List.map_nil,qcY k h]
theorem group_step(m:Nat)(h:0<m):∀ f,m<128^f→∃ f',f=f'+1∧hiL f m=hiL f' (m/128)++[UInt8.ofNat (128+m%128)]∧m/128<128^f'
 | 0,hm=>by simp at hm;omega
 | f+1,hm=>⟨f,rfl,by rw[hiL,if_neg (by omega)],by rw[Nat.pow_succ]at hm;omega⟩
theorem rgroup_any(n:Nat)(w:World)(hn:n<9223372036854775808):Rt 177 #[.int .i64 (n:Int)] w (.string ⟨(grL n).toArray⟩):=by
 unfold Rt;obtain⟨i0,hi,zp,zq,zr⟩:=info_parts qca;have hb:=Below.refl w.heap.size w;have e8:(128:Nat)^9=9223372036854775808:=by decide
 have zg:=hid (show (w.alloc (.cells #[.int .u8 ((n:Int)%128)] 5)).ownsRow w.heap.size 5 1 (.slice (some ⟨w.heap.size,0,none⟩) 1 1) 1 [.int .u8 ((n:Int)%128)] from
  ⟨rfl,.inr ⟨w.heap.size,1,_,rfl,jlr _,qad w _,by omega,by unfold maxLen;omega,rfl,rfl⟩⟩)
 have zc:Below w.heap.size w (w.alloc (.cells #[.int .u8 ((n:Int)%128)] 5)):=hb.alloc hb.size _;have z8:w.heap.size≤(w.alloc (.cells #[.int .u8 ((n:Int)%128)] 5)).heap.size:=zc.size;have zi:Hid (Own (w.alloc (.cells #[.int .u8 ((n:Int)%128)] 5)) w.heap.size (.slice (some ⟨w.heap.size,0,none⟩) 1 1) (Lib.byteCells [UInt8.ofNat (n%128)])):=hid (by
  rw[byteC _ (by omega),show ((n%128:Nat):Int)=(n:Int)%128 by simp];exact (qdq zg.out).1)
 have HG:Hid (hiL 9 (n/128)++[UInt8.ofNat (n%128)]=grL n):=hid rfl;clear zg;go_enter func177,ntmps177;go_wp2_with fail;generalize (w.alloc _)=W0 at *;generalize zn:w.heap.size=B at *;have zs:=hid zn;clear zn;obtain⟨G,za⟩:∃ G,grL n=G:=⟨_,rfl⟩;rw[za]at HG;have zu:=hid za;clear za
 go_loopw [0,3,4] (fun nv ov mv wr=>∃ (m f:Nat) (ao:Option Addr) (cp k:Nat) (l:List UInt8),m≤n∧l.length=k∧k+f≤10∧m<128^f∧Hid (hiL f m++l=G)∧nv=.int .i64 (m:Int)∧ov=.slice ao k cp∧Own wr B (.slice ao k cp) (Lib.byteCells l)∧1≤k∧Below B w wr∧B≤wr.heap.size) (fun nv _ _ _=>(intOf nv).toNat)
 case atStart=>exact⟨n/128,9,_,1,1,[UInt8.ofNat (n%128)],by omega,rfl,by omega,by omega,HG,by simp,rfl,zi.out,by omega,zc,z8⟩
 case round=>
  clear hb zc zi HG z8;obtain⟨m,f,ao,cp,k,l,hmn,hl,hkf,hm,HG,rfl,rfl,z7,hk1,hb,hB⟩:=hrel;have HO:=hid z7;clear z7;have HL:=hid (show (Lib.byteCells l).length=k by rw[Lib.byteCells_length];exact hl);by_cases h0:0<m
  ·have hd:decide ((0:Int)<(m:Int))=true:=by simp;omega
   obtain⟨f',rfl,e1,e2⟩:=group_step m h0 f hm;have hw:IntKind.u8.wrap (128+(m:Int)%128)=128+(m:Int)%128:=by rw[IntKind.wrap_u8];omega
   have zt:Hid (hiL f' (m/128)++(UInt8.ofNat (128+m%128)::l)=G):=hid (by rw[← HG.out,e1,List.append_assoc];rfl);have HC:Hid (Lib.byteCells [UInt8.ofNat (128+m%128)]=[.int .u8 (128+(m:Int)%128)]):=hid (by rw[byteC _ (by omega)];simp);clear e1 HG;generalize UInt8.ofNat (128+m%128)=bb at *;go_wp2_with (at_builtin;refine qaB rfl (.tmp 13) (.tmp 18) 41 rfl B 5 i0 (.int .u8 0) 1 underlying41 hi zp zq zr rfl none 0 0 [] rfl (Own.nil _ _) rfl ⟨_,0,none⟩ 1 1 [.int .u8 _] rfl rfl (cell_one_new _ _ _) ?p2 ?p3 ?p4 ?p5 ?_)
   case p2=>intro u hu;simp at hu;subst hu;rfl
   case p3=>omega
   case p4=>omega
   case p5=>simp;omega
   intro zj zl W7 z2 z1;have zd:Below wr.heap.size wr W7:=((Below.refl wr.heap.size wr).alloc (jlr _) _).grown z1 (by simp) (fun k hk=>by simp[Value.ownBlock]at hk);have z3:Own W7 B (.slice zj 1 zl) (Lib.byteCells [bb]):=by rw[HC.out];exact z2
   have zo:=hb.trans (zd.mono hB);have z9:B≤W7.heap.size:=jlt hB zd.size;have zh:=hid (HO.out.below zd);have HM:=hid z3;clear z2 z3 z1 HO hb;obtain⟨g,cq,e,z6,_⟩:=zh.out.some (by rw[HL.out];omega);rw[HL.out]at e
   cases e
   have ze:=hid (show ∀ j u,(Lib.byteCells l)[j]?=some u→W7.cell? ((⟨g,0,none⟩:Addr).add j)=some u from fun j u hj=>by
    have zb:(⟨g,0,none⟩:Addr).add j=⟨g,j,none⟩:=by unfold Addr.add;split<;>simp_all
    rw[zb];exact z6.cells j u hj)
   clear z6 zh;go_wp2_with (at_builtin;refine qaB rfl (.tmp 20) (.tmp 21) 41 rfl B 5 i0 (.int .u8 0) 1 underlying41 hi zp zq zr rfl zj 1 zl (Lib.byteCells [bb]) rfl HM.out rfl ⟨g,0,none⟩ k cp (Lib.byteCells l) rfl HL.out ze.out ?q2 ?q3 ?q4 z9 ?_)
   case q2=>intro u hu;simp[Lib.byteCells]at hu;obtain⟨x,_,rfl⟩:=hu;rfl
   case q3=>omega
   case q4=>omega
   intro zk zm W8 z4 z0;have zw:Below B w W8:=qaV zo z9 HM.out z0;have zv:B≤W8.heap.size:=jlt z9 z0.size;have z5:Own W8 B (.slice zk (1+k) zm) (Lib.byteCells (bb :: l)):=by
    rw[show bb :: l=[bb]++l from rfl,Lib.byteCells_append];exact z4
   clear z4 z0 HM ze HL HC zo;go_wp2_with fail;go_roundw
   case rel=>exact⟨m/128,f',zk,zm,1+k,_,by omega,by simp;omega,by omega,e2,zt,by go_num,rfl,z5,by omega,zw,zv⟩
   case measure=>simp[intOf];omega
  ·obtain rfl:m=0:=by omega
   have hd:decide ((0:Int)<((0:Nat):Int))=false:=by simp
   obtain⟨g,cq,e,z6,_⟩:=HO.out.some (by rw[HL.out];omega);rw[HL.out]at e
   cases e
   have ht:=qcW z6 hl cp;have HT:Hid (l=G):=hid (by rw[← HG.out,hiL_zero];rfl);obtain⟨L,hL⟩:∃ L,(⟨l.toArray⟩:ByteArray)=L:=⟨_,rfl⟩;have zf:Hid (L=⟨(grL n).toArray⟩):=hid (by rw[← hL,zu.out,HT.out]);rw[hL]at ht;clear hL;clear z6 HO HL HG HT;go_wp2_with fail;go_ret;exact⟨by first|(rw[zf.out];done)|(rw[zf.out];rfl),by rw[zs.out];exact hb⟩
theorem qfk(z:Int)(w:World)(h0:0≤z)(h1:z≤9223372036854775807):Rt 177 #[.int .i64 z] w (.string ⟨(grL z.toNat).toArray⟩):=by
 unfold Rt;have h:=rgroup_any z.toNat w (by omega);rwa[show ((z.toNat:Nat):Int)=z by omega]at h
theorem any_at(zs:List Int)(p:Int→Bool)(k:Nat)(hk:k<zs.length)(h:p (zs.getD k 0)=true):zs.any p=true:=by
 rw[List.any_eq_true];refine⟨zs[k],List.getElem_mem hk,?_⟩;rwa[List.getD_eq_getElem?_getD,List.getElem?_eq_getElem hk]at h
theorem any_none(zs:List Int)(p:Int→Bool)(h:∀ k,k<zs.length→p (zs.getD k 0)=false):¬ zs.any p=true:=by
 rw[List.any_eq_true];rintro⟨x,hx,hp⟩;obtain⟨k,hk,rfl⟩:=List.mem_iff_getElem.1 hx;have:=h k hk;rw[List.getD_eq_getElem?_getD,List.getElem?_eq_getElem hk]at this;rw[Option.getD_some]at this;rw[this]at hp
 cases hp
abbrev qcP(zs:List Int):Prop:=2<zs.getD 0 0∨(zs.getD 0 0<2∧39<zs.getD 1 0)∨1000000<zs.getD 1 0
theorem oid_few(zs:List Int)(h:zs.length<2):qcc zs=1:=if_pos h
theorem oid_neg(zs:List Int)(h2:¬ zs.length<2)(k:Nat)(hk:k<zs.length)(h:zs.getD k 0<0):qcc zs=1:=by
 rw[qcc,if_neg h2,if_pos (any_at zs _ k hk (decide_eq_true h))]
theorem oid_arg(zs:List Int)(h2:¬ zs.length<2)(h:qcP zs):qcc zs=1:=by
 rw[qcc,if_neg h2];by_cases q:(zs.any fun z=>decide (z<0))=true
 ·rw[if_pos q]
 ·rw[if_neg q,if_pos h]
theorem oid_many(zs:List Int)(h2:¬ zs.length<2)(hn:∀ k,k<zs.length→0≤zs.getD k 0)(hb:¬ qcP zs)(h:20<zs.length):qcc zs=13:=by
 rw[qcc,if_neg h2,if_neg (any_none zs _ fun k hk=>decide_eq_false (by have:=hn k hk;omega)),if_neg hb,if_pos h]
theorem drop2_at(zs:List Int)(j:Nat):(zs.drop 2).getD j 0=zs.getD (2+j) 0:=by
 rw[List.getD_eq_getElem?_getD,List.getD_eq_getElem?_getD,List.getElem?_drop]
theorem oid_big(zs:List Int)(h2:¬ zs.length<2)(hn:∀ k,k<zs.length→0≤zs.getD k 0)(hb:¬ qcP zs)(h:¬ 20<zs.length)(k:Nat)(h2k:2≤k)(hk:k<zs.length)(hz:268435455<zs.getD k 0):qcc zs=13:=by
 rw[qcc,if_neg h2,if_neg (any_none zs _ fun k hk=>decide_eq_false (by have:=hn k hk;omega)),if_neg hb,if_neg h,if_pos];refine any_at (zs.drop 2) _ (k-2) (by rw[List.length_drop];omega) ?_;rw[drop2_at,show 2+(k-2)=k by omega];exact decide_eq_true hz
theorem oid_ok(zs:List Int)(h2:¬ zs.length<2)(hn:∀ k,k<zs.length→0≤zs.getD k 0)(hb:¬ qcP zs)(h:¬ 20<zs.length)(hz:∀ k,2≤k→k<zs.length→zs.getD k 0≤268435455):qcc zs=0:=by
 rw[qcc,if_neg h2,if_neg (any_none zs _ fun k hk=>decide_eq_false (by have:=hn k hk;omega)),if_neg hb,if_neg h,if_neg];refine any_none (zs.drop 2) _ fun j hj=>?_;rw[List.length_drop]at hj;have:=hz (2+j) (by omega) (by omega);rw[drop2_at];exact decide_eq_false (by omega)
theorem qd0(zs:List Int)(e:Int)(h:qcc zs=e)(he:e≠0):oidX zs=⟨#[]⟩∧qcc zs=e:=⟨if_neg (by rw[h];exact he),h⟩
def oidP(zs:List Int)(k:Nat):ByteArray:=⟨(grL (40*zs.getD 0 0+zs.getD 1 0).toNat++restL ((zs.drop 2).take (k-2))).toArray⟩
def grB(z:Int):ByteArray:=⟨(grL z.toNat).toArray⟩
theorem oidP_two(zs:List Int):oidP zs 2=grB (40*zs.getD 0 0+zs.getD 1 0):=by
 rw[oidP,grB,Nat.sub_self,List.take_zero,show restL []=[] from rfl,List.append_nil]
theorem oidP_succ(zs:List Int)(k:Nat)(h2:2≤k)(hk:k<zs.length):oidP zs (k+1)=oidP zs k++grB (zs.getD k 0):=by
 apply ByteArray.ext;apply Array.toList_inj.1;have z0:k-2<(zs.drop 2).length:=by rw[List.length_drop];omega
 have e:(zs.drop 2)[k-2]=zs.getD k 0:=by
  rw[List.getElem_drop,List.getD_eq_getElem?_getD,List.getElem?_eq_getElem hk];simp only[show 2+(k-2)=k by omega]
  rfl
 rw[ByteArray.data_append,Array.toList_append];show grL _++restL ((zs.drop 2).take (k+1-2))=(grL _++restL ((zs.drop 2).take (k-2)))++grL (zs.getD k 0).toNat;rw[show k+1-2=(k-2)+1 by omega,List.take_succ_eq_append_getElem z0,e,restL,List.flatMap_append,List.flatMap_cons,List.flatMap_nil,List.append_nil,List.append_assoc]
 rfl
theorem oidP_end(zs:List Int):oidP zs zs.length=oidB zs:=by
 rw[oidP,oidB,oidL,jtl (by rw[List.length_drop];omega)]
theorem grB_size(z:Int):(grB z).size≤10:=(qfD z.toNat).2
theorem oidP_size(zs:List Int)(k:Nat)(h:k≤20):(oidP zs k).size≤210:=by
 have a:=qfY ((zs.drop 2).take (k-2));have b:=(qfD (40*zs.getD 0 0+zs.getD 1 0).toNat).2;rw[List.length_take]at a;show (grL _++restL _).length≤210;rw[List.length_append];omega
theorem rOid_any(ao:Option Addr)(n c:Nat)(zs:List Int)(w:World)(hn:zs.length=n)(hm:n≤1000000)(hz:∀ k,-9223372036854775808≤zs.getD k 0∧zs.getD k 0≤9223372036854775807)(hi:IntsAt w ao zs):Rt 116 #[.slice ao n c] w (.tuple #[.string (oidX zs),.int .i64 (qcc zs)]):=by
 unfold Rt;by_cases h2:n<2
 ·have d2:decide ((n:Int)<2)=true:=by simp;omega
  have HR:=hid (qd0 zs 1 (oid_few zs (by omega)) (by decide));have hb:=Below.refl w.heap.size w;go_enter func116,ntmps116;go_wp2_with fail;go_ret2;exact⟨by rw[HR.out.1,HR.out.2];rfl,hb⟩
 have d2:decide ((n:Int)<2)=false:=by simp;omega
 have HN:=hid hn;have HZ:=hid hz;have HI:=hid hi;have hb:=Below.refl w.heap.size w;obtain⟨g,z8,rfl,c0⟩:=hi 0 (by omega);obtain⟨g1,off1,eg,c1⟩:=hi 1 (by omega)
 cases eg
 rw[Nat.add_zero]at c0;have zz:(0:Int)<(n:Int):=by omega
 have zA:(1:Int)<(n:Int):=by omega
 have zB:0<n:=by omega
 have zC:1<n:=by omega
 clear hz hi;go_enter func116,ntmps116;go_wp2_with fail
 go_loopw [4] (fun iv wr=>∃ k:Nat,k≤n∧iv=.int .i64 (k:Int)∧(∀ j,j<k→0≤zs.getD j 0)∧w=wr) (fun iv _=>n-(intOf iv).toNat)
 case atStart=>exact⟨0,by omega,rfl,fun j hj=>by omega,rfl⟩
 case round=>
  obtain⟨k,zy,rfl,z0,rfl⟩:=hrel;by_cases zg:k<n
  ·have hd:decide ((k:Int)<(n:Int))=true:=by simp;omega
   have zf:(k:Int)<(n:Int):=by omega
   obtain⟨g',zi,eg,cz⟩:=HI.out k (by rw[HN.out];exact zg)
   cases eg
   have z1:=hid z0;clear z0 c0 c1;generalize z3:zs.getD k 0=z at cz;by_cases zo:z<0
   ·have dz:decide (z<0)=true:=by simp;omega
    have HR:=hid (qd0 zs 1 (oid_neg zs (by omega) k (by omega) (by rw[z3];exact zo)) (by decide));clear z3;go_wp2_with fail;go_ret2;exact⟨by rw[HR.out.1,HR.out.2];rfl,hb⟩
   ·have dz:decide (z<0)=false:=by simp;omega
    have z4:Hid (∀ j,j<k+1→0≤zs.getD j 0):=hid (fun j h=>by
     by_cases c:j<k
     ·exact z1.out j c
     ·obtain rfl:j=k:=by omega
      rw[z3];omega)
    clear z3 z1;go_wp2_with fail;go_roundw
    case rel=>exact⟨k+1,by omega,by go_num,z4.out,by first|rfl|trivial⟩
    case measure=>simp[intOf];omega
  ·have hd:decide ((k:Int)<(n:Int))=false:=by simp;omega
   obtain rfl:n=k:=by omega
   have z7:Hid (∀ j,j<zs.length→0≤zs.getD j 0):=hid (fun j h=>z0 j (by rw[← HN.out];exact h));have zG:=z0 0 (by omega);have zI:=z0 1 (by omega);have zH:=HZ.out 0;have zJ:=HZ.out 1;clear z0;generalize hx:zs.getD 0 0=x at c0 zG zH;generalize hy:zs.getD 1 0=y at c1 zI zJ;by_cases ca:2<x
   ·have t0:decide (2<x)=true:=(by first|(simp;done)|(simp;omega));have HR:=hid (qd0 zs 1 (oid_arg zs (by omega) (by rw[qcP,hx,hy];omega)) (by decide));clear hx hy;go_wp2_with fail;go_ret2;exact⟨by rw[HR.out.1,HR.out.2];rfl,hb⟩
   by_cases cb:x<2
   ·by_cases cc:39<y
    ·have t0:decide (2<x)=false:=(by first|(simp;done)|(simp;omega));have t1:decide (x<2)=true:=(by first|(simp;done)|(simp;omega));have t2:decide (39<y)=true:=(by first|(simp;done)|(simp;omega));have HR:=hid (qd0 zs 1 (oid_arg zs (by omega) (by rw[qcP,hx,hy];omega)) (by decide));clear hx hy;go_wp2_with fail;go_ret2;exact⟨by rw[HR.out.1,HR.out.2];rfl,hb⟩
    ·have t0:decide (2<x)=false:=(by first|(simp;done)|(simp;omega));have t1:decide (x<2)=true:=(by first|(simp;done)|(simp;omega));have t2:decide (39<y)=false:=(by first|(simp;done)|(simp;omega));have t3:decide (1000000<y)=false:=(by first|(simp;done)|(simp;omega));have z2:¬ qcP zs:=by rw[qcP,hx,hy];omega
     by_cases zD:20<n
     ·have zm:decide ((20:Int)<(n:Int))=true:=by simp;omega
      have HR:=hid (qd0 zs 13 (oid_many zs (by omega) z7.out z2 (by omega)) (by decide));go_wp2_with fail;go_ret2;exact⟨by rw[HR.out.1,HR.out.2];rfl,hb⟩
     have zm:decide ((20:Int)<(n:Int))=false:=by simp;omega
     have zE:0≤40*x∧40*x≤80:=by omega
     have zp:0≤40*x+y∧40*x+y≤1000080:=by omega
     have zw:wrap64 (40*x)=40*x:=by unfold wrap64;omega
     have zx:wrap64 (40*x+y)=40*x+y:=by unfold wrap64;omega
     have zu:IntKind.i64.wrap (40*x)=40*x:=by rw[IntKind.wrap_i64];omega
     have zv:IntKind.i64.wrap (40*x+y)=40*x+y:=by rw[IntKind.wrap_i64];omega
     have z5:=hid (fun W=>qfk (40*x+y) W zp.1 (by omega));rw[show (⟨(grL (40*x+y).toNat).toArray⟩:ByteArray)=oidP zs 2 by rw[oidP_two,hx,hy];rfl]at z5;obtain⟨o2,zb⟩:∃ o2,oidP zs 2=o2:=⟨_,rfl⟩;rw[zb]at z5;have zj:=hid zb;clear zb;go_wp2_with fail;refine qaA 9 77 [(Told.val (.slice (some ⟨g,z8,none⟩) n c),[0]),(Told.val (.pointer (some ⟨g,z8,none⟩)),[46]),(Told.val (.int .i64 x),[47]),(Told.val (.int .i64 (40*x)),[48]),(Told.val (.slice (some ⟨g,z8,none⟩) n c),[0]),(Told.val (.pointer (some ⟨g,z8+1,none⟩)),[50]),(Told.val (.int .i64 y),[51]),(Told.val (.int .i64 (40*x+y)),[49,52]),(Told.val (.string o2),[53])]
      (by kernel_rfl) (by kernel_rfl) rfl ?_ ?_
     ·simp only[take_succ_cons,List.take_zero,qaQ,and_true];refine⟨?_,?_,?_,?_,?_,?_,?_,?_,?_⟩
      ·intro a w hb h;refine qag ?_;simp[go_sem,ud0 h rfl,qaa]
      ·intro a w hb h;refine qag ?_;simp[go_sem,td0 h rfl,qaa,zz,zB]
      ·intro a w hb h;have hc:=(hb.cell (jbc c0)).trans c0;refine qag ?_;simp[go_sem,td0 h rfl,qaa,hc]
      ·intro a w hb h;refine qag ?_;simp[go_sem,td0 h rfl,qaa,zw,zu]
      ·intro a w hb h;refine qag ?_;simp[go_sem,ud0 h rfl,qaa]
      ·intro a w hb h;refine qag ?_;simp[go_sem,td0 h rfl,qaa,zA,zC]
      ·intro a w hb h;have hc:=(hb.cell (jbc c1)).trans c1;refine qag ?_;simp[go_sem,td0 h rfl,qaa,hc]
      ·intro a w hb h;refine qag ?_;simp[go_sem,td0 h rfl,td1 h rfl,qaa,zx,zv]
      ·intro a w hb h;refine qag ?_;simp[go_sem,td0 h rfl,qaa];exact z5.out _
     simp only[zks,qaW,Act.put,zkt];rintro X bk _ rfl _ rfl _ rfl _ rfl _ rfl _ rfl _ rfl _ rfl _ rfl;clear z5;replace hb:=bws hb bk;clear bk c0 c1;go_wp2_with fail
     go_loopw [5,6] (fun ov iv wr=>∃ k:Nat,2≤k∧k≤n∧iv=.int .i64 (k:Int)∧ov=.string (oidP zs k)∧(∀ j,2≤j→j<k→zs.getD j 0≤268435455)∧Below w.heap.size w wr) (fun _ iv _=>n-(intOf iv).toNat)
     case atStart=>exact⟨2,by omega,by omega,rfl,by rw[zj.out],fun j h1 h2=>by omega,hb⟩
     case round=>
      clear hb;obtain⟨k,ze,zy,rfl,rfl,z0,hb⟩:=hrel;have z1:=hid z0;clear z0;by_cases zg:k<n
      ·have hd:decide ((k:Int)<(n:Int))=true:=by simp;omega
       have zf:(k:Int)<(n:Int):=by omega
       obtain⟨g',zi,eg,cz⟩:=(HI.out.step hb) k (by rw[HN.out];exact zg)
       cases eg
       have zh:=z7.out k (by omega);have zt:=HZ.out k;have HS:=hid (oidP_succ zs k ze (by omega));have zr:=oidP_size zs k (by omega);have zd:Hid (zs.getD k 0=zs.getD k 0):=hid rfl;generalize z3:zs.getD k 0=z at cz zh zt HS;by_cases z9:268435455<z
       ·have dz:decide (268435455<z)=true:=by simp;omega
        have HR:=hid (qd0 zs 13 (oid_big zs (by omega) z7.out z2 (by omega) k ze (by omega) (by rw[z3];exact z9)) (by decide));clear HS z3 zd;generalize oidP zs k=ok at *;go_wp2_with fail;go_ret2;exact⟨by rw[HR.out.1,HR.out.2];rfl,hb⟩
       ·have dz:decide (268435455<z)=false:=by simp;omega
        have CG:=hid (fun W=>qfk z W zh (by omega));rw[show (⟨(grL z.toNat).toArray⟩:ByteArray)=grB z from rfl]at CG;have zn:=grB_size z;have z4:Hid (∀ j,2≤j→j<k+1→zs.getD j 0≤268435455):=hid (fun j h1 h2=>by
         by_cases c:j<k
         ·exact z1.out j h1 c
         ·obtain rfl:j=k:=by omega
          rw[z3];omega)
        obtain⟨pk,z6⟩:∃ pk,oidP zs k=pk:=⟨_,rfl⟩;obtain⟨gk,za⟩:∃ gk,grB z=gk:=⟨_,rfl⟩;rw[z6]at zr;rw[za]at CG zn;have zl:Hid (oidP zs (k+1)=pk++gk):=hid (by rw[HS.out,z6,za]);rw[z6];have zq:pk.size+gk.size≤9223372036854775807:=by omega
        clear HS zd z3 z6 za z1;go_wp2_with fail;refine (CG.out _).mono ?_;rintro e W1⟨rfl,bk⟩;replace hb:=bws hb bk;clear bk CG;go_wp2_with fail;go_roundw
        case rel=>exact⟨k+1,by omega,by omega,by go_num,by rw[zl.out],z4.out,hb⟩
        case measure=>simp[intOf];omega
      ·have hd:decide ((k:Int)<(n:Int))=false:=by simp;omega
       obtain rfl:n=k:=by omega
       have zc:=oid_ok zs (by omega) z7.out z2 (by omega) (fun j h1 h2=>z1.out j h1 (by omega));have hP:oidP zs n=oidB zs:=by rw[← HN.out];exact oidP_end zs
       have zF:=qgd zs (by omega);rw[hP];have CW:=hid (fun W=>qdr 6 (oidB zs) W (by decide) (by decide));rw[oid_wr zs (by omega)]at CW;have HX:Hid (oidX zs=wrX 6 (oidB zs)):=hid (if_pos zc);have zk:=hid zc;generalize wrX 6 (oidB zs)=xo at *;generalize oidB zs=ob at *;clear zc hP;go_wp2_with fail;refine (CW.out _).mono ?_;rintro e W1⟨rfl,bk⟩;replace hb:=bws hb bk;clear bk CW;go_wp2_with fail;go_ret2;exact⟨by rw[HX.out,zk.out];rfl,hb⟩
   by_cases cd:1000000<y
   ·have t0:decide (2<x)=false:=(by first|(simp;done)|(simp;omega));have t1:decide (x<2)=false:=(by first|(simp;done)|(simp;omega));have t2:decide (1000000<y)=true:=(by first|(simp;done)|(simp;omega));have HR:=hid (qd0 zs 1 (oid_arg zs (by omega) (by rw[qcP,hx,hy];omega)) (by decide));clear hx hy;go_wp2_with fail;go_ret2;exact⟨by rw[HR.out.1,HR.out.2];rfl,hb⟩
   ·have t0:decide (2<x)=false:=(by first|(simp;done)|(simp;omega));have t1:decide (x<2)=false:=(by first|(simp;done)|(simp;omega));have t2:decide (1000000<y)=false:=(by first|(simp;done)|(simp;omega));have z2:¬ qcP zs:=by rw[qcP,hx,hy];omega
    by_cases zD:20<n
    ·have zm:decide ((20:Int)<(n:Int))=true:=by simp;omega
     have HR:=hid (qd0 zs 13 (oid_many zs (by omega) z7.out z2 (by omega)) (by decide));go_wp2_with fail;go_ret2;exact⟨by rw[HR.out.1,HR.out.2];rfl,hb⟩
    have zm:decide ((20:Int)<(n:Int))=false:=by simp;omega
    have zE:0≤40*x∧40*x≤80:=by omega
    have zp:0≤40*x+y∧40*x+y≤1000080:=by omega
    have zw:wrap64 (40*x)=40*x:=by unfold wrap64;omega
    have zx:wrap64 (40*x+y)=40*x+y:=by unfold wrap64;omega
    have zu:IntKind.i64.wrap (40*x)=40*x:=by rw[IntKind.wrap_i64];omega
    have zv:IntKind.i64.wrap (40*x+y)=40*x+y:=by rw[IntKind.wrap_i64];omega
    have z5:=hid (fun W=>qfk (40*x+y) W zp.1 (by omega));rw[show (⟨(grL (40*x+y).toNat).toArray⟩:ByteArray)=oidP zs 2 by rw[oidP_two,hx,hy];rfl]at z5;obtain⟨o2,zb⟩:∃ o2,oidP zs 2=o2:=⟨_,rfl⟩;rw[zb]at z5;have zj:=hid zb;clear zb;go_wp2_with fail;refine qaA 9 77 [(Told.val (.slice (some ⟨g,z8,none⟩) n c),[0]),(Told.val (.pointer (some ⟨g,z8,none⟩)),[46]),(Told.val (.int .i64 x),[47]),(Told.val (.int .i64 (40*x)),[48]),(Told.val (.slice (some ⟨g,z8,none⟩) n c),[0]),(Told.val (.pointer (some ⟨g,z8+1,none⟩)),[50]),(Told.val (.int .i64 y),[51]),(Told.val (.int .i64 (40*x+y)),[49,52]),(Told.val (.string o2),[53])]
     (by kernel_rfl) (by kernel_rfl) rfl ?_ ?_
    ·simp only[take_succ_cons,List.take_zero,qaQ,and_true];refine⟨?_,?_,?_,?_,?_,?_,?_,?_,?_⟩
     ·intro a w hb h;refine qag ?_;simp[go_sem,ud0 h rfl,qaa]
     ·intro a w hb h;refine qag ?_;simp[go_sem,td0 h rfl,qaa,zz,zB]
     ·intro a w hb h;have hc:=(hb.cell (jbc c0)).trans c0;refine qag ?_;simp[go_sem,td0 h rfl,qaa,hc]
     ·intro a w hb h;refine qag ?_;simp[go_sem,td0 h rfl,qaa,zw,zu]
     ·intro a w hb h;refine qag ?_;simp[go_sem,ud0 h rfl,qaa]
     ·intro a w hb h;refine qag ?_;simp[go_sem,td0 h rfl,qaa,zA,zC]
     ·intro a w hb h;have hc:=(hb.cell (jbc c1)).trans c1;refine qag ?_;simp[go_sem,td0 h rfl,qaa,hc]
     ·intro a w hb h;refine qag ?_;simp[go_sem,td0 h rfl,td1 h rfl,qaa,zx,zv]
     ·intro a w hb h;refine qag ?_;simp[go_sem,td0 h rfl,qaa];exact z5.out _
    simp only[zks,qaW,Act.put,zkt];rintro X bk _ rfl _ rfl _ rfl _ rfl _ rfl _ rfl _ rfl _ rfl _ rfl;clear z5;replace hb:=bws hb bk;clear bk c0 c1;go_wp2_with fail
    go_loopw [5,6] (fun ov iv wr=>∃ k:Nat,2≤k∧k≤n∧iv=.int .i64 (k:Int)∧ov=.string (oidP zs k)∧(∀ j,2≤j→j<k→zs.getD j 0≤268435455)∧Below w.heap.size w wr) (fun _ iv _=>n-(intOf iv).toNat)
    case atStart=>exact⟨2,by omega,by omega,rfl,by rw[zj.out],fun j h1 h2=>by omega,hb⟩
    case round=>
     clear hb;obtain⟨k,ze,zy,rfl,rfl,z0,hb⟩:=hrel;have z1:=hid z0;clear z0;by_cases zg:k<n
     ·have hd:decide ((k:Int)<(n:Int))=true:=by simp;omega
      have zf:(k:Int)<(n:Int):=by omega
      obtain⟨g',zi,eg,cz⟩:=(HI.out.step hb) k (by rw[HN.out];exact zg)
      cases eg
      have zh:=z7.out k (by omega);have zt:=HZ.out k;have HS:=hid (oidP_succ zs k ze (by omega));have zr:=oidP_size zs k (by omega);have zd:Hid (zs.getD k 0=zs.getD k 0):=hid rfl;generalize z3:zs.getD k 0=z at cz zh zt HS;by_cases z9:268435455<z
      ·have dz:decide (268435455<z)=true:=by simp;omega
       have HR:=hid (qd0 zs 13 (oid_big zs (by omega) z7.out z2 (by omega) k ze (by omega) (by rw[z3];exact z9)) (by decide));clear HS z3 zd;generalize oidP zs k=ok at *;go_wp2_with fail;go_ret2;exact⟨by rw[HR.out.1,HR.out.2];rfl,hb⟩
      ·have dz:decide (268435455<z)=false:=by simp;omega
       have CG:=hid (fun W=>qfk z W zh (by omega));rw[show (⟨(grL z.toNat).toArray⟩:ByteArray)=grB z from rfl]at CG;have zn:=grB_size z;have z4:Hid (∀ j,2≤j→j<k+1→zs.getD j 0≤268435455):=hid (fun j h1 h2=>by
        by_cases c:j<k
        ·exact z1.out j h1 c
        ·obtain rfl:j=k:=by omega
         rw[z3];omega)
       obtain⟨pk,z6⟩:∃ pk,oidP zs k=pk:=⟨_,rfl⟩;obtain⟨gk,za⟩:∃ gk,grB z=gk:=⟨_,rfl⟩;rw[z6]at zr;rw[za]at CG zn;have zl:Hid (oidP zs (k+1)=pk++gk):=hid (by rw[HS.out,z6,za]);rw[z6];have zq:pk.size+gk.size≤9223372036854775807:=by omega
       clear HS zd z3 z6 za z1;go_wp2_with fail;refine (CG.out _).mono ?_;rintro e W1⟨rfl,bk⟩;replace hb:=bws hb bk;clear bk CG;go_wp2_with fail;go_roundw
       case rel=>exact⟨k+1,by omega,by omega,by go_num,by rw[zl.out],z4.out,hb⟩
       case measure=>simp[intOf];omega
     ·have hd:decide ((k:Int)<(n:Int))=false:=by simp;omega
      obtain rfl:n=k:=by omega
      have zc:=oid_ok zs (by omega) z7.out z2 (by omega) (fun j h1 h2=>z1.out j h1 (by omega));have hP:oidP zs n=oidB zs:=by rw[← HN.out];exact oidP_end zs
      have zF:=qgd zs (by omega);rw[hP];have CW:=hid (fun W=>qdr 6 (oidB zs) W (by decide) (by decide));rw[oid_wr zs (by omega)]at CW;have HX:Hid (oidX zs=wrX 6 (oidB zs)):=hid (if_pos zc);have zk:=hid zc;generalize wrX 6 (oidB zs)=xo at *;generalize oidB zs=ob at *;clear zc hP;go_wp2_with fail;refine (CW.out _).mono ?_;rintro e W1⟨rfl,bk⟩;replace hb:=bws hb bk;clear bk CW;go_wp2_with fail;go_ret2;exact⟨by rw[HX.out,zk.out];rfl,hb⟩
end
end Go.Proofs.YteomfleofeeofaaGreatDoor
