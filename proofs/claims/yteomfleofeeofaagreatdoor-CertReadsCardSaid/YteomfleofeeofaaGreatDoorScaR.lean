/- The reference's order, and which of two numbers is less. -/
import Derived.Test.YteomfleofeeofaaGreatDoorScaA
import Derived.Test.YteomfleofeeofaaGreatDoorFldR
namespace Go.Proofs.YteomfleofeeofaaGreatDoor
open Go.Lib (hid)
set_option maxHeartbeats 16000000
open Go.Proofs.Tryz
set_option maxRecDepth 100000
set_option linter.unusedSimpArgs false
set_option linter.unusedVariables false
section
open Go.RowKit Go.Sort
theorem order_any(w:World):Calls Tryz.prog 149 #[] w fun e w'=>e=.returned (.slice (some ⟨w.heap.size,0,none⟩) 16 16)∧w'=w.alloc (.cells (dcl (digN lF)) 3):=by
 have HL:=hid (show dcl (digN lF)=dcl [54253,23797,25370,22546,40150,41719,63966,5342,0,0,0,0,0,0,0,4096] by rw[lF_digits]);go_enter func149,ntmps149;go_wp2_with fail;go_ret;exact⟨rfl,by rw[HL.out];rfl⟩
theorem lessRef_any(da db:Value)(x y:Nat)(w:World)(hx:x<mF)(hy:y<mF)(ha:DigAt w da (digN x))(hb:DigAt w db (digN y)):Rt 148 #[da,db] w (.bool (decide (x<y))):=by
 unfold Rt;obtain⟨Da,ca,rfl,z5⟩:=ha;obtain⟨Db,cb,rfl,z6⟩:=hb;have z9:=hid z5;have za:=hid z6;have HS:=hid (digN_same x y hx hy);have zc:=hid (fun i hi=>digN_less x y i hi hx hy);have zf:=jbc (z5 0 (by decide));have zg:=jbc (z6 0 (by decide));clear z5 z6 hx hy;go_enter func148,ntmps148;go_wp2_with fail
 go_loopw [5] (fun iv wr=>∃ i:Nat,i≤16∧iv=.int .i64 ((i:Int)-1)∧(∀ j,i≤j→j<16→(digN x).getD j 0=(digN y).getD j 0)∧Below w.heap.size w wr) (fun iv _=>(intOf iv+1).toNat)
 case atStart=>exact⟨16,by omega,rfl,fun j hj z7=>absurd z7 (by omega),Below.refl _ _⟩
 case round=>
  obtain⟨i,hi,rfl,hs,hb⟩:=hrel;have HE:=hid hs;clear hs;by_cases zd:i=0
  ·subst zd;have hd:decide ((0:Int)≤((0:Nat):Int)-1)=false:=by decide
   have z3:decide (x<y)=false:=by
    have:=HS.out (fun j hj=>HE.out j (Nat.zero_le _) hj);rw[this];simp
   have z4:=hid z3;clear z3;go_wp2_with fail;go_ret;exact⟨by rw[z4.out];rfl,hb⟩
  ·obtain⟨t,rfl⟩:∃ t,i=t+1:=⟨i-1,by omega⟩;have z0:((t+1:Nat):Int)-1=(t:Int):=by omega
   rw[z0];have hd:decide ((0:Int)≤(t:Int))=true:=by simp
   have z8:t<16:=by omega
   have c1:=(hb.cell (p:=⟨Da,t,none⟩) zf).trans (z9.out t z8);have c2:=(hb.cell (p:=⟨Db,t,none⟩) zg).trans (za.out t z8);by_cases z2:(digN x).getD t 0=(digN y).getD t 0
   ·have zb:Hid (∀ j,t≤j→j<16→(digN x).getD j 0=(digN y).getD j 0):=hid (fun j hj z7=>by
     by_cases ze:j=t
     ·rw[ze];exact z2
     ·exact HE.out j (by omega) z7)
    generalize (digN x).getD t 0=p at *;generalize (digN y).getD t 0=q at *;have hq:((p:Int) != (q:Int))=false:=by simp[z2]
    clear z2 z0;go_wp2_with fail
    go_quiet (fail)
    go_wp2_with fail;go_roundw
    case rel=>exact⟨t,by omega,by go_num,zb.out,below_drewN hb _⟩
    case measure=>simp[intOf]<;>omega
   ·have z1:=zc.out t z8 (fun j h1 h2=>HE.out j (by omega) h2) z2;have z3:decide ((digN x).getD t 0<(digN y).getD t 0)=decide (x<y):=by
     rw[decide_eq_decide];exact z1
    generalize (digN x).getD t 0=p at *;generalize (digN y).getD t 0=q at *;have hq:((p:Int) != (q:Int))=true:=by simp;omega
    have z4:=hid z3;clear z2 z3 z1 z0;go_wp2_with fail
    go_quiet (fail)
    go_wp2_with fail
    go_quiet (fail)
    go_wp2_with fail;go_ret;exact⟨by rw[← z4.out];rfl,below_drewN (below_drewN hb _) _⟩
theorem cy2_le(x b i:Nat)(hb:b<2):cy2 x b i≤1:=by
 have hp:0<65536^i:=Nat.pow_pos (by decide);have h:(2*(x%65536^i)+b)/65536^i<2:=Nat.div_lt_of_lt_mul (by have:=Nat.mod_lt x hp;omega);rw[cy2];omega
def stD(y z i:Nat):List Nat:=mkD fun j=>if j<i then z/65536^j%65536 else y/65536^j%65536
theorem qfI(y z i:Nat):(stD y z i).length=16:=qbp _
theorem stD_zero(y z:Nat):stD y z 0=digN y:=qbU (qfI ..) (qaG _) fun j hj=>by rw[stD,qbs _ _ hj,if_neg (by omega),qbC _ _ hj]
theorem stD_full(y z:Nat):stD y z 16=digN z:=qbU (qfI ..) (qaG _) fun j hj=>by rw[stD,qbs _ _ hj,if_pos hj,qbC _ _ hj]
theorem stD_get(y z i:Nat)(h:i<16):(stD y z i).getD i 0=y/65536^i%65536:=by rw[stD,qbs _ _ h,if_neg (by omega)]
theorem stD_set(y z i:Nat)(h:i<16):(stD y z i).set i (z/65536^i%65536)=stD y z (i+1):=by
 have:=mkD_set (fun j=>if j<i then z/65536^j%65536 else y/65536^j%65536) (fun j=>if j<i+1 then z/65536^j%65536 else y/65536^j%65536) i h (fun j hj hne=>by
  by_cases h1:j<i
  ·simp[h1,Nat.lt_succ_of_lt h1]
  ·have:¬ j<i+1:=by omega
   simp[h1,this])
 rw[stD,stD];simpa using this
theorem two_mF(x b:Nat)(hx:x<lF)(hb:b<2):2*x+b<mF:=by
 have e1:lF=7237005577332262213973186563042994240857116359379907606001950938285454250989:=rfl;have e2:mF=115792089237316195423570985008687907853269984665640564039457584007913129639936:=rfl;omega
theorem brF_le(x y i:Nat):brF x y i≤1:=by rw[brF];split<;>omega
theorem stepRef_any(da:Value)(x b:Nat)(w:World)(hx:x<lF)(hb:b<2)(ha:DigAt w da (digN x)):Calls Tryz.prog 179 #[da,.int .i64 (b:Int)] w fun e w'=>(∃ d',e=.returned d'∧DigAt w' d' (digN ((2*x+b)%lF)))∧Below w.heap.size w w':=by
 obtain⟨Da,ca,rfl,zg⟩:=ha;have zv:=hid zg;have HA:=hid (qa2 x);have zr:=hid (fun j (hj:j<16)=>qbC x j hj);have zB:=hid (fun i=>cy2_step x b i hb);have zw:=hid (fun i=>cy2_le x b i hb);have zp:=two_mF x b hx hb;have zC:=hid zp;have za:=hid (twice_mod x b hx hb);have zu:=hid (cy2_zero x b);have zG:=makeF16;obtain⟨f,hf⟩:∃ f:Nat→Nat,f=fun i=>(2*x+b)/65536^i%65536:=⟨_,rfl⟩;have HF:=hid (fun j=>(show f j=(2*x+b)/65536^j%65536 by rw[hf]));have HV:=hid (show mkD f=digN (2*x+b) by rw[hf];rfl);have HO:=hid (show (w.alloc (.cells qaI 3)).heap[w.heap.size]?=some (.cells (dcl (qbN f 0)) 3) from qad w _);have zl:=qaf w (.cells qaI 3);have zE:=jbc (zg 0 (by decide));clear zg hx hf zp;go_enter func179,ntmps179;go_wp2_with fail;clear zG;generalize (w.alloc (.cells qaI 3))=W0 at *;generalize zm:w.heap.size=O at *;have zi:=hid zm;clear zm
 go_loopw [6,7] (fun cv iv wr=>∃ i:Nat,i≤16∧iv=.int .i64 (i:Int)∧cv=.int .i64 ((cy2 x b i:Nat):Int)∧wr.heap[O]?=some (.cells (dcl (qbN f i)) 3)∧Below O w wr) (fun _ iv _=>16-(intOf iv).toNat)
 case atStart=>exact⟨0,by omega,rfl,by rw[zu.out],HO.out,zl⟩
 case round=>
  clear HO zl;obtain⟨i,hi,rfl,rfl,ho,z2⟩:=hrel;have HO:=hid ho;clear ho;by_cases z0:i<16
  ·have zh:decide ((i:Int)<16)=true:=by simp;omega
   have c1:=(z2.cell (p:=⟨Da,i,none⟩) zE).trans (zv.out i z0);obtain⟨s1,s2⟩:=zB.out i;have hcl:=zw.out i;have hd1:=HA.out i z0;rw[← zr.out i z0]at s1 s2;rw[← HF.out i]at s1;have zA:=hid s1;have zf:=hid s2.symm;clear s1 s2;generalize (digN x).getD i 0=d at *;generalize cy2 x b i=c at *;have z6:bits .and .i64 ((c:Int)+2*(d:Int)) 65535=((f i:Nat):Int):=by
    have:=and_16 (c+2*d) (by omega);rw[zA.out]at this;rw[← this];congr 1
   have cx:=qbc HO.out i (by rw[qcy];exact z0);have fx:=jfr wr O i _ _ HO.out;have r1:=qbQ HO.out i (f i);rw[qep f i z0]at r1;have z1:=hid r1;have zb:Below O w (wr.setCell ⟨O,i,none⟩ (.int .i64 ((f i:Nat):Int))):=z2.setCell (jlr _) _;clear r1 z2;generalize f i=fi at *;go_wp2_with fail;go_roundw
   case rel=>exact⟨i+1,by omega,by go_num,by rw[zf.out];go_num,z1.out,zb⟩
   case measure=>simp[intOf];omega
  ·have zh:decide ((i:Int)<16)=false:=by simp;omega
   obtain rfl:i=16:=by omega
   rw[qeG,HV.out]at HO;generalize zq:2*x+b=y at *;have zk:=hid zq;clear zq;go_wp2_with fail;refine (order_any wr).mono ?_;rintro e W1⟨rfl,rfl⟩;have HOl:=qac HO.out;have z7:=hid (qad wr (.cells (dcl (digN lF)) 3));have z1:=hid (qah (o:=.cells (dcl (digN lF)) 3) HO.out);have zb:Below O w (wr.alloc (.cells (dcl (digN lF)) 3)):=z2.alloc (by omega) _;clear HO z2;generalize (wr.alloc (.cells (dcl (digN lF)) 3))=W1 at *;generalize wr.heap.size=L at *;have z5:=hid (lessRef_any (.slice (some ⟨O,0,none⟩) 16 16) (.slice (some ⟨L,0,none⟩) 16 16) y lF W1 zC.out lF_lt (DigAt.of_block z1.out (qaG _)) (DigAt.of_block z7.out (qaG _)));by_cases zd:y<lF
   ·rw[decide_eq_true zd]at z5;rw[if_pos zd]at za;go_wp2_with fail;refine z5.out.mono ?_;rintro e W2⟨rfl,z3⟩;have z8:=hkp z1 z3;have z4:Below O w W2:=zb.trans (z3.mono (jll (qac z1.out)));clear z3 z5 z1 z7;go_wp2_with fail;go_ret;exact⟨⟨_,rfl,by rw[zk.out,za.out];exact DigAt.of_block z8.out (qaG _)⟩,by rw[zi.out];exact z4⟩
   ·rw[decide_eq_false zd]at z5;rw[if_neg zd]at za;have zt:=hid (fun i=>brF_step y lF i (by omega));have zD:=hid (fun j (hj:j<16)=>qbC lF j hj);have zy:=hid (qa2 lF);go_wp2_with fail;refine z5.out.mono ?_;rintro e W2⟨rfl,z3⟩;have z8:=hkp z1 z3;have zj:=hkp z7 z3;have z4:Below O w W2:=zb.trans (z3.mono (jll (qac z1.out)));clear z3 z5 z1 z7;go_wp2_with fail
    go_loopw [9,10] (fun bv iv wr=>∃ i:Nat,i≤16∧iv=.int .i64 (i:Int)∧bv=.int .i64 (-((brF y lF i:Nat):Int))∧wr.heap[O]?=some (.cells (dcl (stD y (y-lF) i)) 3)∧wr.heap[L]?=some (.cells (dcl (digN lF)) 3)∧Below O w wr) (fun _ iv _=>16-(intOf iv).toNat)
    case atStart=>exact⟨0,by omega,rfl,by rw[brF_zero];rfl,by rw[stD_zero];exact z8.out,zj.out,z4⟩
    case round=>
     clear z8 zj z4;obtain⟨i,hi,rfl,rfl,ho,zn,z2⟩:=hrel;have HO:=hid ho;have HL:=hid zn;clear ho zn;by_cases z0:i<16
     ·have zh:decide ((i:Int)<16)=true:=by simp;omega
      have c1:=qbc HO.out i (by rw[qfI];exact z0);have c2:=qbc HL.out i (by rw[qaG];exact z0);rw[stD_get _ _ _ z0]at c1;obtain⟨s1,s2⟩:=zt.out i;have hl16:=zy.out i z0;have hbr:=brF_le y lF i;have hp16:y/65536^i%65536<65536:=Nat.mod_lt _ (by decide);rw[← zD.out i z0]at s1 s2;have HS:=hid (stD_set y (y-lF) i z0);have hll:=qfI y (y-lF) i;generalize (y-lF)/65536^i%65536=z at *;generalize y/65536^i%65536=p at *;generalize (digN lF).getD i 0=q at *;generalize zc:brF y lF (i+1)=br2 at *;have zs:=hid zc;clear zc;generalize brF y lF i=br at *;generalize stD y (y-lF) i=u at *;have zo:(p:Int)-(q:Int) + -(br:Int)=(p:Int)-(q:Int)-(br:Int):=by omega
      rw[← zo]at s1 s2;have z6:=and_16i ((p:Int)-(q:Int) + -(br:Int));rw[s1]at z6;have zf:=hid s2;clear s1 s2 zo;go_wp2_with fail
      go_quiet (fail)
      have z9:Hid ((wr.drewN nq).heap[O]?=some (.cells (dcl u) 3)):=hid HO.out;have ze:Hid ((wr.drewN nq).heap[L]?=some (.cells (dcl (digN lF)) 3)):=hid HL.out;have z4:Below O w (wr.drewN nq):=below_drewN z2 _;clear c1 c2 HO HL z2;generalize wr.drewN nq=V at *;have c1:=qbc z9.out i (by omega);have f1:=jfr V O i _ _ z9.out;have r1:=qbQ z9.out i z;rw[HS.out]at r1;have zz:=hid r1;have zF:=qac ze.out;have zx:Hid ((V.setCell ⟨O,i,none⟩ (.int .i64 (z:Int))).heap[L]?=some (.cells (dcl (digN lF)) 3)):=hid (by rw[jso _ _ _ _ (by simp;omega)];exact ze.out);have zc:Below O w (V.setCell ⟨O,i,none⟩ (.int .i64 (z:Int))):=z4.setCell (jlr _) _;clear r1 z9 ze z4 zF;go_wp2_with fail;go_roundw
      case rel=>exact⟨i+1,by omega,by go_num,by rw[zf.out,zs.out],zz.out,zx.out,zc⟩
      case measure=>simp[intOf];omega
     ·have zh:decide ((i:Int)<16)=false:=by simp;omega
      obtain rfl:i=16:=by omega
      rw[stD_full]at HO;go_wp2_with fail;go_ret;exact⟨⟨_,rfl,by rw[zk.out,za.out];exact DigAt.of_block HO.out (qaG _)⟩,by rw[zi.out];exact z2⟩
def DigsAt(W:World)(n:Nat)(v:Value)(l:List Nat):Prop:=∃ D z0,v=.slice (some ⟨D,0,none⟩) n z0∧∀ j,j<n→W.cell? ⟨D,j,none⟩=some (.int .i64 ((l.getD j 0:Nat):Int))
def resX(V m:Nat):Nat:=V/2^m%lF
theorem resX_lt(V m:Nat):resX V m<lF:=Nat.mod_lt _ lF_pos
theorem resX_step(V m:Nat):(2*resX V (m+1)+V/2^m%2)%lF=resX V m:=rest_step V m
theorem resX_top(V m:Nat)(h:V<2^m):resX V m=0:=by rw[resX,Nat.div_eq_of_lt h,Nat.zero_mod]
theorem resX_end(V:Nat):resX V 0=V%lF:=by rw[resX,Nat.pow_zero,Nat.div_one]
theorem zeros_nought:qaI=dcl (digN 0):=by
 have:digN 0=List.replicate 16 0:=by decide +kernel
 rw[this];rfl
theorem digits_pow(l:List Nat)(n N:Nat)(hN:N=16*n)(h:∀ j,j<n→l.getD j 0<65536):dS l n<2^N:=by
 have:=dS_lt l n h;rw[hN,Nat.pow_mul];exact this
theorem bit_i64(d k:Nat):bits .and .i64 ((d:Int)/2^k) 1=((d/2^k%2:Nat):Int):=by
 rw[and_1i];simp
theorem restRef_any(dv:Value)(l:List Nat)(n:Nat)(w:World)(hn:n≤64)(hl:∀ j,j<n→l.getD j 0<65536)(hv:DigsAt w n dv l)(zn:0<n):Calls Tryz.prog 119 #[dv] w fun e w'=>(∃ d',e=.returned d'∧DigAt w' d' (digN (dS l n%lF)))∧Below w.heap.size w w':=by
 obtain⟨Dv,cv,rfl,z4⟩:=hv;have zd:=hid z4;have zl:=jbc (z4 0 zn);have z2:=hid (fun i k hi hk=>dS_bit l n i k hl hi hk);have z1:=digits_pow l n (16*n) rfl hl;obtain⟨V,hV⟩:∃ V,V=dS l n:=⟨_,rfl⟩;rw[← hV]at z2 z1;have zg:=hid hV;have zm:=makeF16;have z9:=qaf w (.cells qaI 3);have z7:Hid (DigAt (w.alloc (.cells qaI 3)) (.slice (some ⟨w.heap.size,0,none⟩) 16 16) (digN (resX V (16*n)))):=hid (by
  rw[resX_top V _ z1];exact DigAt.of_block (by rw[← zeros_nought];exact qad w _) (qaG _))
 have HE:=hid (resX_end V);have hw1:wrap64 ((n:Int)-1)=(n:Int)-1:=by unfold wrap64;omega
 clear z4 hl hV z1;go_enter func119,ntmps119;go_wp2_with fail;clear zm;generalize (w.alloc (.cells qaI 3))=W0 at *
 go_loopw [3,4] (fun ov iv wr=>∃ i:Nat,i≤n∧iv=.int .i64 ((i:Int)-1)∧DigAt wr ov (digN (resX V (16*i)))∧Below w.heap.size w wr) (fun _ iv _=>(intOf iv+1).toNat)
 case atStart=>exact⟨n,jlr _,rfl,z7.out,z9⟩
 case round=>
  clear z7 z9;obtain⟨i,hi,rfl,ho,hb⟩:=hrel;have HO:=hid ho;clear ho;by_cases zj:i=0
  ·subst zj;have hd:decide ((0:Int)≤((0:Nat):Int)-1)=false:=by decide
   rw[Nat.mul_zero,HE.out]at HO;go_wp2_with fail;go_ret;exact⟨⟨_,rfl,by rw[← zg.out];exact HO.out⟩,hb⟩
  ·obtain⟨t,rfl⟩:∃ t,i=t+1:=⟨i-1,by omega⟩;have z0:((t+1:Nat):Int)-1=(t:Int):=by omega
   rw[z0];have hd:decide ((0:Int)≤(t:Int))=true:=by simp
   have zc:t<n:=by omega
   have z8:Hid (DigAt wr _ (digN (resX V (16*t+16)))):=hid (show DigAt wr _ (digN (resX V (16*(t+1)))) from HO.out);clear HO z0 hi;go_wp2_with fail
   go_loopw [3,5] (fun ov kv wr=>∃ k:Nat,k≤16∧kv=.int .i64 ((k:Int)-1)∧DigAt wr ov (digN (resX V (16*t+k)))∧Below w.heap.size w wr) (fun _ kv _=>(intOf kv+1).toNat)
   case atStart=>exact⟨16,by omega,rfl,z8.out,hb⟩
   case round=>
    clear z8 hb;obtain⟨k,hk,rfl,ho,hb⟩:=hrel;have HO:=hid ho;clear ho;by_cases zk:k=0
    ·subst zk;have zi:decide ((0:Int)≤((0:Nat):Int)-1)=false:=by decide
     have zf:Hid (DigAt wr _ (digN (resX V (16*t)))):=hid HO.out;clear HO;go_wp2_with fail;go_roundw
     case rel=>exact⟨t,by omega,by go_num,zf.out,hb⟩
     case measure=>simp[intOf]<;>omega
    ·obtain⟨m,rfl⟩:∃ m,k=m+1:=⟨k-1,by omega⟩;have z0:((m+1:Nat):Int)-1=(m:Int):=by omega
     rw[z0];have zi:decide ((0:Int)≤(m:Int))=true:=by simp
     have z5:m<16:=by omega
     have c1:=(hb.cell (p:=⟨Dv,t,none⟩) zl).trans (zd.out t zc);have z3:=z2.out t m zc z5;have z6:=resX_step V (16*t+m);rw[← z3]at z6;have hx:=resX_lt V (16*t+m+1);have HC:=hid (stepRef_any _ (resX V (16*t+m+1)) (l.getD t 0/2^m%2) wr hx (by omega) HO.out);rw[z6]at HC;have hbi:=bit_i64 (l.getD t 0) m;generalize l.getD t 0=d at *;have htm:((m:Int)).toNat=m:=by omega
     clear z6 z3 hx HO z0 hk;generalize d/2^m%2=bt at *;go_wp2_with fail;refine HC.out.mono ?_;rintro e W2⟨⟨d2,rfl,zb⟩,za⟩;have ze:=hid zb;have zh:Below w.heap.size w W2:=hb.trans (za.mono hb.size);clear zb za HC c1 hb;go_wp2_with fail;go_roundw
     case rel=>exact⟨m,by omega,by go_num,ze.out,zh⟩
     case measure=>simp[intOf]<;>omega
theorem ofL_val(l:List UInt8)(n:Nat)(h:l.length=2*n):dS (ofL l n) n=nV l:=by
 rw[qgL l (ofL l n) n (fun j hj=>by rw[ofL,qdd _ _ _ hj]),← nV_leV,h]
theorem DigsAt.of_own{W:World}{base g z0 n:Nat}{l:List Nat}(h:OwnS W base g z0 (dvl l))(hl:l.length=n):DigsAt W n (.slice (some ⟨g,0,none⟩) n z0) l:=
 ⟨g,z0,rfl,fun j hj=>h.cells j _ (dvl_get l j (by omega))⟩
theorem DigsAt.step{W W':World}{n:Nat}{v:Value}{l:List Nat}(h:DigsAt W n v l)(hb:Below W.heap.size W W'):DigsAt W' n v l:=by
 obtain⟨D,z0,hv,hc⟩:=h;exact⟨D,z0,hv,fun j hj=>(hb.cell (jbc (hc j hj))).trans (hc j hj)⟩
theorem digitsRef_any(s:ByteArray)(n:Nat)(w:World)(h:s.size=2*n)(hn0:0<n)(hn:n≤64):Calls Tryz.prog 120 #[.string s] w fun e w'=>(∃ d',e=.returned d'∧DigsAt w' n d' (ofL s.data.toList n))∧Below w.heap.size w w':=by
 obtain⟨i0,hi,zr,zs,zt⟩:=info_parts qf9;have HH:=hid h;clear h;go_enter func120,ntmps120;go_wp2_with fail;generalize zh:w.heap.size=B at *;have zj:=hid zh;have zf:B≤w.heap.size:=by omega
 clear zh
 go_loopw [3,4] (fun lv iv wr=>∃ (k m:Nat) (ao:Option Addr) (z4:Nat),k≤n∧m=2*k∧iv=.int .i64 (m:Int)∧lv=.slice ao k z4∧Own wr B (.slice ao k z4) (dvl (ofL s.data.toList k))∧Below B w wr∧B≤wr.heap.size) (fun _ iv _=>2*n-(intOf iv).toNat)
 case atStart=>exact⟨0,0,none,0,by omega,rfl,rfl,rfl,Own.nil _ _,Below.refl _ _,zf⟩
 case round=>
  obtain⟨k,m,ao,z4,hk,hm,rfl,rfl,z1,hb,zc⟩:=hrel;have HM:=hid hm;have HO:=hid z1;have HL:=hid (show (dvl (ofL s.data.toList k)).length=k by rw[qdV,qdZ]);clear z1;by_cases hlt:k<n
  ·have zo:decide (m<s.size)=true:=by rw[HH.out];simp;omega
   have z7:m<s.size:=by rw[HH.out];omega
   have z8:m+1<s.size:=by rw[HH.out];omega
   have HN:=hid (ofL_snoc s.data.toList k);rw[← hm,qc1 s _ z7,qc1 s _ z8]at HN;have hx:=UInt8.toNat_lt s[m];have hy:=UInt8.toNat_lt s[m+1];have hm32:m<128:=by omega
   have zp:((m:Int)+1).toNat=m+1:=by omega
   have z9:(0:Int)≤(m:Int)+1∧(m:Int)+1<(s.size:Int):=by omega
   have za:(m:Int)+1<(s.size:Int):=by omega
   have zb:(0:Int)≤(m:Int)+1:=by omega
   clear hm;go_wp2_with fail;refine qbx 12 (.tmp 3) rfl rfl rfl (by kernel_rfl) (by kernel_rfl) (fun _ _ _ _ h=>h) ?_;simp only[List.take_succ_cons,List.take_zero,List.drop_succ_cons,List.drop_zero]
   repeat (first|go_big_quiet_step (fail)|quiet_step (fail))
   refine jqn ?_;intro W1 z5;have z6:=hid (HO.out.below z5);have zg:Below B w W1:=hb.trans (z5.mono zc);have zd:B≤W1.heap.size:=jlt zc z5.size;have z2:(((s[m].toNat+256*s[m+1].toNat:Nat)):Int)=(s[m].toNat:Int)+256*(s[m+1].toNat:Int):=by omega
   rw[z2]at HN;clear z2 HO hb z5 zc;generalize s[m].toNat=p at *;generalize s[m+1].toNat=q at *;clear z9 za zb zp;go_wp2_with (at_builtin;refine qaB rfl (.tmp 11) (.tmp 23) 68 rfl B 3 i0 (.int .i64 0) 8 underlying68 hi zr zs zt rfl ao k z4 _ rfl (z6.out.alloc _) HL.out ⟨W1.heap.size,0,none⟩ 1 1 [.int .i64 ((p:Int)+256*(q:Int))] rfl rfl (cell_one_new _ _ _) ?b2 ?b3 ?b4 ?b5 ?_)
   case b2=>intro u hu;simp at hu;subst hu;rfl
   case b3=>omega
   case b4=>omega
   case b5=>simp;omega
   intro zl zm W5 z3 z0;have zn:Below B w W5:=qaV (zg.alloc zd _) (by simp;omega) (z6.out.alloc _) z0;have ze:B≤W5.heap.size:=by have:=z0.size;simp at this;omega
   rw[HN.out]at z3;clear z0 z6 zg;go_wp2_with fail;go_roundw
   case rel=>exact⟨k+1,m+2,zl,zm,by omega,by rw[HM.out];omega,by go_num,rfl,z3,zn,ze⟩
   case measure=>have:=HM.out;simp[intOf];omega
  ·have zo:decide (m<s.size)=false:=by rw[HH.out];simp;omega
   have hdk2:¬ m<s.size:=by rw[HH.out];omega
   obtain rfl:k=n:=by omega
   obtain⟨g,gc,zi,z1,hgl⟩:=HO.out.some (by rw[HL.out];omega);have zq:Value.slice ao k z4=.slice (some ⟨g,0,none⟩) k gc:=by rw[zi,HL.out]
   injection zq with h1 h2 h3;subst h1 h3;clear zi;have zk:Hid (DigsAt wr k (.slice (some ⟨g,0,none⟩) k z4) (ofL s.data.toList k)):=hid (DigsAt.of_own z1 (qdZ _ _));clear z1 HO;go_wp2_with fail;go_ret;exact⟨⟨_,rfl,zk.out⟩,by rw[zj.out];exact hb⟩
theorem bytesRef10_any(da:Value)(x:Nat)(w:World)(ha:DigAt w da (digN x)):Rt 118 #[da] w (.string ⟨(leF x 32).toArray⟩):=by
 unfold Rt;obtain⟨i0,hi,zt,zu,zv⟩:=info_parts qca;obtain⟨Da,ca,rfl,z8⟩:=ha;have zl:=hid z8;have HA:=hid (qa2 x);have zm:=hid (fun k=>leF_two x k);have zs:=jbc (z8 0 (by decide));clear z8;go_enter func118,ntmps118;go_wp2_with fail;generalize zh:w.heap.size=B at *;have zk:=hid zh;have zd:B≤w.heap.size:=by omega
 clear zh
 go_loopw [3,4] (fun lv iv wr=>∃ (k n:Nat) (ao:Option Addr) (z5:Nat),k≤16∧n=2*k∧iv=.int .i64 (k:Int)∧lv=.slice ao n z5∧Own wr B (.slice ao n z5) (Lib.byteCells (leF x n))∧Below B w wr∧B≤wr.heap.size) (fun _ iv _=>16-(intOf iv).toNat)
 case atStart=>exact⟨0,0,none,0,by omega,rfl,rfl,rfl,Own.nil _ _,Below.refl _ _,zd⟩
 case round=>
  obtain⟨k,n,ao,z5,hk,hn,rfl,rfl,z3,hb,za⟩:=hrel;have HO:=hid z3;have HL:=hid (show (Lib.byteCells (leF x n)).length=n by rw[Lib.byteCells_length,qbb]);clear z3;by_cases z9:k<16
  ·have zr:decide ((k:Int)<16)=true:=by simp;omega
   have c1:=(hb.cell (p:=⟨Da,k,none⟩) zs).trans (zl.out k z9);have hd1:=HA.out k z9;have HN:=hid (zm.out k);rw[← qbC x k z9,← hn]at HN;generalize (digN x).getD k 0=d at *;have zp:(UInt8.ofNat d).toNat=d%256:=by rw[UInt8.toNat_ofNat']
   have z2:(UInt8.ofNat (d/256)).toNat=d/256%256:=by rw[UInt8.toNat_ofNat']
   have zf:=hid (show Lib.byteCells (leF x n)++[.int .u8 (((UInt8.ofNat d).toNat:Nat):Int),.int .u8 (((UInt8.ofNat (d/256)).toNat:Nat):Int)]=Lib.byteCells (leF x (2*(k+1))) by rw[← HN.out,Lib.byteCells_append];rfl);generalize UInt8.ofNat d=b0 at *;generalize UInt8.ofNat (d/256)=b1 at *;have zi:(b0.toNat:Int)=(d:Int)%256:=by omega
   have zj:(b1.toNat:Int)=(d:Int)/256:=by omega
   have hn32:n≤30:=by omega
   have ze:=hid (show 2*(k+1)=n+2 by omega);rw[zi,zj]at zf;clear HN zp z2 hn zi zj;go_wp2_with fail;have ka:=jcr c1;refine qbx 12 (.tmp 3) rfl rfl rfl (by kernel_rfl) (by kernel_rfl) (fun _ _ _ _ h=>h) ?_;simp only[List.take_succ_cons,List.take_zero,List.drop_succ_cons,List.drop_zero]
   repeat (first|go_big_quiet_step (fail)|quiet_step (fail))
   refine jqn ?_;intro W1 z2;have z6:=hid (HO.out.below z2);have zg:Below B w W1:=hb.trans (z2.mono za);have zb:B≤W1.heap.size:=jlt za z2.size;clear HO hb z2 za ka c1;go_wp2_with (at_builtin;refine qaB rfl (.tmp 9) (.tmp 21) 41 rfl B 5 i0 (.int .u8 0) 1 underlying41 hi zt zu zv rfl ao n z5 _ rfl (z6.out.alloc _) HL.out ⟨W1.heap.size,0,none⟩ 2 2 [.int .u8 ((d:Int)%256),.int .u8 ((d:Int)/256)] rfl rfl (cell_two_new _ _ _ _) ?b2 ?b3 ?b4 ?b5 ?_)
   case b2=>intro u hu;simp at hu;rcases hu with rfl|rfl<;>rfl
   case b3=>omega
   case b4=>omega
   case b5=>simp;omega
   intro zn zo W5 z1 z0;have zq:Below B w W5:=qaV (zg.alloc zb _) (by simp;omega) (z6.out.alloc _) z0;have zc:B≤W5.heap.size:=by have:=z0.size;simp at this;omega
   rw[zf.out,ze.out]at z1;clear z0 z6 zg;go_wp2_with fail;go_roundw
   case rel=>exact⟨k+1,n+2,zn,zo,by omega,ze.out.symm,by go_num,rfl,z1,zq,zc⟩
   case measure=>simp[intOf];omega
  ·have zr:decide ((k:Int)<16)=false:=by simp;omega
   obtain rfl:k=16:=by omega
   obtain rfl:n=32:=by omega
   have hc:=qgf HO.out (qbb x 32) (by decide);generalize z4:leF x 32=row at *;have z7:=hid z4;clear z4 HO HL hn;go_wp2_with fail;go_ret;exact⟨by rw[z7.out];rfl,by rw[zk.out];exact hb⟩
theorem ofL_sixteen(l:List UInt8)(h:l.length=32):ofL l 16=digN (nV l):=by
 have e:=eq_digN (ofL l 16) (qdZ _ _) (fun j hj=>ofL_lt l 16 j hj);rw[ofL_val l 16 h]at e;exact e
theorem nV_mF(l:List UInt8)(h:l.length=32):nV l<mF:=by
 have:=nV_lt l;rw[h]at this;rw[show mF=256^32 by decide];exact this
theorem rwide_any(s:ByteArray)(w:World):Rt 65 #[.string s] w (.tuple #[.string (qdF s),.int .i64 (qef s)]):=by
 unfold Rt;by_cases h:s.size=64
 ·have hd:((s.size:Int) != 64)=false:=by simp[h]
  have z3:s.data.toList.length=2*32:=by rw[← Lib.size_eq];exact h
  have C1:=hid (fun W=>digitsRef_any s 32 W h (by decide) (by decide));have C2:=hid (fun d W hW=>restRef_any d (ofL s.data.toList 32) 32 W (by decide) (fun j hj=>ofL_lt _ _ _ hj) hW (by decide));rw[ofL_val _ 32 z3]at C2;have C3:=hid (fun d W hW=>bytesRef10_any d (nV s.data.toList%lF) W hW);have HX:Hid (qdF s=⟨(leF (nV s.data.toList%lF) 32).toArray⟩∧qef s=0):=hid (by rw[qdF,qef,if_pos h,if_pos h];exact⟨rfl,rfl⟩);generalize ofL s.data.toList 32=dl at *;generalize nV s.data.toList%lF=x at *;clear h z3;go_enter func65,ntmps65;go_wp2_with fail;refine (C1.out w).mono ?_;rintro e W1⟨⟨d1,rfl,z1⟩,b1⟩;have z0:=hid z1;clear z1;go_wp2_with fail;refine (C2.out d1 W1 z0.out).mono ?_;rintro e W2⟨⟨d2,rfl,z2⟩,b2⟩;have z4:=hid z2;replace b2:=b1.trans (b2.mono b1.size);clear z2 z0;go_wp2_with fail;refine (C3.out d2 W2 z4.out).mono ?_;rintro e W3⟨rfl,b3⟩;replace b3:=b2.trans (b3.mono b2.size);go_wp2_with fail;go_ret2;exact⟨by rw[HX.out.1,HX.out.2];rfl,b3⟩
 ·have hd:((s.size:Int) != 64)=true:=by simp;omega
  have HX:Hid (qdF s=⟨#[]⟩∧qef s=1):=hid (by rw[qdF,qef,if_neg h,if_neg h];exact⟨rfl,rfl⟩);clear h;go_enter func65,ntmps65;go_wp2_with fail;go_ret2;exact⟨by rw[HX.out.1,HX.out.2];rfl,Below.refl _ _⟩
theorem rright_any(s:ByteArray)(w:World):Rt 81 #[.string s] w (.bool (okR s)):=by
 unfold Rt;by_cases h:s.size=32
 ·have hd:((s.size:Int)==32)=true:=by simp[h]
  have z1:s.data.toList.length=32:=by rw[← Lib.size_eq];exact h
  have C1:=hid (fun W=>digitsRef_any s 16 W h (by decide) (by decide));rw[ofL_sixteen _ z1]at C1;have z0:okR s=decide (nV s.data.toList<lF):=by rw[okR,h];simp
  have C3:=hid (fun da db W ha hb=>lessRef_any da db (nV s.data.toList) lF W (nV_mF _ z1) lF_lt ha hb);rw[← z0]at C3;have z6:=hid (fun W=>order_any W);generalize okR s=q at *;generalize nV s.data.toList=x at *;clear h z1 z0;go_enter func81,ntmps81;go_wp2_with fail;refine (C1.out w).mono ?_;rintro e W1⟨⟨d1,rfl,z2⟩,b1⟩;have z3:Hid (DigAt W1 d1 (digN x)):=hid z2;clear z2;go_wp2_with fail;refine (z6.out W1).mono ?_;rintro e W2⟨rfl,rfl⟩;have b2:=qaf W1 (.cells (dcl (digN lF)) 3);have z4:=hid (z3.out.step b2);have z5:Hid (DigAt (W1.alloc (.cells (dcl (digN lF)) 3)) (.slice (some ⟨W1.heap.size,0,none⟩) 16 16) (digN lF)):=hid (DigAt.of_block (qad W1 _) (qaG _));replace b2:=b1.trans (b2.mono b1.size);generalize (W1.alloc (.cells (dcl (digN lF)) 3))=V at *;generalize W1.heap.size=g at *;go_wp2_with fail;refine (C3.out _ _ V z4.out z5.out).mono ?_;rintro e W3⟨rfl,b3⟩;replace b3:=b2.trans (b3.mono b2.size);go_wp2_with fail;go_ret;exact⟨rfl,b3⟩
 ·have hd:((s.size:Int)==32)=false:=by simp;omega
  have z0:okR s=false:=by rw[okR,decide_eq_false h];rfl
  have HX:=hid z0;clear h z0;go_enter func81,ntmps81;go_wp2_with fail;go_ret;exact⟨by rw[HX.out];rfl,Below.refl _ _⟩
end
end Go.Proofs.YteomfleofeeofaaGreatDoor
