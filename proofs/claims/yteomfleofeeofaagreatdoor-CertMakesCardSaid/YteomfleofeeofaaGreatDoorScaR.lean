/- The reference's order, and which of two numbers is less; The reference's step: twice a number and a bit; The reference's rest: digits modulo the order; The reference's digits of bytes, and its bytes of digits; The reference's Wide and Right; The reference's MulAdd. -/
import Derived.Test.YteomfleofeeofaaGreatDoorScaA
import Derived.Test.YteomfleofeeofaaGreatDoorFldR
namespace Go.Proofs.YteomfleofeeofaaGreatDoor
open Go.Lib (hid)
open _root_.List (take_succ_cons drop_succ_cons)
set_option maxRecDepth 100000
set_option linter.unusedSimpArgs false
set_option linter.unusedVariables false
section
open Go.RowKit Go.Sort
theorem order_any (w:World) :
  Calls Tryz.prog 149 #[] w fun e w'=>e=.returned (.slice (some ⟨w.heap.size,0,none⟩) 16 16)∧w'=w.alloc (.cells (dcl (digN lF)) 3):=by
 have HL:=hid (show dcl (digN lF)=dcl [54253,23797,25370,22546,40150,41719,63966,5342,0,0,0,0,0,0,0,4096] by rw [lF_digits])
 go_enter Tryz.func149,Tryz.ntmps149
 go_wp2_with fail
 go_ret
 exact ⟨rfl,by rw [HL.out];rfl⟩
set_option maxHeartbeats 2000000 in
theorem lessRef_any (da db:Value) (x y:Nat) (w:World) (hx:x<mF) (hy:y<mF) (ha:DigAt w da (digN x)) (hb:DigAt w db (digN y)) :
  Calls Tryz.prog 148 #[da,db] w fun e w'=>e=.returned (.bool (decide (x<y)))∧Below w.heap.size w w':=by
 obtain ⟨Da,ca,rfl,hca⟩:=ha;obtain ⟨Db,cb,rfl,hcb⟩:=hb;have HCA:=hid hca;have HCB:=hid hcb;have HS:=hid (digN_same x y hx hy)
 have HLs:=hid (fun i hi=>digN_less x y i hi hx hy)
 have hla:=block_lt_of_cell (hca 0 (by decide));have hlb:=block_lt_of_cell (hcb 0 (by decide))
 clear hca hcb hx hy
 go_enter Tryz.func148,Tryz.ntmps148
 go_wp2_with fail
 go_loopw [5] (fun iv wr=>∃ i:Nat,i≤16∧iv=.int .i64 ((i:Int)-1)∧(∀ j,i≤j→j<16→(digN x).getD j 0=(digN y).getD j 0)∧Below w.heap.size w wr) (fun iv _=>(intOf iv+1).toNat)
 case atStart=>exact ⟨16,by omega,rfl,fun j hj hj2=>absurd hj2 (by omega),Below.refl _ _⟩
 case round=>
  obtain ⟨i,hi,rfl,hs,hb⟩:=hrel;have HE:=hid hs;clear hs
  by_cases hi0:i=0
  ·subst hi0
   have hd:decide ((0:Int)≤((0:Nat):Int)-1)=false:=by decide
   have hxy:decide (x<y)=false:=by
    have:=HS.out (fun j hj=>HE.out j (Nat.zero_le _) hj)
    rw [this]
    simp
   have HXY:=hid hxy;clear hxy
   go_wp2_with fail
   go_ret
   exact ⟨by rw [HXY.out];rfl,hb⟩
  ·obtain ⟨t,rfl⟩:∃ t,i=t+1:=⟨i-1,by omega⟩
   have hcast:((t+1:Nat):Int)-1=(t:Int):=by omega
   rw [hcast]
   have hd:decide ((0:Int)≤(t:Int))=true:=by simp
   have hlt:t<16:=by omega
   have c1:=(hb.cell (p:=⟨Da,t,none⟩) hla).trans (HCA.out t hlt);have c2:=(hb.cell (p:=⟨Db,t,none⟩) hlb).trans (HCB.out t hlt)
   by_cases hne:(digN x).getD t 0=(digN y).getD t 0
   ·have HE2:Hid (∀ j,t≤j→j<16→(digN x).getD j 0=(digN y).getD j 0):=hid (fun j hj hj2=>by
     by_cases hji:j=t
     ·rw [hji];exact hne
     ·exact HE.out j (by omega) hj2)
    generalize (digN x).getD t 0=p at *;generalize (digN y).getD t 0=q at *
    have hq:((p:Int) != (q:Int))=false:=by simp [hne]
    clear hne hcast
    go_wp2_with fail
    go_quiet (fail)
    go_wp2_with fail
    go_roundw
    case rel=>exact ⟨t,by omega,by go_num,HE2.out,below_drewN hb _⟩
    case measure=>simp [intOf] <;> omega
   ·have hless:=HLs.out t hlt (fun j h1 h2=>HE.out j (by omega) h2) hne
    have hxy:decide ((digN x).getD t 0<(digN y).getD t 0)=decide (x<y):=by
     rw [decide_eq_decide];exact hless
    generalize (digN x).getD t 0=p at *;generalize (digN y).getD t 0=q at *
    have hq:((p:Int) != (q:Int))=true:=by simp;omega
    have HXY:=hid hxy;clear hne hxy hless hcast
    go_wp2_with fail
    go_quiet (fail)
    go_wp2_with fail
    go_quiet (fail)
    go_wp2_with fail
    go_ret
    exact ⟨by rw [← HXY.out];rfl,below_drewN (below_drewN hb _) _⟩
end
section
open Go.RowKit Go.Sort
theorem cy2_le (x b i:Nat) (hb:b<2):cy2 x b i≤1:=by
 have hp:0<65536^i:=Nat.pow_pos (by decide)
 have h:(2*(x%65536^i)+b) / 65536^i<2:=Nat.div_lt_of_lt_mul (by have:=Nat.mod_lt x hp;omega)
 rw [cy2]
 omega
def stD (y z i:Nat):List Nat:=mkD fun j=>if j<i then z / 65536^j%65536 else y / 65536^j%65536
theorem qeU (y z i:Nat):(stD y z i).length=16:=qbe _
theorem stD_zero (y z:Nat):stD y z 0=digN y:=qbG (qeU ..) (qaF _) fun j hj=>by rw [stD,qbf _ _ hj,if_neg (by omega),qbm _ _ hj]
theorem stD_full (y z:Nat):stD y z 16=digN z:=qbG (qeU ..) (qaF _) fun j hj=>by rw [stD,qbf _ _ hj,if_pos hj,qbm _ _ hj]
theorem stD_get (y z i:Nat) (h:i<16):(stD y z i).getD i 0=y / 65536^i%65536:=by rw [stD,qbf _ _ h,if_neg (by omega)]
theorem stD_set (y z i:Nat) (h:i<16):(stD y z i).set i (z / 65536^i%65536)=stD y z (i+1):=by
 have:=mkD_set (fun j=>if j<i then z / 65536^j%65536 else y / 65536^j%65536) (fun j=>if j<i+1 then z / 65536^j%65536 else y / 65536^j%65536) i h (fun j hj hne=>by
  by_cases h1:j<i
  ·simp [h1,Nat.lt_succ_of_lt h1]
  ·have:¬ j<i+1:=by omega
   simp [h1,this])
 rw [stD,stD]
 simpa using this
theorem two_mF (x b:Nat) (hx:x<lF) (hb:b<2):2*x+b<mF:=by
 have e1:lF=7237005577332262213973186563042994240857116359379907606001950938285454250989:=rfl;have e2:mF=115792089237316195423570985008687907853269984665640564039457584007913129639936:=rfl
 omega
theorem brF_le (x y i:Nat):brF x y i≤1:=by rw [brF];split <;> omega
set_option maxHeartbeats 4000000 in
theorem stepRef_any (da:Value) (x b:Nat) (w:World) (hx:x<lF) (hb:b<2) (ha:DigAt w da (digN x)) :
  Calls Tryz.prog 179 #[da,.int .i64 (b:Int)] w fun e w'=>(∃ d',e=.returned d'∧DigAt w' d' (digN ((2*x+b)%lF)))∧Below w.heap.size w w':=by
 obtain ⟨Da,ca,rfl,hca⟩:=ha;have HCA:=hid hca;have HA:=hid (qaS x)
 have HAG:=hid (fun j (hj:j<16)=>qbm x j hj)
 have HST:=hid (fun i=>cy2_step x b i hb)
 have HCL:=hid (fun i=>cy2_le x b i hb)
 have hy2:=two_mF x b hx hb;have HY2:=hid hy2;have HTW:=hid (twice_mod x b hx hb);have HC0:=hid (cy2_zero x b);have hmk:=makeF16
 obtain ⟨f,hf⟩:∃ f:Nat→Nat,f=fun i=>(2*x+b) / 65536^i%65536:=⟨_,rfl⟩
 have HF:=hid (fun j=>(show f j=(2*x+b) / 65536^j%65536 by rw [hf]))
 have HV:=hid (show mkD f=digN (2*x+b) by rw [hf];rfl)
 have HO:=hid (show (w.alloc (.cells qaG 3)).heap[w.heap.size]?=some (.cells (dcl (qbE f 0)) 3) from qag w _)
 have hB0:=qah w (.cells qaG 3)
 have hla:=block_lt_of_cell (hca 0 (by decide))
 clear hca hx hf hy2
 go_enter Tryz.func179,Tryz.ntmps179
 go_wp2_with fail
 clear hmk;generalize (w.alloc (.cells qaG 3))=W0 at *;generalize hBB:w.heap.size=O at *;have HBB:=hid hBB;clear hBB
 go_loopw [6,7] (fun cv iv wr=>∃ i:Nat,i≤16∧iv=.int .i64 (i:Int)∧cv=.int .i64 ((cy2 x b i:Nat):Int)∧wr.heap[O]?=some (.cells (dcl (qbE f i)) 3)∧Below O w wr) (fun _ iv _=>16-(intOf iv).toNat)
 case atStart=>exact ⟨0,by omega,rfl,by rw [HC0.out],HO.out,hB0⟩
 case round=>
  clear HO hB0;obtain ⟨i,hi,rfl,rfl,ho,hbl⟩:=hrel;have HO:=hid ho;clear ho
  by_cases hi16:i<16
  ·have hdi:decide ((i:Int)<16)=true:=by simp;omega
   have c1:=(hbl.cell (p:=⟨Da,i,none⟩) hla).trans (HCA.out i hi16);obtain ⟨s1,s2⟩:=HST.out i;have hcl:=HCL.out i;have hd1:=HA.out i hi16;rw [← HAG.out i hi16] at s1 s2;rw [← HF.out i] at s1;have HS1:=hid s1;have HS2:=hid s2.symm;clear s1 s2;generalize (digN x).getD i 0=d at *;generalize cy2 x b i=c at *
   have hand:bits .and .i64 ((c:Int)+2*(d:Int)) 65535=((f i:Nat):Int):=by
    have:=and_16 (c+2*d) (by omega)
    rw [HS1.out] at this;rw [← this]
    congr 1
   have cx:=qaQ HO.out i (by rw [qcg];exact hi16)
   have fx:=frozen_of_row wr O i _ _ HO.out;have r1:=qbn HO.out i (f i);rw [qdR f i hi16] at r1;have HO1:=hid r1;have hb1:Below O w (wr.setCell ⟨O,i,none⟩ (.int .i64 ((f i:Nat):Int))):=hbl.setCell (Nat.le_refl _) _;clear r1 hbl;generalize f i=fi at *
   go_wp2_with fail
   go_roundw
   case rel=>exact ⟨i+1,by omega,by go_num,by rw [HS2.out];go_num,HO1.out,hb1⟩
   case measure=>simp [intOf];omega
  ·have hdi:decide ((i:Int)<16)=false:=by simp;omega
   obtain rfl:i=16:=by omega
   rw [qd7,HV.out] at HO;generalize hyy:2*x+b=y at *;have HYY:=hid hyy;clear hyy
   go_wp2_with fail
   refine (order_any wr).mono ?_
   rintro e W1 ⟨rfl,rfl⟩;have HOl:=qab HO.out;have HL1:=hid (qag wr (.cells (dcl (digN lF)) 3));have HO1:=hid (qaj (o:=.cells (dcl (digN lF)) 3) HO.out)
   have hb1:Below O w (wr.alloc (.cells (dcl (digN lF)) 3)):=hbl.alloc (by omega) _
   clear HO hbl;generalize (wr.alloc (.cells (dcl (digN lF)) 3))=W1 at *;generalize wr.heap.size=L at *;have HLe:=hid (lessRef_any (.slice (some ⟨O,0,none⟩) 16 16) (.slice (some ⟨L,0,none⟩) 16 16) y lF W1 HY2.out lF_lt (DigAt.of_block HO1.out (qaF _)) (DigAt.of_block HL1.out (qaF _)))
   by_cases hlt:y<lF
   ·rw [decide_eq_true hlt] at HLe
    rw [if_pos hlt] at HTW
    go_wp2_with fail
    refine HLe.out.mono ?_
    rintro e W2 ⟨rfl,hb2⟩;have HO2:=hid (qaa hb2 (qab HO1.out) HO1.out);have hb3:Below O w W2:=hb1.trans (hb2.mono (Nat.le_of_lt (qab HO1.out)));clear hb2 HLe HO1 HL1
    go_wp2_with fail
    go_ret
    exact ⟨⟨_,rfl,by rw [HYY.out,HTW.out];exact DigAt.of_block HO2.out (qaF _)⟩,by rw [HBB.out];exact hb3⟩
   ·rw [decide_eq_false hlt] at HLe
    rw [if_neg hlt] at HTW
    have HBR:=hid (fun i=>brF_step y lF i (by omega))
    have HYG:=hid (fun j (hj:j<16)=>qbm lF j hj)
    have HLF:=hid (qaS lF)
    go_wp2_with fail
    refine HLe.out.mono ?_
    rintro e W2 ⟨rfl,hb2⟩;have HO2:=hid (qaa hb2 (qab HO1.out) HO1.out);have HL2:=hid (qaa hb2 (qab HL1.out) HL1.out);have hb3:Below O w W2:=hb1.trans (hb2.mono (Nat.le_of_lt (qab HO1.out)));clear hb2 HLe HO1 HL1
    go_wp2_with fail
    go_loopw [9,10] (fun bv iv wr=>∃ i:Nat,i≤16∧iv=.int .i64 (i:Int)∧bv=.int .i64 (-((brF y lF i:Nat):Int))∧wr.heap[O]?=some (.cells (dcl (stD y (y-lF) i)) 3)∧wr.heap[L]?=some (.cells (dcl (digN lF)) 3)∧Below O w wr) (fun _ iv _=>16-(intOf iv).toNat)
    case atStart=>exact ⟨0,by omega,rfl,by rw [brF_zero];rfl,by rw [stD_zero];exact HO2.out,HL2.out,hb3⟩
    case round=>
     clear HO2 HL2 hb3;obtain ⟨i,hi,rfl,rfl,ho,hl2,hbl⟩:=hrel;have HO:=hid ho;have HL:=hid hl2;clear ho hl2
     by_cases hi16:i<16
     ·have hdi:decide ((i:Int)<16)=true:=by simp;omega
      have c1:=qaQ HO.out i (by rw [qeU];exact hi16)
      have c2:=qaQ HL.out i (by rw [qaF];exact hi16)
      rw [stD_get _ _ _ hi16] at c1;obtain ⟨s1,s2⟩:=HBR.out i;have hl16:=HLF.out i hi16;have hbr:=brF_le y lF i
      have hp16:y / 65536^i%65536<65536:=Nat.mod_lt _ (by decide)
      rw [← HYG.out i hi16] at s1 s2;have HS:=hid (stD_set y (y-lF) i hi16);have hll:=qeU y (y-lF) i;generalize (y-lF) / 65536^i%65536=z at *;generalize y / 65536^i%65536=p at *;generalize (digN lF).getD i 0=q at *;generalize hb4:brF y lF (i+1)=br2 at *;have HB4:=hid hb4;clear hb4;generalize brF y lF i=br at *;generalize stD y (y-lF) i=u at *
      have hsp:(p:Int)-(q:Int) + -(br:Int)=(p:Int)-(q:Int)-(br:Int):=by omega
      rw [← hsp] at s1 s2;have hand:=and_16i ((p:Int)-(q:Int) + -(br:Int));rw [s1] at hand;have HS2:=hid s2;clear s1 s2 hsp
      go_wp2_with fail
      go_quiet (fail)
      have HO3:Hid ((wr.drewN nq).heap[O]?=some (.cells (dcl u) 3)):=hid HO.out;have HL3:Hid ((wr.drewN nq).heap[L]?=some (.cells (dcl (digN lF)) 3)):=hid HL.out;have hb3:Below O w (wr.drewN nq):=below_drewN hbl _;clear c1 c2 HO HL hbl;generalize wr.drewN nq=V at *
      have c1:=qaQ HO3.out i (by omega)
      have f1:=frozen_of_row V O i _ _ HO3.out;have r1:=qbn HO3.out i z;rw [HS.out] at r1;have HO4:=hid r1;have hlw:=qab HL3.out
      have HL4:Hid ((V.setCell ⟨O,i,none⟩ (.int .i64 (z:Int))).heap[L]?=some (.cells (dcl (digN lF)) 3)):=hid (by rw [heap_setCell_other _ _ _ _ (by simp;omega)];exact HL3.out)
      have hb4:Below O w (V.setCell ⟨O,i,none⟩ (.int .i64 (z:Int))):=hb3.setCell (Nat.le_refl _) _;clear r1 HO3 HL3 hb3 hlw
      go_wp2_with fail
      go_roundw
      case rel=>exact ⟨i+1,by omega,by go_num,by rw [HS2.out,HB4.out],HO4.out,HL4.out,hb4⟩
      case measure=>simp [intOf];omega
     ·have hdi:decide ((i:Int)<16)=false:=by simp;omega
      obtain rfl:i=16:=by omega
      rw [stD_full] at HO
      go_wp2_with fail
      go_ret
      exact ⟨⟨_,rfl,by rw [HYY.out,HTW.out];exact DigAt.of_block HO.out (qaF _)⟩,by rw [HBB.out];exact hbl⟩
end
section
open Go.RowKit Go.Sort
def DigsAt (W:World) (n:Nat) (v:Value) (l:List Nat):Prop:=∃ D cap,v=.slice (some ⟨D,0,none⟩) n cap∧∀ j,j<n→W.cell? ⟨D,j,none⟩=some (.int .i64 ((l.getD j 0:Nat):Int))
def resX (V m:Nat):Nat:=V / 2^m%lF
theorem resX_lt (V m:Nat):resX V m<lF:=Nat.mod_lt _ lF_pos
theorem resX_step (V m:Nat):(2*resX V (m+1)+V / 2^m%2)%lF=resX V m:=rest_step V m
theorem resX_top (V m:Nat) (h:V<2^m):resX V m=0:=by rw [resX,Nat.div_eq_of_lt h,Nat.zero_mod]
theorem resX_end (V:Nat):resX V 0=V%lF:=by rw [resX,Nat.pow_zero,Nat.div_one]
theorem zeros_nought:qaG=dcl (digN 0):=by
 have:digN 0=List.replicate 16 0:=by decide +kernel
 rw [this];rfl
theorem digits_pow (l:List Nat) (n N:Nat) (hN:N=16*n) (h:∀ j,j<n→l.getD j 0<65536):dS l n<2^N:=by
 have:=qdg l n h
 rw [hN,Nat.pow_mul];exact this
theorem bit_i64 (d k:Nat):bits .and .i64 ((d:Int) / 2^k) 1=((d / 2^k%2:Nat):Int):=by
 rw [and_1i];simp
set_option maxHeartbeats 4000000 in
theorem restRef_any (dv:Value) (l:List Nat) (n:Nat) (w:World) (hn:n≤64) (hl:∀ j,j<n→l.getD j 0<65536) (hv:DigsAt w n dv l) (hn0:0<n) :
  Calls Tryz.prog 119 #[dv] w fun e w'=>(∃ d',e=.returned d'∧DigAt w' d' (digN (dS l n%lF)))∧Below w.heap.size w w':=by
 obtain ⟨Dv,cv,rfl,hcv⟩:=hv;have HCV:=hid hcv;have hlv:=block_lt_of_cell (hcv 0 hn0)
 have HBit:=hid (fun i k hi hk=>dS_bit l n i k hl hi hk)
 have hlt0:=digits_pow l n (16*n) rfl hl;obtain ⟨V,hV⟩:∃ V,V=dS l n:=⟨_,rfl⟩;rw [← hV] at HBit hlt0;have HVV:=hid hV;have hmk:=makeF16;have hb0:=qah w (.cells qaG 3)
 have HO0:Hid (DigAt (w.alloc (.cells qaG 3)) (.slice (some ⟨w.heap.size,0,none⟩) 16 16) (digN (resX V (16*n)))):=hid (by
  rw [resX_top V _ hlt0]
  exact DigAt.of_block (by rw [← zeros_nought];exact qag w _) (qaF _))
 have HE:=hid (resX_end V)
 have hw1:wrap64 ((n:Int)-1)=(n:Int)-1:=by unfold wrap64;omega
 clear hcv hl hV hlt0
 go_enter Tryz.func119,Tryz.ntmps119
 go_wp2_with fail
 clear hmk;generalize (w.alloc (.cells qaG 3))=W0 at *
 go_loopw [3,4] (fun ov iv wr=>∃ i:Nat,i≤n∧iv=.int .i64 ((i:Int)-1)∧DigAt wr ov (digN (resX V (16*i)))∧Below w.heap.size w wr) (fun _ iv _=>(intOf iv+1).toNat)
 case atStart=>exact ⟨n,Nat.le_refl _,rfl,HO0.out,hb0⟩
 case round=>
  clear HO0 hb0;obtain ⟨i,hi,rfl,ho,hb⟩:=hrel;have HO:=hid ho;clear ho
  by_cases hi0:i=0
  ·subst hi0
   have hd:decide ((0:Int)≤((0:Nat):Int)-1)=false:=by decide
   rw [Nat.mul_zero,HE.out] at HO
   go_wp2_with fail
   go_ret
   exact ⟨⟨_,rfl,by rw [← HVV.out];exact HO.out⟩,hb⟩
  ·obtain ⟨t,rfl⟩:∃ t,i=t+1:=⟨i-1,by omega⟩
   have hcast:((t+1:Nat):Int)-1=(t:Int):=by omega
   rw [hcast]
   have hd:decide ((0:Int)≤(t:Int))=true:=by simp
   have htn:t<n:=by omega
   have HO2:Hid (DigAt wr _ (digN (resX V (16*t+16)))):=hid (show DigAt wr _ (digN (resX V (16*(t+1)))) from HO.out)
   clear HO hcast hi
   go_wp2_with fail
   go_loopw [3,5] (fun ov kv wr=>∃ k:Nat,k≤16∧kv=.int .i64 ((k:Int)-1)∧DigAt wr ov (digN (resX V (16*t+k)))∧Below w.heap.size w wr) (fun _ kv _=>(intOf kv+1).toNat)
   case atStart=>exact ⟨16,by omega,rfl,HO2.out,hb⟩
   case round=>
    clear HO2 hb;obtain ⟨k,hk,rfl,ho,hb⟩:=hrel;have HO:=hid ho;clear ho
    by_cases hk0:k=0
    ·subst hk0
     have hdk:decide ((0:Int)≤((0:Nat):Int)-1)=false:=by decide
     have HO3:Hid (DigAt wr _ (digN (resX V (16*t)))):=hid HO.out;clear HO
     go_wp2_with fail
     go_roundw
     case rel=>exact ⟨t,by omega,by go_num,HO3.out,hb⟩
     case measure=>simp [intOf] <;> omega
    ·obtain ⟨m,rfl⟩:∃ m,k=m+1:=⟨k-1,by omega⟩
     have hcast:((m+1:Nat):Int)-1=(m:Int):=by omega
     rw [hcast]
     have hdk:decide ((0:Int)≤(m:Int))=true:=by simp
     have hm16:m<16:=by omega
     have c1:=(hb.cell (p:=⟨Dv,t,none⟩) hlv).trans (HCV.out t htn);have hbit:=HBit.out t m htn hm16;have hst:=resX_step V (16*t+m);rw [← hbit] at hst;have hx:=resX_lt V (16*t+m+1)
     have HC:=hid (stepRef_any _ (resX V (16*t+m+1)) (l.getD t 0 / 2^m%2) wr hx (by omega) HO.out)
     rw [hst] at HC;have hbi:=bit_i64 (l.getD t 0) m;generalize l.getD t 0=d at *
     have htm:((m:Int)).toNat=m:=by omega
     clear hst hbit hx HO hcast hk;generalize d / 2^m%2=bt at *
     go_wp2_with fail
     refine HC.out.mono ?_
     rintro e W2 ⟨⟨d2,rfl,hd2⟩,hb2⟩;have HD2:=hid hd2;have hb3:Below w.heap.size w W2:=hb.trans (hb2.mono hb.size);clear hd2 hb2 HC c1 hb
     go_wp2_with fail
     go_roundw
     case rel=>exact ⟨m,by omega,by go_num,HD2.out,hb3⟩
     case measure=>simp [intOf] <;> omega
end
section
open Go.RowKit Go.Sort
theorem ofL_val (l:List UInt8) (n:Nat) (h:l.length=2*n):dS (ofL l n) n=nV l:=by
 rw [qf3 l (ofL l n) n (fun j hj=>by rw [ofL,qcu _ _ _ hj]),← nV_leV,h]
theorem DigsAt.of_own {W:World} {base g cap n:Nat} {l:List Nat} (h:OwnS W base g cap (dvl l)) (hl:l.length=n):DigsAt W n (.slice (some ⟨g,0,none⟩) n cap) l:=
 ⟨g,cap,rfl,fun j hj=>h.cells j _ (dvl_get l j (by omega))⟩
theorem DigsAt.step {W W':World} {n:Nat} {v:Value} {l:List Nat} (h:DigsAt W n v l) (hb:Below W.heap.size W W'):DigsAt W' n v l:=by
 obtain ⟨D,cap,hv,hc⟩:=h
 exact ⟨D,cap,hv,fun j hj=>(hb.cell (block_lt_of_cell (hc j hj))).trans (hc j hj)⟩
set_option maxHeartbeats 4000000 in
theorem qdI (s:ByteArray) (n:Nat) (w:World) (h:s.size=2*n) (hn0:0<n) (hn:n≤64) :
  Calls Tryz.prog 120 #[.string s] w fun e w'=>(∃ d',e=.returned d'∧DigsAt w' n d' (ofL s.data.toList n))∧Below w.heap.size w w':=by
 obtain ⟨i0,hi,hz0,hz1,hz2⟩:=info_parts qeI;have HH:=hid h;clear h
 go_enter Tryz.func120,Tryz.ntmps120
 go_wp2_with fail
 generalize hBB:w.heap.size=B at *;have HBB:=hid hBB
 have hszB:B≤w.heap.size:=by omega
 clear hBB
 go_loopw [3,4] (fun lv iv wr=>∃ (k m:Nat) (ao:Option Addr) (cap:Nat),k≤n∧m=2*k∧iv=.int .i64 (m:Int)∧lv=.slice ao k cap∧Own wr B (.slice ao k cap) (dvl (ofL s.data.toList k))∧Below B w wr∧B≤wr.heap.size) (fun _ iv _=>2*n-(intOf iv).toNat)
 case atStart=>exact ⟨0,0,none,0,by omega,rfl,rfl,rfl,Own.nil _ _,Below.refl _ _,hszB⟩
 case round=>
  obtain ⟨k,m,ao,cap,hk,hm,rfl,rfl,hown,hb,hsz⟩:=hrel;have HM:=hid hm;have HO:=hid hown
  have HL:=hid (show (dvl (ofL s.data.toList k)).length=k by rw [qdC,qd8])
  clear hown
  by_cases hlt:k<n
  ·have hdk:decide (m<s.size)=true:=by rw [HH.out];simp;omega
   have hin1:m<s.size:=by rw [HH.out];omega
   have hin2:m+1<s.size:=by rw [HH.out];omega
   have HN:=hid (ofL_snoc s.data.toList k);rw [← hm,qcK s _ hin1,qcK s _ hin2] at HN;have hx:=UInt8.toNat_lt s[m];have hy:=UInt8.toNat_lt s[m+1]
   have hm32:m<128:=by omega
   have htn:((m:Int)+1).toNat=m+1:=by omega
   have hin3:(0:Int)≤(m:Int)+1∧(m:Int)+1<(s.size:Int):=by omega
   have hin4:(m:Int)+1<(s.size:Int):=by omega
   have hin5:(0:Int)≤(m:Int)+1:=by omega
   clear hm
   go_wp2_with fail
   refine qbW 12 (.tmp 3) rfl rfl rfl (by kernel_rfl) (by kernel_rfl) (fun _ _ _ _ h=>h) ?_
   simp only [take_succ_cons,List.take_zero,drop_succ_cons,List.drop_zero]
   repeat (first | go_big_quiet_step (fail) | quiet_step (fail))
   refine wpQuiet_nil ?_
   intro W1 hb1;have HO1:=hid (HO.out.below hb1);have hB1:Below B w W1:=hb.trans (hb1.mono hsz);have hsz1:B≤W1.heap.size:=Nat.le_trans hsz hb1.size
   have hcast:(((s[m].toNat+256*s[m+1].toNat:Nat)):Int)=(s[m].toNat:Int)+256*(s[m+1].toNat:Int):=by omega
   rw [hcast] at HN;clear hcast HO hb hb1 hsz;generalize s[m].toNat=p at *;generalize s[m+1].toNat=q at *;clear hin3 hin4 hin5 htn
   go_wp2_with (at_builtin;refine qaI rfl (.tmp 11) (.tmp 23) 68 rfl B 3 i0 (.int .i64 0) 8 Tryz.underlying68 hi hz0 hz1 hz2 rfl ao k cap _ rfl (HO1.out.alloc _) HL.out ⟨W1.heap.size,0,none⟩ 1 1 [.int .i64 ((p:Int)+256*(q:Int))] rfl rfl (cell_one_new _ _ _) ?b2 ?b3 ?b4 ?b5 ?_)
   case b2=>intro u hu;simp at hu;subst hu;rfl
   case b3=>omega
   case b4=>omega
   case b5=>simp;omega
   intro ao5 cp5 W5 hown5 hgrow5
   have hb5:Below B w W5:=qa9 (hB1.alloc hsz1 _) (by simp;omega) (HO1.out.alloc _) hgrow5
   have hsz5:B≤W5.heap.size:=by have:=hgrow5.size;simp at this;omega
   rw [HN.out] at hown5;clear hgrow5 HO1 hB1
   go_wp2_with fail
   go_roundw
   case rel=>exact ⟨k+1,m+2,ao5,cp5,by omega,by rw [HM.out];omega,by go_num,rfl,hown5,hb5,hsz5⟩
   case measure=>have:=HM.out;simp [intOf];omega
  ·have hdk:decide (m<s.size)=false:=by rw [HH.out];simp;omega
   have hdk2:¬ m<s.size:=by rw [HH.out];omega
   obtain rfl:k=n:=by omega
   obtain ⟨g,gc,hvv,hown,hgl⟩:=HO.out.some (by rw [HL.out];omega)
   have hv2:Value.slice ao k cap=.slice (some ⟨g,0,none⟩) k gc:=by rw [hvv,HL.out]
   injection hv2 with h1 h2 h3
   subst h1 h3;clear hvv;have HDg:Hid (DigsAt wr k (.slice (some ⟨g,0,none⟩) k cap) (ofL s.data.toList k)):=hid (DigsAt.of_own hown (qd8 _ _));clear hown HO
   go_wp2_with fail
   go_ret
   exact ⟨⟨_,rfl,HDg.out⟩,by rw [HBB.out];exact hb⟩
set_option maxHeartbeats 4000000 in
theorem qfT (da:Value) (x:Nat) (w:World) (ha:DigAt w da (digN x)) :
  Calls Tryz.prog 118 #[da] w fun e w'=>e=.returned (.string ⟨(leF x 32).toArray⟩)∧Below w.heap.size w w':=by
 obtain ⟨i0,hi,hz0,hz1,hz2⟩:=info_parts qcz;obtain ⟨Da,ca,rfl,hca⟩:=ha;have HCA:=hid hca;have HA:=hid (qaS x)
 have HLF:=hid (fun k=>leF_two x k)
 have hla:=block_lt_of_cell (hca 0 (by decide))
 clear hca
 go_enter Tryz.func118,Tryz.ntmps118
 go_wp2_with fail
 generalize hBB:w.heap.size=B at *;have HBB:=hid hBB
 have hszB:B≤w.heap.size:=by omega
 clear hBB
 go_loopw [3,4] (fun lv iv wr=>∃ (k n:Nat) (ao:Option Addr) (cap:Nat),k≤16∧n=2*k∧iv=.int .i64 (k:Int)∧lv=.slice ao n cap∧Own wr B (.slice ao n cap) (Lib.byteCells (leF x n))∧Below B w wr∧B≤wr.heap.size) (fun _ iv _=>16-(intOf iv).toNat)
 case atStart=>exact ⟨0,0,none,0,by omega,rfl,rfl,rfl,Own.nil _ _,Below.refl _ _,hszB⟩
 case round=>
  obtain ⟨k,n,ao,cap,hk,hn,rfl,rfl,hown,hb,hsz⟩:=hrel;have HO:=hid hown
  have HL:=hid (show (Lib.byteCells (leF x n)).length=n by rw [Lib.byteCells_length,qa2])
  clear hown
  by_cases hlt:k<16
  ·have hdk:decide ((k:Int)<16)=true:=by simp;omega
   have c1:=(hb.cell (p:=⟨Da,k,none⟩) hla).trans (HCA.out k hlt);have hd1:=HA.out k hlt;have HN:=hid (HLF.out k);rw [← qbm x k hlt,← hn] at HN;generalize (digN x).getD k 0=d at *
   have hb0:(UInt8.ofNat d).toNat=d%256:=by rw [UInt8.toNat_ofNat']
   have hb1:(UInt8.ofNat (d / 256)).toNat=d / 256%256:=by rw [UInt8.toNat_ofNat']
   have HNS:=hid (show Lib.byteCells (leF x n)++[.int .u8 (((UInt8.ofNat d).toNat:Nat):Int),.int .u8 (((UInt8.ofNat (d / 256)).toNat:Nat):Int)]=Lib.byteCells (leF x (2*(k+1))) by rw [← HN.out,Lib.byteCells_append];rfl)
   generalize UInt8.ofNat d=b0 at *;generalize UInt8.ofNat (d / 256)=b1 at *
   have hv0:(b0.toNat:Int)=(d:Int)%256:=by omega
   have hv1:(b1.toNat:Int)=(d:Int) / 256:=by omega
   have hn32:n≤30:=by omega
   have HNE:=hid (show 2*(k+1)=n+2 by omega)
   rw [hv0,hv1] at HNS;clear HN hb0 hb1 hn hv0 hv1
   go_wp2_with fail
   have ka:=cell_regrown c1
   refine qbW 12 (.tmp 3) rfl rfl rfl (by kernel_rfl) (by kernel_rfl) (fun _ _ _ _ h=>h) ?_
   simp only [take_succ_cons,List.take_zero,drop_succ_cons,List.drop_zero]
   repeat (first | go_big_quiet_step (fail) | quiet_step (fail))
   refine wpQuiet_nil ?_
   intro W1 hb1;have HO1:=hid (HO.out.below hb1);have hB1:Below B w W1:=hb.trans (hb1.mono hsz);have hsz1:B≤W1.heap.size:=Nat.le_trans hsz hb1.size;clear HO hb hb1 hsz ka c1
   go_wp2_with (at_builtin;refine qaI rfl (.tmp 9) (.tmp 21) 41 rfl B 5 i0 (.int .u8 0) 1 Tryz.underlying41 hi hz0 hz1 hz2 rfl ao n cap _ rfl (HO1.out.alloc _) HL.out ⟨W1.heap.size,0,none⟩ 2 2 [.int .u8 ((d:Int)%256),.int .u8 ((d:Int) / 256)] rfl rfl (cell_two_new _ _ _ _) ?b2 ?b3 ?b4 ?b5 ?_)
   case b2=>intro u hu;simp at hu;rcases hu with rfl | rfl <;> rfl
   case b3=>omega
   case b4=>omega
   case b5=>simp;omega
   intro ao5 cp5 W5 hown5 hgrow5
   have hb5:Below B w W5:=qa9 (hB1.alloc hsz1 _) (by simp;omega) (HO1.out.alloc _) hgrow5
   have hsz5:B≤W5.heap.size:=by have:=hgrow5.size;simp at this;omega
   rw [HNS.out,HNE.out] at hown5;clear hgrow5 HO1 hB1
   go_wp2_with fail
   go_roundw
   case rel=>exact ⟨k+1,n+2,ao5,cp5,by omega,HNE.out.symm,by go_num,rfl,hown5,hb5,hsz5⟩
   case measure=>simp [intOf];omega
  ·have hdk:decide ((k:Int)<16)=false:=by simp;omega
   obtain rfl:k=16:=by omega
   obtain rfl:n=32:=by omega
   have hc:=qfx HO.out (qa2 x 32) (by decide)
   generalize hrow:leF x 32=row at *;have HROW:=hid hrow;clear hrow HO HL hn
   go_wp2_with fail
   go_ret
   exact ⟨by rw [HROW.out];rfl,by rw [HBB.out];exact hb⟩
end
section
open Go.RowKit Go.Sort
set_option maxHeartbeats 1000000 in
theorem rwide_any (s:ByteArray) (w:World) :
  Calls Tryz.prog 65 #[.string s] w fun e w'=>e=.returned (.tuple #[.string (qc5 s),.int .i64 (qdA s)])∧Below w.heap.size w w':=by
 by_cases h:s.size=64
 ·have hd:((s.size:Int) != 64)=false:=by simp [h]
  have hsl:s.data.toList.length=2*32:=by rw [← Lib.size_eq];exact h
  have C1:=hid (fun W=>qdI s 32 W h (by decide) (by decide))
  have C2:=hid (fun d W hW=>restRef_any d (ofL s.data.toList 32) 32 W (by decide) (fun j hj=>ofL_lt _ _ _ hj) hW (by decide))
  rw [ofL_val _ 32 hsl] at C2
  have C3:=hid (fun d W hW=>qfT d (nV s.data.toList%lF) W hW)
  have HX:Hid (qc5 s=⟨(leF (nV s.data.toList%lF) 32).toArray⟩∧qdA s=0):=hid (by rw [qc5,qdA,if_pos h,if_pos h];exact ⟨rfl,rfl⟩)
  generalize ofL s.data.toList 32=dl at *;generalize nV s.data.toList%lF=x at *;clear h hsl
  go_enter Tryz.func65,Tryz.ntmps65
  go_wp2_with fail
  refine (C1.out w).mono ?_
  rintro e W1 ⟨⟨d1,rfl,hd1⟩,b1⟩;have HD1:=hid hd1;clear hd1
  go_wp2_with fail
  refine (C2.out d1 W1 HD1.out).mono ?_
  rintro e W2 ⟨⟨d2,rfl,hd2⟩,b2⟩;have HD2:=hid hd2;replace b2:=b1.trans (b2.mono b1.size);clear hd2 HD1
  go_wp2_with fail
  refine (C3.out d2 W2 HD2.out).mono ?_
  rintro e W3 ⟨rfl,b3⟩;replace b3:=b2.trans (b3.mono b2.size)
  go_wp2_with fail
  go_ret2
  exact ⟨by rw [HX.out.1,HX.out.2];rfl,b3⟩
 ·have hd:((s.size:Int) != 64)=true:=by simp;omega
  have HX:Hid (qc5 s=⟨#[]⟩∧qdA s=1):=hid (by rw [qc5,qdA,if_neg h,if_neg h];exact ⟨rfl,rfl⟩)
  clear h
  go_enter Tryz.func65,Tryz.ntmps65
  go_wp2_with fail
  go_ret2
  exact ⟨by rw [HX.out.1,HX.out.2];rfl,Below.refl _ _⟩
end
section
open Go.RowKit Go.Sort
def qdt:List Nat:=List.replicate 32 0
theorem pr_start (a b c:List Nat):dcl qdt=dcl (prI a b c 0):=by
 rw [prI,show mkN 32 (fun _=>0)=qdt by decide +kernel]
theorem makeF32 (W:World):(Instr.makeSlice 68 (.int .i64 32) (.int .i64 32)).run Tryz.prog W=.ok (.slice (some ⟨W.heap.size,0,none⟩) 32 32) (W.alloc (.cells (dcl qdt) 3)):=by
 obtain ⟨i0,hi,hz0,hz1,hz2⟩:=info_parts qeI
 have h:=run_make (P:=Tryz.prog) W 68 3 i0 (.int .i64 0) Tryz.underlying68 hi hz0 .i64 .i64 32 32 (by omega) (by omega) (by rw [hz2];omega) (by omega)
 have e:madeCells (Value.int .i64 0).cells ((32:Int).toNat*i0.size)=dcl qdt:=by rw [hz1,made_digits];rfl
 rw [e] at h;exact h
theorem rnd_small32 (v:List Nat) (hl:v.length=32) (h:∀ j,j<32→v.getD j 0≤1152921504606846976) (i:Nat) (hi:i<32):(rnd v i).2≤1152921504606846976∧(rnd v i).1.getD i 0=v.getD i 0:=
 ⟨rnd_carry v _ (fun j=>by
  by_cases hj:j<32
  ·exact h j hj
  ·rw [List.getD_eq_getElem?_getD,List.getElem?_eq_none (by omega)];simp) i (by omega),rnd_late v i (by omega) i (Nat.le_refl _)⟩
set_option maxHeartbeats 4000000 in
theorem rmulAddOk_any (a b c:ByteArray) (w:World) (ha:a.size=32) (hb:b.size=32) (hc:c.size=32) :
  Calls Tryz.prog 67 #[.string a,.string b,.string c] w fun e w'=>e=.returned (.tuple #[.string (txtN ((nV a.data.toList*nV b.data.toList+nV c.data.toList)%lF)),.int .i64 0])∧Below w.heap.size w w':=by
 have d1:((a.size:Int) != 32)=false:=by simp [ha]
 have d2:((b.size:Int) != 32)=false:=by simp [hb]
 have d3:((c.size:Int) != 32)=false:=by simp [hc]
 have al:a.data.toList.length=2*16:=by rw [← Lib.size_eq];exact ha
 have bl:b.data.toList.length=2*16:=by rw [← Lib.size_eq];exact hb
 have cl:c.data.toList.length=2*16:=by rw [← Lib.size_eq];exact hc
 have C1:=hid (fun W=>qdI a 16 W ha (by decide) (by decide))
 have C2:=hid (fun W=>qdI b 16 W hb (by decide) (by decide))
 have C3:=hid (fun W=>qdI c 16 W hc (by decide) (by decide))
 have XL:=hid (fun j hj=>ofL_lt a.data.toList 16 j hj)
 have YL:=hid (fun j hj=>ofL_lt b.data.toList 16 j hj)
 have ZL:=hid (fun j hj=>ofL_lt c.data.toList 16 j hj)
 have HV:=hid (mulAdd_digits (ofL a.data.toList 16) (ofL b.data.toList 16) (ofL c.data.toList 16) 32 16 rfl rfl XL.out YL.out ZL.out (prI_val _ _ _ 32 rfl 16 (Nat.le_refl _)) (qdz _ _ _ 16));rw [ofL_val _ 16 al,ofL_val _ 16 bl,ofL_val _ 16 cl] at HV;have HPL:=hid (prI_le (ofL a.data.toList 16) (ofL b.data.toList 16) (ofL c.data.toList 16) XL.out YL.out ZL.out);generalize ofL a.data.toList 16=x at *;generalize ofL b.data.toList 16=y at *;generalize ofL c.data.toList 16=z at *;have HP0:=hid (pr_start x y z);have hmk:=makeF32;generalize hR:(nV a.data.toList*nV b.data.toList+nV c.data.toList)=R at *;clear hR ha hb hc al bl cl
 go_enter Tryz.func67,Tryz.ntmps67
 go_wp2_with fail
 refine (C1.out w).mono ?_
 rintro e W1 ⟨⟨d1,rfl,hd1⟩,b1⟩;have HX:=hid hd1;clear hd1 C1
 go_wp2_with fail
 refine (C2.out W1).mono ?_
 rintro e W2 ⟨⟨d2,rfl,hd2⟩,b2⟩;have HY:=hid hd2;replace HX:=hid (HX.out.step b2);replace b2:=b1.trans (b2.mono b1.size);clear hd2 C2 b1
 go_wp2_with fail
 refine (C3.out W2).mono ?_
 rintro e W3 ⟨⟨d3,rfl,hd3⟩,b3⟩;have HZ:=hid hd3;replace HX:=hid (HX.out.step b3);replace HY:=hid (HY.out.step b3);replace b3:=b2.trans (b3.mono b2.size);clear hd3 C3 b2;obtain ⟨Da,ca,rfl,hca⟩:=HX.out;obtain ⟨Db,cb,rfl,hcb⟩:=HY.out;obtain ⟨Dc,cc,rfl,hcc⟩:=HZ.out
 have hla:=block_lt_of_cell (hca 0 (by decide));have hlb:=block_lt_of_cell (hcb 0 (by decide));have hlc:=block_lt_of_cell (hcc 0 (by decide))
 have HCA:=hid hca;have HCB:=hid hcb;have HCC:=hid hcc
 have HO:Hid ((W3.alloc (.cells (dcl qdt) 3)).heap[W3.heap.size]?=some (.cells (dcl (prI x y z 0)) 3)):=hid (by rw [← HP0.out];exact qag W3 _)
 have hb0:=qah W3 (.cells (dcl qdt) 3);have HB3:=hid b3;clear hca hcb hcc HX HY HZ b3
 go_wp2_with fail
 clear hmk;generalize (W3.alloc (.cells (dcl qdt) 3))=V0 at *;generalize hBB:W3.heap.size=O at *;have HBB:=hid hBB;clear hBB
 go_loopw [12] (fun iv wr=>∃ i:Nat,i≤16∧iv=.int .i64 (i:Int)∧wr.heap[O]?=some (.cells (dcl (prI x y z i)) 3)∧Below O W3 wr) (fun iv _=>16-(intOf iv).toNat)
 case atStart=>exact ⟨0,by omega,rfl,HO.out,hb0⟩
 case round=>
  clear HO hb0;obtain ⟨i,hi,rfl,ho,hbl⟩:=hrel;have HO:=hid ho;clear ho
  by_cases hi16:i<16
  ·have hdi:decide ((i:Int)<16)=true:=by simp;omega
   have HN:Hid (prI x y z (i+1)=prK x y i ((prI x y z i).set i ((prI x y z i).getD i 0+z.getD i 0)) 16):=hid rfl
   have HM:=hid (HPL.out i (by omega))
   have HMl:=hid (qdz x y z i);have hz16:=ZL.out i hi16;have c1:=(hbl.cell (p:=⟨Dc,i,none⟩) hlc).trans (HCC.out i hi16)
   have c2:=qaQ HO.out i (by rw [HMl.out];omega)
   have hmi:=HM.out i (by omega)
   generalize prI x y z i=m at *;have HZI:Hid (z.getD i 0=z.getD i 0):=hid rfl;generalize hzz:z.getD i 0=zi at *;generalize hmm:m.getD i 0=mi at *;have HMM:=hid hmm
   have hs:(mi:Int)+(zi:Int)=((mi+zi:Nat):Int):=by omega
   have HS:=hid hs;clear hs hmm hzz HZI
   go_wp2_with fail
   have ka:=cell_regrown c1;have kb:=cell_regrown c2
   refine qap 12 (by kernel_rfl) (by kernel_rfl) ?_
   simp only [take_succ_cons,List.take_zero,drop_succ_cons,List.drop_zero]
   repeat (first | go_big_quiet_step (fail) | quiet_step (fail))
   refine wpQuiet_nil ?_
   intro V1 hb1;have hO1:=qaa hb1 (qab HO.out) HO.out;have hbl1:Below O W3 V1:=hbl.trans (hb1.mono (Nat.le_of_lt (qab HO.out)))
   have cz:=qaQ hO1 i (by rw [HMl.out];omega)
   have fz:=frozen_of_row V1 O i _ _ hO1
   have s1:(V1.setCell ⟨O,i,none⟩ (.int .i64 ((mi:Int)+(zi:Int)))).heap[O]?=some (.cells (dcl (m.set i (mi+zi))) 3):=by rw [HS.out];exact qbn hO1 i _
   have HO2:=hid s1;have hbl2:Below O W3 (V1.setCell ⟨O,i,none⟩ (.int .i64 ((mi:Int)+(zi:Int)))):=hbl1.setCell (Nat.le_refl _) _
   have hml2:(m.set i (mi+zi)).length=32:=by rw [List.length_set];exact HMl.out
   have HM2:Hid (∀ j,j<32→(m.set i (mi+zi)).getD j 0≤i*68719542272+65536):=hid (fun j hj=>by
    rw [qbz _ _ _ _ (by rw [HMl.out];omega)]
    split
    ·omega
    ·exact Nat.le_trans (HM.out j hj) (Nat.le_add_right _ _))
   have HML2:=hid hml2;clear s1 ka kb c1 c2 hb1 hO1 hbl hbl1 HO hml2 hmi hz16
   go_wp2_with fail
   generalize (V1.setCell _ _)=V2 at *;generalize m.set i (mi+zi)=m2 at *;clear cz fz
   go_loopw [13] (fun kv wr=>∃ k:Nat,k≤16∧kv=.int .i64 (k:Int)∧wr.heap[O]?=some (.cells (dcl (prK x y i m2 k)) 3)∧Below O W3 wr) (fun kv _=>16-(intOf kv).toNat)
   case atStart=>exact ⟨0,by omega,rfl,HO2.out,hbl2⟩
   case round=>
    clear HO2 hbl2;obtain ⟨k,hk,rfl,ho,hbl⟩:=hrel;have HO:=hid ho;clear ho
    by_cases hk16:k<16
    ·have hdk:decide ((k:Int)<16)=true:=by simp;omega
     have HR2:=hid (prK_le x y i m2 _ (XL.out i hi16) YL.out HML2.out hi16 HM2.out k (by omega))
     have HRl:=hid (show (prK x y i m2 k).length=32 from by rw [qd4,HML2.out])
     have HRS:Hid (prK x y i m2 (k+1)=(prK x y i m2 k).set (i+k) ((prK x y i m2 k).getD (i+k) 0+x.getD i 0*y.getD k 0)):=hid rfl;have a1:=XL.out i hi16;have b1:=YL.out k hk16
     have p1:x.getD i 0*y.getD k 0≤4294836225:=Nat.mul_le_mul (show _≤65535 by omega) (show _≤65535 by omega)
     have c1:=(hbl.cell (p:=⟨Da,i,none⟩) hla).trans (HCA.out i hi16);have c2:=(hbl.cell (p:=⟨Db,k,none⟩) hlb).trans (HCB.out k hk16)
     have hik:i+k<32:=by omega
     have z1:=HR2.out (i+k) hik;generalize prK x y i m2 k=r at *
     have c3:=qaQ HO.out (i+k) (by rw [HRl.out];exact hik)
     have q0:(0:Int)≤(i:Int)+(k:Int):=by omega
     have hij:((i:Int)+(k:Int)).toNat=i+k:=by omega
     generalize x.getD i 0=p at *;generalize y.getD k 0=q at *;generalize hzz:r.getD (i+k) 0=zz at *;have HZ0:=hid hzz
     have hpq:(p:Int)*(q:Int)=((p*q:Nat):Int):=by simp
     have hz:(zz:Int)+(p:Int)*(q:Int)=((zz+p*q:Nat):Int):=by simp
     have p0:(0:Int)≤(p:Int)*(q:Int):=by omega
     have p2:(p:Int)*(q:Int)≤4294836225:=by omega
     have hz1:zz≤45000000000000:=by omega
     have HZ2:=hid hz;clear hz hpq p1 z1 hzz
     go_wp2_with fail
     have ka:=cell_regrown c1;have kb:=cell_regrown c2;have kc:=cell_regrown c3
     refine qap 21 (by kernel_rfl) (by kernel_rfl) ?_
     simp only [take_succ_cons,List.take_zero,drop_succ_cons,List.drop_zero]
     repeat (first | go_big_quiet_step (fail) | quiet_step (fail))
     refine wpQuiet_nil ?_
     intro V3 hb1;have hO1:=qaa hb1 (qab HO.out) HO.out;have hbl1:Below O W3 V3:=hbl.trans (hb1.mono (Nat.le_of_lt (qab HO.out)))
     have cz:=qaQ hO1 (i+k) (by rw [HRl.out];exact hik)
     have fz:=frozen_of_row V3 O (i+k) _ _ hO1
     have s1:(V3.setCell ⟨O,i+k,none⟩ (.int .i64 ((zz:Int)+(p:Int)*(q:Int)))).heap[O]?=some (.cells (dcl (prK x y i m2 (k+1))) 3):=by rw [HZ2.out,HRS.out];exact qbn hO1 (i+k) _
     have HS1:=hid s1;have hbl2:Below O W3 (V3.setCell ⟨O,i+k,none⟩ (.int .i64 ((zz:Int)+(p:Int)*(q:Int)))):=hbl1.setCell (Nat.le_refl _) _;clear s1 ka kb kc c1 c2 c3 hb1 hO1 hbl
     go_wp2_with fail
     go_roundw
     case rel=>exact ⟨k+1,by omega,by go_num,HS1.out,hbl2⟩
     case measure=>simp [intOf];omega
    ·have hdk:decide ((k:Int)<16)=false:=by simp;omega
     obtain rfl:k=16:=by omega
     rw [← HN.out] at HO
     go_wp2_with fail
     go_roundw
     case rel=>exact ⟨i+1,by omega,by go_num,HO.out,hbl⟩
     case measure=>simp [intOf];omega
  ·have hdi:decide ((i:Int)<16)=false:=by simp;omega
   obtain rfl:i=16:=by omega
   have hle:∀ j,j<32→(prI x y z 16).getD j 0≤1152921504606846976:=fun j hj=>by have:=HPL.out 16 (by omega) j hj;omega
   have HUl:=hid (qdz x y z 16);have HU:=hid hle;generalize prI x y z 16=u at *;clear hle
   go_wp2_with fail
   go_loopw [14,15] (fun cv iv wr=>∃ i:Nat,i≤32∧iv=.int .i64 (i:Int)∧cv=.int .i64 (((rnd u i).2:Nat):Int)∧wr.heap[O]?=some (.cells (dcl (rnd u i).1) 3)∧Below O W3 wr) (fun _ iv _=>32-(intOf iv).toNat)
   case atStart=>exact ⟨0,by omega,rfl,rfl,HO.out,hbl⟩
   case round=>
    clear HO hbl;obtain ⟨i,hi,rfl,rfl,ho,hbl⟩:=hrel;have HD:=hid ho;clear ho
    by_cases hi32:i<32
    ·have hdi:decide ((i:Int)<32)=true:=by simp;omega
     obtain ⟨q1,e1⟩:=rnd_small32 u HUl.out HU.out i hi32;have b1:=HU.out i hi32;have HRS1:Hid ((rnd u (i+1)).1=(rnd u i).1.set i (((rnd u i).1.getD i 0+(rnd u i).2)%65536)):=hid rfl;have HRS2:Hid ((rnd u (i+1)).2=((rnd u i).1.getD i 0+(rnd u i).2) / 65536):=hid rfl
     have hrl:(rnd u i).1.length=32:=by rw [qbQ,HUl.out]
     rw [e1] at HRS1 HRS2
     have cx:=qaQ HD.out i (by omega)
     rw [e1] at cx;clear e1;generalize hxx:u.getD i 0=d at *;generalize (rnd u i).2=n at *;generalize (rnd u i).1=r at *;clear hxx;have fx:=frozen_of_row wr O i _ _ HD.out
     have ha:=and_16 (d+n) (by omega)
     rw [show ((d+n:Nat):Int)=(n:Int)+(d:Int) by omega] at ha
     have r1:=qbn HD.out i ((d+n)%65536);rw [← HRS1.out] at r1;have HR2:=hid r1;have hb2:Below O W3 (wr.setCell ⟨O,i,none⟩ (.int .i64 (((d+n)%65536:Nat):Int))):=hbl.setCell (Nat.le_refl _) _;clear r1 HRS1 hbl;generalize (d+n)%65536=lo at *
     go_wp2_with fail
     go_roundw
     case rel=>exact ⟨i+1,by omega,by go_num,by rw [HRS2.out];go_num,HR2.out,hb2⟩
     case measure=>simp [intOf];omega
    ·have hdi:decide ((i:Int)<32)=false:=by simp;omega
     obtain rfl:i=32:=by omega
     obtain ⟨v1,v2⟩:=HV.out
     have hrl:(rnd u 32).1.length=32:=by rw [qbQ,HUl.out]
     generalize (rnd u 32).1=r at *
     have HDg:Hid (DigsAt wr 32 (.slice (some ⟨O,0,none⟩) 32 32) r):=hid ⟨O,32,rfl,fun j hj=>qaQ HD.out j (by omega)⟩
     have C4:=hid (restRef_any _ r 32 wr (by decide) v1 HDg.out (by decide))
     rw [v2] at C4
     have C5:=hid (fun d W hW=>qfT d (R%lF) W hW)
     have hsO:O≤wr.heap.size:=Nat.le_of_lt (qab HD.out);generalize hxx:R%lF=X at *;have HXX:=hid hxx;clear hxx;clear v1 v2 HD HDg
     go_wp2_with fail
     refine C4.out.mono ?_
     rintro e W5 ⟨⟨d5,rfl,hd5⟩,b5⟩;have HD5:=hid hd5;replace b5:=hbl.trans (b5.mono hsO)
     have hs5:O≤W5.heap.size:=by have:=b5.size;rw [HBB.out] at this;exact this
     clear hd5 C4
     go_wp2_with fail
     refine (C5.out d5 W5 HD5.out).mono ?_
     rintro e W6 ⟨rfl,b6⟩;replace b6:=b5.trans (b6.mono hs5)
     go_wp2_with fail
     go_ret2
     exact ⟨by first | rfl | (rw [HXX.out];rfl),HB3.out.trans (b6.mono (by rw [← HBB.out];exact HB3.out.size))⟩
set_option maxHeartbeats 1000000 in
theorem rmulAddBad_any (a b c:ByteArray) (w:World) (h:¬ okM a b c) :
  Calls Tryz.prog 67 #[.string a,.string b,.string c] w fun e w'=>e=.returned (.tuple #[.string ⟨#[]⟩,.int .i64 1])∧w'=w:=by
 by_cases ha:a.size=32
 ·have d1:((a.size:Int) != 32)=false:=by simp [ha]
  by_cases hb:b.size=32
  ·have hc:c.size≠32:=fun hc=>h ⟨ha,hb,hc⟩
   have d2:((b.size:Int) != 32)=false:=by simp [hb]
   have d3:((c.size:Int) != 32)=true:=by simp;omega
   clear h ha hb hc
   go_enter Tryz.func67,Tryz.ntmps67
   go_wp2_with fail
   go_ret2
   exact ⟨rfl,rfl⟩
  ·have d2:((b.size:Int) != 32)=true:=by simp;omega
   clear h ha hb
   go_enter Tryz.func67,Tryz.ntmps67
   go_wp2_with fail
   go_ret2
   exact ⟨rfl,rfl⟩
 ·have d1:((a.size:Int) != 32)=true:=by simp;omega
  clear h ha
  go_enter Tryz.func67,Tryz.ntmps67
  go_wp2_with fail
  go_ret2
  exact ⟨rfl,rfl⟩
theorem rmulAdd_any (a b c:ByteArray) (w:World) :
  Calls Tryz.prog 67 #[.string a,.string b,.string c] w fun e w'=>e=.returned (.tuple #[.string (maX a b c),.int .i64 (maE a b c)])∧Below w.heap.size w w':=by
 by_cases h:okM a b c
 ·rw [maX,maE,if_pos h,if_pos h]
  exact rmulAddOk_any a b c w h.1 h.2.1 h.2.2
 ·rw [maX,maE,if_neg h,if_neg h]
  exact (rmulAddBad_any a b c w h).mono fun e w' ⟨h1,h2⟩=>⟨h1,h2▸Below.refl _ _⟩
end
end Go.Proofs.YteomfleofeeofaaGreatDoor
