/- The reference's nought, its modulus, and its carries. -/
import Derived.Test.YteomfleofeeofaaGreatDoorFldP
import Derived.Laws.BitsAllLaws
import Derived.WalkSmall
namespace Go.Proofs.YteomfleofeeofaaGreatDoor
open Go.Lib (hid)
open _root_.List (take_succ_cons drop_succ_cons)
set_option maxHeartbeats 16000000
open Go.Proofs.Tryz
set_option maxRecDepth 100000
set_option linter.unusedSimpArgs false
set_option linter.unusedVariables false
section
open Go.RowKit Go.Sort
def dcl(l:List Nat):Array Value:=nc .i64 l
theorem qbc{W:World}{B:Nat}{l:List Nat}{T:TypeId}{fr:Nat×Nat}(h:W.heap[B]?=some (.cells (dcl l) T fr))(j:Nat)(hj:j<l.length):W.cell? ⟨B,j,none⟩=some (.int .i64 ((l.getD j 0:Nat):Int)):=nc_cell h j hj
theorem qbQ{W:World}{B:Nat}{l:List Nat}{T:TypeId}(h:W.heap[B]?=some (.cells (dcl l) T))(j:Nat)(x:Nat):(W.setCell ⟨B,j,none⟩ (.int .i64 (x:Int))).heap[B]?=some (.cells (dcl (l.set j x)) T):=nc_heap_set h j x
theorem qf9:(Tryz.prog.info? 3).map (fun i=>(i.zero,i.size,i.bytes))=some (some (.int .i64 0),1,8):=by kernel_rfl
def qaI:Array Value:=dcl (List.replicate 16 0)
theorem made_digits(n:Nat):madeCells (Value.int .i64 0).cells n=dcl (List.replicate n 0):=by
 apply Array.ext_getElem?;intro i;by_cases h:i<n
 ·simp[madeCells,dcl,nc,Value.cells,h,Nat.mod_one]
 ·simp[madeCells,dcl,nc,Value.cells,h]
theorem makeF16(W:World):(Instr.makeSlice 68 (.int .i64 16) (.int .i64 16)).run Tryz.prog W=.ok (.slice (some ⟨W.heap.size,0,none⟩) 16 16) (W.alloc (.cells qaI 3)):=by
 obtain⟨i0,hi,z0,z1,z2⟩:=info_parts qf9;have h:=run_make (P:=Tryz.prog) W 68 3 i0 (.int .i64 0) underlying68 hi z0 .i64 .i64 16 16 (by omega) (by omega) (by rw[z2];omega) (by omega);have e:madeCells (Value.int .i64 0).cells ((16:Int).toNat*i0.size)=qaI:=by rw[z1,made_digits];rfl
 rw[e]at h;exact h
def DigAt(W:World)(v:Value)(l:List Nat):Prop:=∃ D z0,v=.slice (some ⟨D,0,none⟩) 16 z0∧∀ j,j<16→W.cell? ⟨D,j,none⟩=some (.int .i64 ((l.getD j 0:Nat):Int))
theorem DigAt.step{W W':World}{v:Value}{l:List Nat}(h:DigAt W v l)(hb:Below W.heap.size W W'):DigAt W' v l:=by
 obtain⟨D,z0,hv,hc⟩:=h;exact⟨D,z0,hv,fun j hj=>(hb.cell (jbc (hc j hj))).trans (hc j hj)⟩
theorem DigAt.of_block{W:World}{D z0:Nat}{l:List Nat}{T:TypeId}(h:W.heap[D]?=some (.cells (dcl l) T))(hl:l.length=16):DigAt W (.slice (some ⟨D,0,none⟩) 16 z0) l:=⟨D,z0,rfl,fun j hj=>qbc h j (by omega)⟩
theorem qcU(w:World):Calls Tryz.prog 147 #[] w fun e w'=>e=.returned (.slice (some ⟨w.heap.size,0,none⟩) 16 16)∧w'=w.alloc (.cells qaI 3):=by
 have hmk:=makeF16;go_enter func147,ntmps147;go_wp2_with fail;go_ret;exact⟨rfl,rfl⟩
def modL(i:Nat):List Nat:=mkD fun j=>if j<i then 65535 else 0
theorem qgp(i:Nat):(modL i).length=16:=qbp _
theorem modL_set(i:Nat)(h:i<16):(modL i).set i 65535=modL (i+1):=by
 have:=mkD_set (fun j=>if j<i then 65535 else 0) (fun j=>if j<i+1 then 65535 else 0) i h (fun j hj hne=>by
  by_cases h1:j<i
  ·simp[h1,Nat.lt_succ_of_lt h1]
  ·have:¬ j<i+1:=by omega
   simp[h1,this])
 rw[modL,modL];simpa using this
theorem modL_full:((modL 16).set 0 65517).set 15 32767=digN pF:=by decide +kernel
theorem qd8(w:World):Calls Tryz.prog 190 #[] w fun e w'=>e=.returned (.slice (some ⟨w.heap.size,0,none⟩) 16 16)∧w'.heap[w.heap.size]?=some (.cells (dcl (digN pF)) 3)∧Below w.heap.size w w':=by
 have HO:=hid (show (w.alloc (.cells qaI 3)).heap[w.heap.size]?=some (.cells (dcl (modL 0)) 3) from qad w _);have z2:=qaf w (.cells qaI 3);have HZ:=hid (qcU w);go_enter func190,ntmps190;go_wp2_with fail;refine HZ.out.mono ?_;rintro e W1⟨rfl,rfl⟩;go_wp2_with fail;clear HZ;generalize (w.alloc (.cells qaI 3))=W0 at *;generalize z3:w.heap.size=O at *;have z0:=hid z3;clear z3
 go_loopw [2] (fun iv wr=>∃ i:Nat,i≤16∧iv=.int .i64 (i:Int)∧wr.heap[O]?=some (.cells (dcl (modL i)) 3)∧Below O w wr) (fun iv _=>16-(intOf iv).toNat)
 case atStart=>exact⟨0,by omega,rfl,HO.out,z2⟩
 case round=>
  clear HO z2;obtain⟨i,hi,rfl,ho,hb⟩:=hrel;have HO:=hid ho;clear ho;by_cases z4:i<16
  ·have hd:decide ((i:Int)<16)=true:=by simp;omega
   have cx:=qbc HO.out i (by rw[qgp];exact z4);have fx:=jfr wr O i _ _ HO.out;have r1:=qbQ HO.out i 65535;rw[modL_set i z4]at r1;have z5:=hid r1;have z1:Below O w (wr.setCell ⟨O,i,none⟩ (.int .i64 ((65535:Nat):Int))):=hb.setCell (by simp) _;clear r1 hb;go_wp2_with fail;go_roundw
   case rel=>exact⟨i+1,by omega,by go_num,z5.out,z1⟩
   case measure=>simp[intOf];omega
  ·have hd:decide ((i:Int)<16)=false:=by simp;omega
   obtain rfl:i=16:=by omega
   have c0:=qbc HO.out 0 (by rw[qgp];decide);have f0:=jfr wr O 0 _ _ HO.out;have r1:(wr.setCell ⟨O,0,none⟩ (.int .i64 65517)).heap[O]?=some (.cells (dcl ((modL 16).set 0 65517)) 3):=qbQ HO.out 0 65517;have c1:=qbc r1 15 (by rw[List.length_set,qgp];decide);have f1:=jfr _ O 15 _ _ r1;have r2:((wr.setCell ⟨O,0,none⟩ (.int .i64 65517)).setCell ⟨O,15,none⟩ (.int .i64 32767)).heap[O]?=some (.cells (dcl (((modL 16).set 0 65517).set 15 32767)) 3):=qbQ r1 15 32767;rw[modL_full]at r2;have z6:=hid r2;have z1:Below O w (wr.setCell ⟨O,0,none⟩ (.int .i64 65517)):=hb.setCell (by simp) _;have z7:Below O w ((wr.setCell ⟨O,0,none⟩ (.int .i64 65517)).setCell ⟨O,15,none⟩ (.int .i64 32767)):=z1.setCell (by simp) _;clear r1 r2 hb;go_wp2_with fail;go_ret;exact⟨by rw[z0.out];rfl,by rw[z0.out];exact z6.out,by rw[z0.out];exact z7⟩
theorem and_16(y:Nat)(h1:y≤4611686018427387904):bits .and .i64 (y:Int) 65535=((y%65536:Nat):Int):=by
 have z0:(BitVec.ofInt 64 65535).toNat=2^16-1:=by decide
 have key:(BitVec.ofInt 64 (y:Int) &&& BitVec.ofInt 64 65535).toNat=((y:Int)%((2^64:Nat):Int)).toNat%2^16:=by
  rw[BitVec.toNat_and,BitVec.toNat_ofInt,z0,Nat.and_two_pow_sub_one_eq_mod]
 show IntKind.i64.wrap ((BitVec.ofInt 64 (y:Int) &&& BitVec.ofInt 64 65535).toNat:Nat)=_;rw[key,IntKind.wrap_i64];omega
def qfa(v:List Nat):Prop:=∀ j,v.getD j 0≤1152921504606846976
theorem rnd_small(v:List Nat)(h:qfa v)(hl:v.length=16)(i:Nat)(hi:i<16):(rnd v i).2≤1152921504606846976∧(rnd v i).1.getD i 0=v.getD i 0∧v.getD i 0≤1152921504606846976:=
 ⟨rnd_carry v _ h i (by omega),rnd_late v i (by omega) i (jlr _),h i⟩
theorem foldR_small(v:List Nat)(h:qfa v)(hl:v.length=16):qfa (qbe v)∧(rnd v 16).2≤35184372088832∧(rnd v 16).1.getD 0 0≤65535:=by
 obtain⟨c1,e1,b1⟩:=rnd_small v h hl 15 (by decide);have hc:(rnd v 16).2=((rnd v 15).1.getD 15 0+(rnd v 15).2)/65536:=rfl;have z0:(rnd v 16).2≤35184372088832:=by rw[hc,e1];omega
 have h0:=qfK v 16 (by omega) 0 (by decide);refine⟨fun j=>?_,z0,by omega⟩;by_cases hj:j<16
 ·rw[qbe,qcb _ _ _ _ (by rw[qct];omega)];split
  ·omega
  ·have:=qfK v 16 (by omega) j hj;omega
 ·rw[List.getD_eq_getElem?_getD,List.getElem?_eq_none (by rw[qbu];omega)];simp
def qdW(v:List Nat):Nat→List Nat
 | 0=>v
 | r+1=>qbe (qdW v r)
theorem qfT(v:List Nat)(h:v.length=16):∀ r,(qdW v r).length=16
 | 0=>h
 | r+1=>by rw[qdW,qbu];exact qfT v h r
theorem foldN_small(v:List Nat)(h:qfa v)(hl:v.length=16):∀ r,qfa (qdW v r)
 | 0=>h
 | r+1=>(foldR_small _ (foldN_small v h hl r) (qfT v hl r)).1
def goesOn(v:List Nat)(r:Nat):Prop:=∀ q,q<r→(rnd (qdW v q) 16).2≠0
theorem foldD_stop(v:List Nat)(r:Nat)(hr:r<3)(h:goesOn v r)(h0:(rnd (qdW v r) 16).2=0):qdW v (r+1)=qcr v:=by
 rcases (show r=0∨r=1∨r=2 by omega)with rfl|rfl|rfl
 ·have e0:(rnd v 16).2=0:=h0;rw[qcr,if_pos e0];rfl
 ·have e0:(rnd v 16).2≠0:=h 0 (by decide);have e1:(rnd (qbe v) 16).2=0:=h0;rw[qcr,if_neg e0,if_pos e1];rfl
 ·have e0:(rnd v 16).2≠0:=h 0 (by decide);have e1:(rnd (qbe v) 16).2≠0:=h 1 (by decide);rw[qcr,if_neg e0,if_neg e1];rfl
theorem foldD_end(v:List Nat)(h:goesOn v 3):qdW v 3=qcr v:=by
 have e0:(rnd v 16).2≠0:=h 0 (by decide);have e1:(rnd (qbe v) 16).2≠0:=h 1 (by decide);rw[qcr,if_neg e0,if_neg e1];rfl
theorem qgn(D:Nat)(v:List Nat)(w:World)(hD:w.heap[D]?=some (.cells (dcl v) 3))(hl:v.length=16)(hv:qfa v):Calls Tryz.prog 191 #[.slice (some ⟨D,0,none⟩) 16 16] w fun e w'=>e=.returned (.slice (some ⟨D,0,none⟩) 16 16)∧w'.heap[D]?=some (.cells (dcl (qcr v)) 3)∧But D w w':=by
 have HD:=hid hD;have HV:=hid hv;have zb:=hid hl;clear hD hv hl;go_enter func191,ntmps191;go_wp2_with fail
 go_loopw [3] (fun kv wr=>∃ k:Nat,k≤3∧kv=.int .i64 (k:Int)∧wr.heap[D]?=some (.cells (dcl (qdW v k)) 3)∧goesOn v k∧But D w wr) (fun kv _=>3-(intOf kv).toNat)
 case atStart=>exact⟨0,by omega,rfl,HD.out,fun q hq=>absurd hq (by omega),But.refl _ _⟩
 case round=>
  clear HD;obtain⟨k,hk,rfl,hd,zc,z0⟩:=hrel;have HD:=hid hd;have z8:=hid zc;clear hd zc;by_cases zj:k<3
  ·have zi:decide ((k:Int)<3)=true:=by simp;omega
   have HU:=hid (foldN_small v HV.out zb.out k);have z6:=hid (qfT v zb.out k);have HN:Hid (qdW v (k+1)=qbe (qdW v k)):=hid rfl;have HE:=hid (foldD_stop v k zj z8.out);have HG:Hid ((rnd (qdW v k) 16).2≠0→goesOn v (k+1)):=hid (fun zk q hq=>by
    by_cases zl:q=k
    ·rw[zl];exact zk
    ·exact z8.out q (by omega))
   generalize qdW v k=u at *;go_wp2_with fail
   go_loopw [4,5] (fun cv iv wr=>∃ i:Nat,i≤16∧iv=.int .i64 (i:Int)∧cv=.int .i64 (((rnd u i).2:Nat):Int)∧wr.heap[D]?=some (.cells (dcl (rnd u i).1) 3)∧But D w wr) (fun _ iv _=>16-(intOf iv).toNat)
   case atStart=>exact⟨0,by omega,rfl,rfl,HD.out,z0⟩
   case round=>
    clear HD z0;obtain⟨i,hi,rfl,rfl,hd,z0⟩:=hrel;have HD:=hid hd;clear hd;by_cases z5:i<16
    ·have zh:decide ((i:Int)<16)=true:=by simp;omega
     obtain⟨c1,e1,b1⟩:=rnd_small u HU.out z6.out i z5;have z2:Hid ((rnd u (i+1)).1=(rnd u i).1.set i (((rnd u i).1.getD i 0+(rnd u i).2)%65536)):=hid rfl;have z3:Hid ((rnd u (i+1)).2=((rnd u i).1.getD i 0+(rnd u i).2)/65536):=hid rfl;have zd:(rnd u i).1.length=16:=by rw[qct,z6.out]
     rw[e1]at z2 z3;have cx:=qbc HD.out i (by omega);rw[e1]at cx;clear e1;generalize za:u.getD i 0=x at *;generalize (rnd u i).2=c at *;generalize (rnd u i).1=r at *;clear za;have fx:=jfr wr D i _ _ HD.out;have hs:((x:Int)+(c:Int))=((x+c:Nat):Int):=by omega
     have ha:=and_16 (x+c) (by omega);rw[← hs]at ha;have r1:(wr.setCell ⟨D,i,none⟩ (.int .i64 ((x:Int)+(c:Int)))).heap[D]?=some (.cells (dcl (r.set i (x+c))) 3):=by rw[hs];exact qbQ HD.out i (x+c)
     have cy:=qbc r1 i (by rw[List.length_set];omega);have e2:(r.set i (x+c)).getD i 0=x+c:=by simp[List.getD_eq_getElem?_getD,zd,z5]
     rw[e2,← hs]at cy;have fy:=jfr _ D i _ _ r1;have r2:=qbQ r1 i ((x+c)%65536);rw[List.set_set,← z2.out]at r2;have zf:=hid r2;have z4:=(z0.trans (But.setCell D wr ⟨D,i,none⟩ (.int .i64 ((x:Int)+(c:Int))) rfl)).trans (But.setCell D _ ⟨D,i,none⟩ (.int .i64 (((x+c)%65536:Nat):Int)) rfl);clear r1 r2 e2 hs z2;generalize (x+c)%65536=lo at *;go_wp2_with fail;go_roundw
     case rel=>exact⟨i+1,by omega,by go_num,by rw[z3.out];go_num,zf.out,z4⟩
     case measure=>simp[intOf];omega
    ·have zh:decide ((i:Int)<16)=false:=by simp;omega
     obtain rfl:i=16:=by omega
     obtain⟨s1,s2,s3⟩:=foldR_small u HU.out z6.out;have HF:Hid (qbe u=(rnd u 16).1.set 0 ((rnd u 16).1.getD 0 0+38*(rnd u 16).2)):=hid rfl;have zd:(rnd u 16).1.length=16:=by rw[qct,z6.out]
     have cx:=qbc HD.out 0 (by omega);have fx:=jfr wr D 0 _ _ HD.out;generalize za:(rnd u 16).1.getD 0 0=x at *;generalize hcc:(rnd u 16).2=c at *;generalize (rnd u 16).1=r at *;clear za s1;have hs:((x:Int)+38*(c:Int))=((x+38*c:Nat):Int):=by omega
     have r1:(wr.setCell ⟨D,0,none⟩ (.int .i64 ((x:Int)+38*(c:Int)))).heap[D]?=some (.cells (dcl (r.set 0 (x+38*c))) 3):=by rw[hs];exact qbQ HD.out 0 (x+38*c)
     rw[← HF.out,← HN.out]at r1;have z9:=hid r1;have z1:=z0.trans (But.setCell D wr ⟨D,0,none⟩ (.int .i64 ((x:Int)+38*(c:Int))) rfl);clear r1 hs;by_cases h0:c=0
     ·have zg:((c:Int)==0)=true:=by rw[h0];rfl
      have z7:=hid (HE.out h0);rw[z7.out]at z9;clear h0;go_wp2_with fail;go_ret;exact⟨rfl,z9.out,z1⟩
     ·have zg:((c:Int)==0)=false:=by simp;omega
      have ze:=hid (HG.out h0);go_wp2_with fail;go_roundw
      case rel=>exact⟨k+1,by omega,by go_num,z9.out,ze.out,z1⟩
      case measure=>simp[intOf];omega
  ·have zi:decide ((k:Int)<3)=false:=by simp;omega
   obtain rfl:k=3:=by omega
   rw[foldD_end v z8.out]at HD;go_wp2_with fail;go_ret;exact⟨rfl,HD.out,z0⟩
def dvl(l:List Nat):List Value:=l.map fun n:Nat=>Value.int .i64 (n:Int)
theorem qdV(l:List Nat):(dvl l).length=l.length:=by simp[dvl]
theorem dvl_get(l:List Nat)(j:Nat)(h:j<l.length):(dvl l)[j]?=some (.int .i64 ((l.getD j 0:Nat):Int)):=by simp[dvl,h]
theorem dvl_set(l:List Nat)(j x:Nat):(dvl l).set j (.int .i64 (x:Int))=dvl (l.set j x):=by simp[dvl,List.map_set]
theorem dvl_snoc(l:List Nat)(x:Nat):dvl l++[.int .i64 (x:Int)]=dvl (l++[x]):=by simp[dvl]
theorem DigAt.of_own{W:World}{base g z0:Nat}{l:List Nat}(h:OwnS W base g z0 (dvl l))(hl:l.length=16):DigAt W (.slice (some ⟨g,0,none⟩) 16 z0) l:=
 ⟨g,z0,rfl,fun j hj=>h.cells j _ (dvl_get l j (by omega))⟩
theorem addW_c(v:List Nat)(h:∀ j,j<16→v.getD j 0<65536):∀ i,i≤16→(addW v i).2≤19
 | 0,_=>by simp[addW]
 | i+1,hi=>by
  have h1:=addW_c v h i (by omega);have h2:=h i (by omega);rw[addW];show ((addW v i).2+v.getD i 0)/65536≤19;omega
def subN(v:List Nat):Nat→List Nat
 | 0=>v
 | r+1=>subP (subN v r)
theorem subN_spec(v:List Nat)(hl:v.length=16)(h:∀ j,j<16→v.getD j 0<65536):∀ r,(subN v r).length=16∧∀ j,j<16→(subN v r).getD j 0<65536
 | 0=>⟨hl,h⟩
 | r+1=>by
  obtain⟨h1,h2⟩:=subN_spec v hl h r;obtain⟨h3,h4,_⟩:=subP_spec _ h1 h2;exact⟨h3,h4⟩
theorem belowD_two(v:List Nat)(h:¬ v.getD 15 0<32767):subN v 2=qdw v:=by rw[qdw,if_neg h];rfl
theorem qdH(d:Value)(v:List Nat)(w:World)(hd:DigAt w d v)(hl:v.length=16)(hv:∀ j,j<16→v.getD j 0<65536):Calls Tryz.prog 189 #[d] w fun e w'=>(∃ d',e=.returned d'∧DigAt w' d' (qdw v))∧Below w.heap.size w w':=by
 obtain⟨i0,hi,zQ,zR,zS⟩:=info_parts qf9;by_cases zh:v.getD 15 0<32767
 ·have zc:=hd;obtain⟨D,zD,rfl,hc⟩:=hd;have zs:=hc 15 (by decide);have za:decide (((v.getD 15 0:Nat):Int)<32767)=true:=by simp only[decide_eq_true_eq];omega
  have HB:Hid (qdw v=v):=hid (if_pos zh);have zx:=hid zc;generalize v.getD 15 0=t at *;clear zc hc;go_enter func189,ntmps189;go_wp2_with fail;go_ret;exact⟨⟨_,rfl,by rw[HB.out];exact zx.out⟩,Below.refl _ _⟩
 ·have HT:=hid (belowD_two v zh);have zA:=hid (subN_spec v hl hv);have zc:=hid hd;obtain⟨D,zD,rfl,hc⟩:=hd;have zs:=hc 15 (by decide);have za:decide (((v.getD 15 0:Nat):Int)<32767)=false:=by simp only[decide_eq_false_iff_not];omega
  generalize v.getD 15 0=t at *;clear hc zh;go_enter func189,ntmps189;go_wp2_with fail;clear zs za
  go_loopw [0,3] (fun dv kv wr=>∃ k:Nat,k≤2∧kv=.int .i64 (k:Int)∧DigAt wr dv (subN v k)∧Below w.heap.size w wr) (fun _ kv _=>2-(intOf kv).toNat)
  case atStart=>exact⟨0,by omega,rfl,zc.out,Below.refl _ _⟩
  case round=>
   clear zc;obtain⟨k,hk,rfl,zu,hb⟩:=hrel;have zf:=hid zu;by_cases hk2:k<2
   ·have zl:decide ((k:Int)<2)=true:=by simp;omega
    obtain⟨zv,zo⟩:=zA.out k;have HUL:=hid zv;have zB:=hid zo;have HN:Hid (subN v (k+1)=subP (subN v k)):=hid rfl;have zq:=hid (addW_c (subN v k) zo);generalize subN v k=u at *;obtain⟨D2,cap2,rfl,zt⟩:=zu;have zp:=hid zt;clear zt zv zo;go_wp2_with fail;generalize wr=W1 at *;generalize zi:W1.heap.size=N at *;have zr:=hid zi;have zn:N≤W1.heap.size:=by omega
    have zO:w.heap.size≤N:=by rw[← zi];exact hb.size
    clear zi
    go_loopw [4,5,6] (fun lv cv iv ws=>∃ (i:Nat) (ao:Option Addr) (cp:Nat),i≤16∧iv=.int .i64 (i:Int)∧cv=.int .i64 (((addW u i).2:Nat):Int)∧lv=.slice ao i cp∧Own ws N (.slice ao i cp) (dvl (addW u i).1)∧Below N W1 ws∧N≤ws.heap.size) (fun _ _ iv _=>16-(intOf iv).toNat)
    case atStart=>exact⟨0,none,0,by omega,rfl,rfl,rfl,Own.nil _ _,Below.refl _ _,zn⟩
    case round=>
     obtain⟨i,ao,cp,hi16,rfl,rfl,rfl,z1,z9,zL⟩:=hrel;have HO:=hid z1;have HL:=hid (show (dvl (addW u i).1).length=i by rw[qdV,qcG]);clear z1;by_cases za:i<16
     ·have zJ:decide ((i:Int)<16)=true:=by simp;omega
      have zI:=(z9.cell (p:=⟨D2,i,none⟩) (by rw[← zr.out];exact jbc (zp.out i za))).trans (zp.out i za);have zk:=zq.out i (by omega);have hu16:=zB.out i za;have zy:Hid ((addW u (i+1)).1=(addW u i).1++[((addW u i).2+u.getD i 0)%65536]):=hid rfl;have zz:Hid ((addW u (i+1)).2=((addW u i).2+u.getD i 0)/65536):=hid rfl;generalize (addW u i).2=c at *;generalize zP:u.getD i 0=x at *;clear zP;have ha:=and_16 (c+x) (by omega);have hs:((c+x:Nat):Int)=(c:Int)+(x:Int):=by omega
      rw[hs]at ha;have HM:=hid (dvl_snoc (addW u i).1 ((c+x)%65536));rw[← zy.out]at HM;generalize (c+x)%65536=lo at *;go_wp2_with (at_builtin;refine qaB rfl (.tmp 26) (.tmp 29) 68 rfl N 3 i0 (.int .i64 0) 8 underlying68 hi zQ zR zS rfl ao i cp _ rfl (HO.out.alloc _) HL.out ⟨wr.heap.size,0,none⟩ 1 1 [.int .i64 (lo:Int)] rfl rfl (cell_one_new _ _ _) ?b2 ?b3 ?b4 ?b5 ?_)
      case b2=>intro u hu;simp at hu;subst hu;rfl
      case b3=>omega
      case b4=>omega
      case b5=>simp;omega
      intro zC zE W5 z6 z2;have zG:Below N W1 W5:=qaV (z9.alloc zL _) (by simp;omega) (HO.out.alloc _) z2;have zm:N≤W5.heap.size:=by have:=z2.size;simp at this;omega
      rw[HM.out]at z6;clear z2 HO z9 ha zI;go_wp2_with fail;go_roundw
      case rel=>exact⟨i+1,zC,zE,by omega,by go_num,by rw[zz.out];go_num,rfl,z6,zG,zm⟩
      case measure=>simp[intOf];omega
     ·have zJ:decide ((i:Int)<16)=false:=by simp;omega
      obtain rfl:i=16:=by omega
      obtain⟨g,gc,zw,z1,hgl⟩:=HO.out.some (by rw[HL.out];omega);have zN:Value.slice ao 16 cp=.slice (some ⟨g,0,none⟩) 16 gc:=by rw[zw,HL.out]
      injection zN with h1 h2 h3;subst h1 h3;clear zw;have z4:=qcG u 16;have zk:=zq.out 16 (by omega);have ht16:=addW_low u 16 15 (by decide);have hc15:=z1.cells 15 _ (dvl_get _ 15 (by omega));have hf15:=(z1.room 15 (by have:=z1.le;rw[qdV,z4]at this;omega)).2;have z0:Hid (subP u=if 32768≤(addW u 16).1.getD 15 0∨0<(addW u 16).2 then (addW u 16).1.set 15 ((addW u 16).1.getD 15 0+65536*(addW u 16).2-32768) else u):=hid rfl;have z7:=hid z1;have zb:Below w.heap.size w wr:=hb.trans (z9.mono zO);have zg:=hid (zf.out.step (by rw[zr.out];exact z9));generalize zH:(addW u 16).2=c at *;generalize zM:(addW u 16).1.getD 15 0=t2 at *;generalize (addW u 16).1=wl at *;clear z1 HO zf z9 zM zH;by_cases hA:32768≤t2
      ·have q1:decide ((32768:Int)≤(t2:Int))=true:=by simp;omega
       rw[if_pos (Or.inl hA)]at z0;have z8:(15:Nat)<(dvl wl).length:=by rw[qdV,z4];decide
       obtain⟨nv,zd⟩:∃ nv,nv=t2+65536*c-32768:=⟨_,rfl⟩;have zK:(t2:Int)-32768+65536*(c:Int)=(nv:Int):=by omega
       have z3:=z7.out.put 15 z8 (.int .i64 (nv:Int));rw[dvl_set]at z3;rw[← zd]at z0;have ze:(wl.set 15 nv).length=16:=by rw[List.length_set,z4]
       have z5:=hid (DigAt.of_own z3 ze);rw[← z0.out,← HN.out]at z5;have zj:Below w.heap.size w (wr.setCell ⟨g,15,none⟩ (.int .i64 (nv:Int))):=zb.setCell (by have:=z7.out.base;show w.heap.size≤g;omega) _;clear z3 ze z0 z7 zb zg zd;go_wp2_with fail;go_roundw
       case rel=>exact⟨k+1,by omega,by go_num,z5.out,zj⟩
       case measure=>simp[intOf];omega
      ·have q1:decide ((32768:Int)≤(t2:Int))=false:=by simp;omega
       by_cases zF:0<c
       ·have q2:decide ((0:Int)<(c:Int))=true:=by simp;omega
        rw[if_pos (Or.inr zF)]at z0;have z8:(15:Nat)<(dvl wl).length:=by rw[qdV,z4];decide
        obtain⟨nv,zd⟩:∃ nv,nv=t2+65536*c-32768:=⟨_,rfl⟩;have zK:(t2:Int)-32768+65536*(c:Int)=(nv:Int):=by omega
        have z3:=z7.out.put 15 z8 (.int .i64 (nv:Int));rw[dvl_set]at z3;rw[← zd]at z0;have ze:(wl.set 15 nv).length=16:=by rw[List.length_set,z4]
        have z5:=hid (DigAt.of_own z3 ze);rw[← z0.out,← HN.out]at z5;have zj:Below w.heap.size w (wr.setCell ⟨g,15,none⟩ (.int .i64 (nv:Int))):=zb.setCell (by have:=z7.out.base;show w.heap.size≤g;omega) _;clear z3 ze z0 z7 zb zg zd;go_wp2_with fail;go_roundw
        case rel=>exact⟨k+1,by omega,by go_num,z5.out,zj⟩
        case measure=>simp[intOf];omega
       ·have q2:decide ((0:Int)<(c:Int))=false:=by simp;omega
        rw[if_neg (by omega)]at z0;rw[z0.out]at HN;have z5:=hid zg.out;rw[← HN.out]at z5;clear z0 z7;go_wp2_with fail;go_roundw
        case rel=>exact⟨k+1,by omega,by go_num,z5.out,zb⟩
        case measure=>simp[intOf];omega
   ·have zl:decide ((k:Int)<2)=false:=by simp;omega
    obtain rfl:k=2:=by omega
    rw[HT.out]at zf;go_wp2_with fail;go_ret;exact⟨⟨_,rfl,zf.out⟩,hb⟩
def qbN(f:Nat→Nat)(i:Nat):List Nat:=mkD fun j=>if j<i then f j else 0
theorem qcy(f:Nat→Nat)(i:Nat):(qbN f i).length=16:=qbp _
theorem qep(f:Nat→Nat)(i:Nat)(h:i<16):(qbN f i).set i (f i)=qbN f (i+1):=by
 have:=mkD_set (fun j=>if j<i then f j else 0) (fun j=>if j<i+1 then f j else 0) i h (fun j hj hne=>by
  by_cases h1:j<i
  ·simp[h1,Nat.lt_succ_of_lt h1]
  ·have:¬ j<i+1:=by omega
   simp[h1,this])
 rw[qbN,qbN];simpa using this
theorem qeG(f:Nat→Nat):qbN f 16=mkD f:=qbU (qcy ..) (qbp _) fun i hi=>by rw[qbN,qbs _ _ hi,qbs _ _ hi,if_pos hi]
theorem partD_get(f:Nat→Nat)(i j:Nat)(h:j<16):(qbN f i).getD j 0=if j<i then f j else 0:=qbs _ _ h
theorem qgI(v:List Nat)(hl:v.length=16)(h:∀ j,j<16→v.getD j 0≤1152921504606846976):qfa v∧(qcr v).length=16∧∀ j,j<16→(qcr v).getD j 0<65536:=
 ⟨fun j=>by
  by_cases hj:j<16
  ·exact h j hj
  ·rw[List.getD_eq_getElem?_getD,List.getElem?_eq_none (by omega)];simp,by rw[foldD_length];exact hl,foldD_low v hl (dS_small v 1152921504606846976 (by decide) h)⟩
theorem qdT(da db:Value)(x y:Nat)(w:World)(hx:x<pF)(hy:y<pF)(ha:DigAt w da (digN x))(hb:DigAt w db (digN y)):Calls Tryz.prog 142 #[da,db] w fun e w'=>(∃ d',e=.returned d'∧DigAt w' d' (digN (addF x y)))∧Below w.heap.size w w':=by
 obtain⟨Da,ca,rfl,z7⟩:=ha;obtain⟨Db,cb,rfl,z8⟩:=hb;have zh:=hid z7;have zi:=hid z8;have HA:=hid (qa2 x);have HB:=hid (qa2 y);have HR:=hid (add_ref x y hx hy);have HZ:=hid (qcU w);obtain⟨f,hf⟩:∃ f:Nat→Nat,f=fun i=>(digN x).getD i 0+(digN y).getD i 0:=⟨_,rfl⟩;have HF:=hid (fun j (hj:j<16)=>(show f j=(digN x).getD j 0+(digN y).getD j 0 by rw[hf]));have HV:=hid (show mkD f=addD (digN x) (digN y) by rw[hf];rfl);have zl:=hid (fun j (hj:j<16)=>(show f j≤1152921504606846976 by have h1:=qa2 x j hj;have h2:=qa2 y j hj;rw[hf];show (digN x).getD j 0+(digN y).getD j 0≤_;omega));have HO:=hid (show (w.alloc (.cells qaI 3)).heap[w.heap.size]?=some (.cells (dcl (qbN f 0)) 3) from qad w _);have zb:=qaf w (.cells qaI 3);have zr:=jbc (z7 0 (by decide));have zs:=jbc (z8 0 (by decide));clear z7 z8 hx hy hf;go_enter func142,ntmps142;go_wp2_with fail;refine HZ.out.mono ?_;rintro e W1⟨rfl,rfl⟩;go_wp2_with fail;clear HZ;generalize (w.alloc (.cells qaI 3))=W0 at *;generalize zc:w.heap.size=O at *;have zg:=hid zc;clear zc
 go_loopw [6] (fun iv wr=>∃ i:Nat,i≤16∧iv=.int .i64 (i:Int)∧wr.heap[O]?=some (.cells (dcl (qbN f i)) 3)∧Below O w wr) (fun iv _=>16-(intOf iv).toNat)
 case atStart=>exact⟨0,by omega,rfl,HO.out,zb⟩
 case round=>
  clear HO zb;obtain⟨i,hi,rfl,ho,hb⟩:=hrel;have HO:=hid ho;clear ho;by_cases z0:i<16
  ·have hd:decide ((i:Int)<16)=true:=by simp;omega
   have c1:=(hb.cell (p:=⟨Da,i,none⟩) zr).trans (zh.out i z0);have c2:=(hb.cell (p:=⟨Db,i,none⟩) zs).trans (zi.out i z0);have hx1:=HA.out i z0;have hy1:=HB.out i z0;have zq:=HF.out i z0;have HS:=hid (qep f i z0);have hpl:=qcy f i;generalize (digN x).getD i 0=p at *;generalize (digN y).getD i 0=q at *;have hs:((p:Int)+(q:Int))=((f i:Nat):Int):=by omega
   have zk:=hid hs;clear hs zq;go_wp2_with fail;have ka:=jcr c1;have kb:=jcr c2;refine qak 12 (by kernel_rfl) (by kernel_rfl) ?_;simp only[zks]
   repeat (first|go_big_quiet_step (fail)|quiet_step (fail))
   refine jqn ?_;intro W1 z4;have z2:=hkq HO z4;have z5:Below O w W1:=hb.trans (z4.mono (jll (qac HO.out)));have cz:=qbc z2 i (by omega);have fz:=jfr W1 O i _ _ z2;have s1:(W1.setCell ⟨O,i,none⟩ (.int .i64 ((p:Int)+(q:Int)))).heap[O]?=some (.cells (dcl (qbN f (i+1))) 3):=by rw[zk.out,← HS.out];exact qbQ z2 i (f i)
   have zm:=hid s1;have z6:Below O w (W1.setCell ⟨O,i,none⟩ (.int .i64 ((p:Int)+(q:Int)))):=z5.setCell (jlr _) _;clear s1 ka kb c1 c2 z4 z2 hb HS;go_wp2_with fail;go_roundw
   case rel=>exact⟨i+1,by omega,by go_num,zm.out,z6⟩
   case measure=>simp[intOf];omega
  ·have hd:decide ((i:Int)<16)=false:=by simp;omega
   obtain rfl:i=16:=by omega
   rw[qeG f,HV.out]at HO;have zf:∀ j,j<16→(addD (digN x) (digN y)).getD j 0≤1152921504606846976:=fun j hj=>by rw[← HV.out,qbs _ _ hj];exact zl.out j hj
   obtain⟨q1,q2,q3⟩:=qgI (addD (digN x) (digN y)) (qbp _) zf;have zn:(addD (digN x) (digN y)).length=16:=qbp _;generalize addD (digN x) (digN y)=V at *;clear zf;go_wp2_with fail;refine (qgn O V wr HO.out zn q1).mono ?_;rintro e W2⟨rfl,z3,z1⟩;have zo:Below O w W2:=hb.trans (z1.below (jlr _) (jll (qac HO.out)));have ze:DigAt W2 (.slice (some ⟨O,0,none⟩) 16 16) (qcr V):=DigAt.of_block z3 q2;have za:=hid (qdH _ _ W2 ze q2 q3);have zt:O≤W2.heap.size:=jll (qac z3);clear ze z3 z1 hb;go_wp2_with fail;refine za.out.mono ?_;rintro e W3⟨⟨d',rfl,z9⟩,zd⟩;rw[HR.out]at z9;have zj:=hid z9;have zp:Below O w W3:=zo.trans (zd.mono zt);clear z9 zd za;go_wp2_with fail;go_ret;exact⟨⟨_,rfl,zj.out⟩,by rw[zg.out];exact zp⟩
theorem qcv(da db:Value)(x y:Nat)(w:World)(hx:x<pF)(hy:y<pF)(ha:DigAt w da (digN x))(hb:DigAt w db (digN y)):Calls Tryz.prog 141 #[da,db] w fun e w'=>(∃ d',e=.returned d'∧DigAt w' d' (digN (subF x y)))∧Below w.heap.size w w':=by
 obtain⟨Da,ca,rfl,za⟩:=ha;obtain⟨Db,cb,rfl,zb⟩:=hb;have zj:=hid za;have zk:=hid zb;have HA:=hid (qa2 x);have HB:=hid (qa2 y);have HR:=hid (sub_ref x y hx hy);have HZ:=hid (qcU w);obtain⟨f,hf⟩:∃ f:Nat→Nat,f=fun i=>(digN x).getD i 0+2*(digN pF).getD i 0-(digN y).getD i 0:=⟨_,rfl⟩;have HF:=hid (fun j (hj:j<16)=>(show f j=(digN x).getD j 0+2*(digN pF).getD j 0-(digN y).getD j 0∧(digN y).getD j 0≤2*(digN pF).getD j 0∧(digN pF).getD j 0<65536 from ⟨by rw[hf],subD_ok y j hy hj,qa2 pF j hj⟩));have HV:=hid (show mkD f=subD (digN x) (digN y) by rw[hf];rfl);have zn:=hid (fun j (hj:j<16)=>(show f j≤1152921504606846976 by have h1:=qa2 x j hj;have h2:=qa2 pF j hj;rw[hf];show (digN x).getD j 0+2*(digN pF).getD j 0-(digN y).getD j 0≤_;omega));have HO:=hid (show (w.alloc (.cells qaI 3)).heap[w.heap.size]?=some (.cells (dcl (qbN f 0)) 3) from qad w _);have z3:=qaf w (.cells qaI 3);have zu:=jbc (za 0 (by decide));have zv:=jbc (zb 0 (by decide));clear za zb hx hy hf;go_enter func141,ntmps141;go_wp2_with fail;refine HZ.out.mono ?_;rintro e W1⟨rfl,rfl⟩;go_wp2_with fail;clear HZ;have z2:(w.alloc (.cells qaI 3)).heap.size=w.heap.size+1:=by simp
 generalize (w.alloc (.cells qaI 3))=Wz at *;refine (qd8 Wz).mono ?_;rintro e W0⟨rfl,hM,z7⟩;have HM:=hid hM;have HO:=hkp HO z7;have z3:=z3.trans (z7.mono (by omega));clear hM z7;rw[z2]at HM ⊢;go_wp2_with fail;clear z2;generalize ze:w.heap.size=O at *;have zi:=hid ze;clear ze
 go_loopw [7] (fun iv wr=>∃ i:Nat,i≤16∧iv=.int .i64 (i:Int)∧wr.heap[O]?=some (.cells (dcl (qbN f i)) 3)∧wr.heap[O+1]?=some (.cells (dcl (digN pF)) 3)∧Below O w wr) (fun iv _=>16-(intOf iv).toNat)
 case atStart=>exact⟨0,by omega,rfl,HO.out,HM.out,z3⟩
 case round=>
  clear HO HM z3;obtain⟨i,hi,rfl,ho,hm,hb⟩:=hrel;have HO:=hid ho;have HM:=hid hm;clear ho hm;by_cases z0:i<16
  ·have hd:decide ((i:Int)<16)=true:=by simp;omega
   have c1:=(hb.cell (p:=⟨Da,i,none⟩) zu).trans (zj.out i z0);have c2:=(hb.cell (p:=⟨Db,i,none⟩) zv).trans (zk.out i z0);have c3:=qbc HM.out i (by rw[qaG];exact z0);have hx1:=HA.out i z0;have hy1:=HB.out i z0;obtain⟨zt,hfi2,hfi3⟩:=HF.out i z0;have HS:=hid (qep f i z0);have hpl:=qcy f i;generalize (digN x).getD i 0=p at *;generalize (digN y).getD i 0=q at *;generalize (digN pF).getD i 0=r at *;have hs:((p:Int)+2*(r:Int)-(q:Int))=((f i:Nat):Int):=by omega
   have zm:=hid hs;clear hs zt;go_wp2_with fail;have ka:=jcr c1;have kb:=jcr c2;have kc:=jcr c3;refine qak 18 (by kernel_rfl) (by kernel_rfl) ?_;simp only[zks]
   repeat (first|go_big_quiet_step (fail)|quiet_step (fail))
   refine jqn ?_;intro W1 z5;have z4:=hkq HO z5;have z8:Below O w W1:=hb.trans (z5.mono (jll (qac HO.out)));have zo:=hid (show (W1.setCell ⟨O,i,none⟩ (.int .i64 ((p:Int)+2*(r:Int)-(q:Int)))).heap[O+1]?=some (.cells (dcl (digN pF)) 3) from by rw[jso _ _ _ _ (by simp)];exact hkq HM z5);have cz:=qbc z4 i (by omega);have fz:=jfr W1 O i _ _ z4;have s1:(W1.setCell ⟨O,i,none⟩ (.int .i64 ((p:Int)+2*(r:Int)-(q:Int)))).heap[O]?=some (.cells (dcl (qbN f (i+1))) 3):=by rw[zm.out,← HS.out];exact qbQ z4 i (f i)
   have zp:=hid s1;have z9:Below O w (W1.setCell ⟨O,i,none⟩ (.int .i64 ((p:Int)+2*(r:Int)-(q:Int)))):=z8.setCell (jlr _) _;clear s1 ka kb kc c1 c2 c3 z5 z4 hb HS HM;go_wp2_with fail;go_roundw
   case rel=>exact⟨i+1,by omega,by go_num,zp.out,zo.out,z9⟩
   case measure=>simp[intOf];omega
  ·have hd:decide ((i:Int)<16)=false:=by simp;omega
   obtain rfl:i=16:=by omega
   rw[qeG f,HV.out]at HO;have zh:∀ j,j<16→(subD (digN x) (digN y)).getD j 0≤1152921504606846976:=fun j hj=>by rw[← HV.out,qbs _ _ hj];exact zn.out j hj
   obtain⟨q1,q2,q3⟩:=qgI (subD (digN x) (digN y)) (qbp _) zh;have zq:(subD (digN x) (digN y)).length=16:=qbp _;generalize subD (digN x) (digN y)=V at *;clear zh;go_wp2_with fail;refine (qgn O V wr HO.out zq q1).mono ?_;rintro e W2⟨rfl,z6,z1⟩;have zr:Below O w W2:=hb.trans (z1.below (jlr _) (jll (qac HO.out)));have zg:DigAt W2 (.slice (some ⟨O,0,none⟩) 16 16) (qcr V):=DigAt.of_block z6 q2;have zd:=hid (qdH _ _ W2 zg q2 q3);have zw:O≤W2.heap.size:=jll (qac z6);clear zg z6 z1 hb;go_wp2_with fail;refine zd.out.mono ?_;rintro e W3⟨⟨d',rfl,zc⟩,zf⟩;rw[HR.out]at zc;have zl:=hid zc;have zs:Below O w W3:=zr.trans (zf.mono zw);clear zc zf zd;go_wp2_with fail;go_ret;exact⟨⟨_,rfl,zl.out⟩,by rw[zi.out];exact zs⟩
theorem qaZ(da db:Value)(x y:Nat)(w:World)(hx:x<pF)(hy:y<pF)(ha:DigAt w da (digN x))(hb:DigAt w db (digN y)):Calls Tryz.prog 140 #[da,db] w fun e w'=>(∃ d',e=.returned d'∧DigAt w' d' (digN (mulF x y)))∧Below w.heap.size w w':=by
 obtain⟨Da,ca,rfl,zg⟩:=ha;obtain⟨Db,cb,rfl,zh⟩:=hb;have zu:=hid zg;have zv:=hid zh;have HA:=hid (qa2 x);have HB:=hid (qa2 y);have HR:=hid (mul_ref x y hx hy);have HZ:=hid (qcU w);have HI:=hid (mulI_le (digN x) (digN y) (qa2 x) (qa2 y));have HO:=hid (show (w.alloc (.cells qaI 3)).heap[w.heap.size]?=some (.cells (dcl (mulI (digN x) (digN y) 0)) 3) from qad w _);have zn:=qaf w (.cells qaI 3);have zC:=jbc (zg 0 (by decide));have zD:=jbc (zh 0 (by decide));clear zg zh hx hy;go_enter func140,ntmps140;go_wp2_with fail;refine HZ.out.mono ?_;rintro e W1⟨rfl,rfl⟩;go_wp2_with fail;clear HZ;generalize (w.alloc (.cells qaI 3))=W0 at *;generalize zo:w.heap.size=O at *;have zt:=hid zo;clear zo
 go_loopw [6] (fun iv wr=>∃ i:Nat,i≤16∧iv=.int .i64 (i:Int)∧wr.heap[O]?=some (.cells (dcl (mulI (digN x) (digN y) i)) 3)∧Below O w wr) (fun iv _=>16-(intOf iv).toNat)
 case atStart=>exact⟨0,by omega,rfl,HO.out,zn⟩
 case round=>
  clear HO zn;obtain⟨i,hi,rfl,ho,z0⟩:=hrel;have HO:=hid ho;clear ho;by_cases z4:i<16
  ·have zz:decide ((i:Int)<16)=true:=by simp;omega
   have HN:Hid (mulI (digN x) (digN y) (i+1)=mulK (digN x) (digN y) i (mulI (digN x) (digN y) i) 16):=hid rfl;have HM:=hid (HI.out i (by omega));have zl:=hid (qdA (digN x) (digN y) i);generalize mulI (digN x) (digN y) i=m at *;go_wp2_with fail
   go_loopw [7] (fun kv wr=>∃ k:Nat,k≤16∧kv=.int .i64 (k:Int)∧wr.heap[O]?=some (.cells (dcl (mulK (digN x) (digN y) i m k)) 3)∧Below O w wr) (fun kv _=>16-(intOf kv).toNat)
   case atStart=>exact⟨0,by omega,rfl,HO.out,z0⟩
   case round=>
    clear HO z0;obtain⟨k,hk,rfl,ho,z0⟩:=hrel;have HO:=hid ho;clear ho;by_cases zb:k<16
    ·have zA:decide ((k:Int)<16)=true:=by simp;omega
     have zm:=hid (mulK_le (digN x) (digN y) i m _ zl.out z4 (HA.out i z4) HB.out HM.out k (by omega));have zc:=hid (show (mulK (digN x) (digN y) i m k).length=16 from by rw[qdc,zl.out]);have z9:Hid (mulK (digN x) (digN y) i m (k+1)=if i+k<16 then (mulK (digN x) (digN y) i m k).set (i+k) ((mulK (digN x) (digN y) i m k).getD (i+k) 0+(digN x).getD i 0*(digN y).getD k 0) else (mulK (digN x) (digN y) i m k).set (i+k-16) ((mulK (digN x) (digN y) i m k).getD (i+k-16) 0+38*(digN x).getD i 0*(digN y).getD k 0)):=hid rfl;have a1:=HA.out i z4;have b1:=HB.out k zb;have p1:(digN x).getD i 0*(digN y).getD k 0≤4294836225:=Nat.mul_le_mul (show _≤65535 by omega) (show _≤65535 by omega);have c1:=(z0.cell (p:=⟨Da,i,none⟩) zC).trans (zu.out i z4);have c2:=(z0.cell (p:=⟨Db,k,none⟩) zD).trans (zv.out k zb);generalize mulK (digN x) (digN y) i m k=r at *;by_cases z2:i+k<16
     ·have zB:decide ((i:Int)+(k:Int)<16)=true:=by simp;omega
      rw[if_pos z2]at z9;have z1:=zm.out (i+k) z2;have c3:=qbc HO.out (i+k) (by rw[zc.out];exact z2);have q0:(0:Int)≤(i:Int)+(k:Int):=by omega
      have hij:((i:Int)+(k:Int)).toNat=i+k:=by omega
      generalize (digN x).getD i 0=p at *;generalize (digN y).getD k 0=q at *;generalize r.getD (i+k) 0=z at *;have zj:(p:Int)*(q:Int)=((p*q:Nat):Int):=by simp
      have hz:(z:Int)+(p:Int)*(q:Int)=((z+p*q:Nat):Int):=by simp
      have p0:(0:Int)≤(p:Int)*(q:Int):=by omega
      have p2:(p:Int)*(q:Int)≤4294836225:=by omega
      have zF:z≤45000000000000:=by omega
      have ze:=hid hz;clear hz zj p1 z1;go_wp2_with fail;have ka:=jcr c1;have kb:=jcr c2;have kc:=jcr c3;refine qak 21 (by kernel_rfl) (by kernel_rfl) ?_;simp only[zks]
      repeat (first|go_big_quiet_step (fail)|quiet_step (fail))
      refine jqn ?_;intro W1 z5;have z3:=hkq HO z5;have z6:Below O w W1:=z0.trans (z5.mono (jll (qac HO.out)));have cz:=qbc z3 (i+k) (by rw[zc.out];exact z2);have fz:=jfr W1 O (i+k) _ _ z3;have s1:(W1.setCell ⟨O,i+k,none⟩ (.int .i64 ((z:Int)+(p:Int)*(q:Int)))).heap[O]?=some (.cells (dcl (mulK (digN x) (digN y) i m (k+1))) 3):=by rw[ze.out,z9.out];exact qbQ z3 (i+k) _
      have zd:=hid s1;have z7:Below O w (W1.setCell ⟨O,i+k,none⟩ (.int .i64 ((z:Int)+(p:Int)*(q:Int)))):=z6.setCell (jlr _) _;clear s1 ka kb kc c1 c2 c3 z5 z3 z0;go_wp2_with fail;go_roundw
      case rel=>exact⟨k+1,by omega,by go_num,zd.out,z7⟩
      case measure=>simp[intOf];omega
     ·have zB:decide ((i:Int)+(k:Int)<16)=false:=by simp;omega
      rw[if_neg z2]at z9;obtain⟨t,ht⟩:∃ t,i+k-16=t:=⟨_,rfl⟩;have z8:t<16:=by omega
      have htz:(i:Int)+(k:Int)-16=(t:Int):=by omega
      rw[ht]at z9;have z1:=zm.out t z8;have c3:=qbc HO.out t (by rw[zc.out];exact z8);generalize (digN x).getD i 0=p at *;generalize (digN y).getD k 0=q at *;generalize r.getD t 0=z at *;have zG:38*p*q=38*(p*q):=Nat.mul_assoc _ _ _;have zj:38*(p:Int)*(q:Int)=((38*p*q:Nat):Int):=by simp
      have hz:(z:Int)+38*(p:Int)*(q:Int)=((z+38*p*q:Nat):Int):=by simp
      have p0:(0:Int)≤38*(p:Int)*(q:Int):=by omega
      have p2:38*(p:Int)*(q:Int)≤163203776550:=by omega
      have zF:z≤45000000000000:=by omega
      have ze:=hid hz;clear hz zj p1 z1 zG;go_wp2_with fail;have ka:=jcr c1;have kb:=jcr c2;have kc:=jcr c3;refine qak 24 (by kernel_rfl) (by kernel_rfl) ?_;simp only[zks]
      repeat (first|go_big_quiet_step (fail)|quiet_step (fail))
      refine jqn ?_;intro W1 z5;have z3:=hkq HO z5;have z6:Below O w W1:=z0.trans (z5.mono (jll (qac HO.out)));have cz:=qbc z3 t (by rw[zc.out];exact z8);have fz:=jfr W1 O t _ _ z3;have s1:(W1.setCell ⟨O,t,none⟩ (.int .i64 ((z:Int)+38*(p:Int)*(q:Int)))).heap[O]?=some (.cells (dcl (mulK (digN x) (digN y) i m (k+1))) 3):=by rw[ze.out,z9.out];exact qbQ z3 t _
      have zd:=hid s1;have z7:Below O w (W1.setCell ⟨O,t,none⟩ (.int .i64 ((z:Int)+38*(p:Int)*(q:Int)))):=z6.setCell (jlr _) _;clear s1 ka kb kc c1 c2 c3 z5 z3 z0;go_wp2_with fail;go_roundw
      case rel=>exact⟨k+1,by omega,by go_num,zd.out,z7⟩
      case measure=>simp[intOf];omega
    ·have zA:decide ((k:Int)<16)=false:=by simp;omega
     obtain rfl:k=16:=by omega
     rw[← HN.out]at HO;go_wp2_with fail;go_roundw
     case rel=>exact⟨i+1,by omega,by go_num,HO.out,z0⟩
     case measure=>simp[intOf];omega
  ·have zz:decide ((i:Int)<16)=false:=by simp;omega
   obtain rfl:i=16:=by omega
   have zs:∀ j,j<16→(mulI (digN x) (digN y) 16).getD j 0≤1152921504606846976:=fun j hj=>by have:=HI.out 16 (by omega) j hj;omega
   have zp:=qdA (digN x) (digN y) 16;obtain⟨q1,q2,q3⟩:=qgI _ zp zs;generalize mulI (digN x) (digN y) 16=V at *;clear zs;go_wp2_with fail;refine (qgn O V wr HO.out zp q1).mono ?_;rintro e W2⟨rfl,zf,za⟩;have zx:Below O w W2:=z0.trans (za.below (jlr _) (jll (qac HO.out)));have zr:DigAt W2 (.slice (some ⟨O,0,none⟩) 16 16) (qcr V):=DigAt.of_block zf q2;have zk:=hid (qdH _ _ W2 zr q2 q3);have zE:O≤W2.heap.size:=jll (qac zf);clear zr zf za z0;go_wp2_with fail;refine zk.out.mono ?_;rintro e W3⟨⟨d',rfl,zi⟩,zq⟩;rw[HR.out]at zi;have zw:=hid zi;have zy:Below O w W3:=zx.trans (zq.mono zE);clear zi zq zk;go_wp2_with fail;go_ret;exact⟨⟨_,rfl,zw.out⟩,by rw[zt.out];exact zy⟩
def ofL(l:List UInt8)(k:Nat):List Nat:=(List.range k).map fun j=>(l.getD (2*j) 0).toNat+256*(l.getD (2*j+1) 0).toNat
theorem qdZ(l:List UInt8)(k:Nat):(ofL l k).length=k:=by simp[ofL]
theorem ofL_snoc(l:List UInt8)(k:Nat):dvl (ofL l k)++[.int .i64 ((((l.getD (2*k) 0).toNat+256*(l.getD (2*k+1) 0).toNat:Nat)):Int)]=dvl (ofL l (k+1)):=by
 rw[dvl_snoc,ofL,ofL,List.range_succ,List.map_append];rfl
theorem ofL_full(l:List UInt8):ofL l 16=mkD fun j=>(l.getD (2*j) 0).toNat+256*(l.getD (2*j+1) 0).toNat:=rfl
theorem ofL_lt(l:List UInt8)(k j:Nat)(h:j<k):(ofL l k).getD j 0<65536:=by
 rw[ofL,qdd _ _ _ h];have:=UInt8.toNat_lt (l.getD (2*j) 0);have:=UInt8.toNat_lt (l.getD (2*j+1) 0);omega
theorem qc1(s:ByteArray)(i:Nat)(h:i<s.size):s.data.toList.getD i 0=s[i]:=by rw[List.getD_eq_getElem?_getD,Array.getElem?_toList];simp[h];rfl
theorem ofRef_any(s:ByteArray)(w:World)(h:s.size=32):Calls Tryz.prog 137 #[.string s] w fun e w'=>(∃ d',e=.returned (.tuple #[d',.int .i64 0])∧DigAt w' d' (digN (leV s.data.toList 32%pF)))∧Below w.heap.size w w':=by
 obtain⟨i0,hi,zw,zx,zy⟩:=info_parts qf9;have hd:((s.size:Int) != 32)=false:=by simp[h]
 have HH:=hid h;have HR:=hid (of_ref s.data.toList);clear h;go_enter func137,ntmps137;go_wp2_with fail;clear hd;generalize zi:w.heap.size=B at *;have zn:=hid zi;have zg:B≤w.heap.size:=by omega
 clear zi
 go_loopw [4,5] (fun lv iv wr=>∃ (k m:Nat) (ao:Option Addr) (z4:Nat),k≤16∧m=2*k∧iv=.int .i64 (m:Int)∧lv=.slice ao k z4∧Own wr B (.slice ao k z4) (dvl (ofL s.data.toList k))∧Below B w wr∧B≤wr.heap.size) (fun _ iv _=>32-(intOf iv).toNat)
 case atStart=>exact⟨0,0,none,0,by omega,rfl,rfl,rfl,Own.nil _ _,Below.refl _ _,zg⟩
 case round=>
  obtain⟨k,m,ao,z4,hk,hm,rfl,rfl,z1,hb,z6⟩:=hrel;have HM:=hid hm;have HO:=hid z1;have HL:=hid (show (dvl (ofL s.data.toList k)).length=k by rw[qdV,qdZ]);clear z1;by_cases hlt:k<16
  ·have zt:decide ((m:Int)<32)=true:=by simp;omega
   have z9:m<s.size:=by rw[HH.out];omega
   have za:m+1<s.size:=by rw[HH.out];omega
   have HN:=hid (ofL_snoc s.data.toList k);rw[← hm,qc1 s _ z9,qc1 s _ za]at HN;have hx:=UInt8.toNat_lt s[m];have hy:=UInt8.toNat_lt s[m+1];have hm32:m<32:=by omega
   have zu:((m:Int)+1).toNat=m+1:=by omega
   have zb:(0:Int)≤(m:Int)+1∧(m:Int)+1<(s.size:Int):=by omega
   have zc:(m:Int)+1<(s.size:Int):=by omega
   have zd:(0:Int)≤(m:Int)+1:=by omega
   clear hm;go_wp2_with fail;refine qbx 12 (.tmp 4) rfl rfl rfl (by kernel_rfl) (by kernel_rfl) (fun _ _ _ _ h=>h) ?_;simp only[zks]
   repeat (first|go_big_quiet_step (fail)|quiet_step (fail))
   refine jqn ?_;intro W1 z5;have z8:=hid (HO.out.below z5);have zh:Below B w W1:=hb.trans (z5.mono z6);have ze:B≤W1.heap.size:=jlt z6 z5.size;have z2:(((s[m].toNat+256*s[m+1].toNat:Nat)):Int)=(s[m].toNat:Int)+256*(s[m+1].toNat:Int):=by omega
   rw[z2]at HN;clear z2 HO hb z5 z6;generalize s[m].toNat=p at *;generalize s[m+1].toNat=q at *;clear zb zc zd zu;go_wp2_with (at_builtin;refine qaB rfl (.tmp 14) (.tmp 26) 68 rfl B 3 i0 (.int .i64 0) 8 underlying68 hi zw zx zy rfl ao k z4 _ rfl (z8.out.alloc _) HL.out ⟨W1.heap.size,0,none⟩ 1 1 [.int .i64 ((p:Int)+256*(q:Int))] rfl rfl (cell_one_new _ _ _) ?b2 ?b3 ?b4 ?b5 ?_)
   case b2=>intro u hu;simp at hu;subst hu;rfl
   case b3=>omega
   case b4=>omega
   case b5=>simp;omega
   intro zp zq W5 z3 z0;have zs:Below B w W5:=qaV (zh.alloc ze _) (by simp;omega) (z8.out.alloc _) z0;have zf:B≤W5.heap.size:=by have:=z0.size;simp at this;omega
   rw[HN.out]at z3;clear z0 z8 zh;go_wp2_with fail;go_roundw
   case rel=>exact⟨k+1,m+2,zp,zq,by omega,by rw[HM.out];omega,by go_num,rfl,z3,zs,zf⟩
   case measure=>simp[intOf];omega
  ·have zt:decide ((m:Int)<32)=false:=by simp;omega
   obtain rfl:k=16:=by omega
   obtain⟨g,gc,zm,z1,hgl⟩:=HO.out.some (by rw[HL.out];omega);have zv:Value.slice ao 16 z4=.slice (some ⟨g,0,none⟩) 16 gc:=by rw[zm,HL.out]
   injection zv with h1 h2 h3;subst h1 h3;clear zm;have zl:DigAt wr (.slice (some ⟨g,0,none⟩) 16 z4) (ofL s.data.toList 16):=DigAt.of_own z1 (qdZ _ _);have z7:=hid (qdH _ _ wr zl (qdZ _ _) (fun j hj=>ofL_lt _ _ _ hj));rw[ofL_full,HR.out]at z7;clear zl z1 HO;go_wp2_with fail;refine z7.out.mono ?_;rintro e W3⟨⟨d',rfl,zk⟩,zj⟩;have zo:=hid zk;have zr:Below B w W3:=hb.trans (zj.mono z6);clear zk zj z7;go_wp2_with fail;go_ret2;exact⟨⟨_,rfl,zo.out⟩,by rw[zn.out];exact zr⟩
theorem qgf{W:World}{base n z1:Nat}{ao:Option Addr}{l:List UInt8}(h:Own W base (.slice ao n z1) (Lib.byteCells l))(hl:l.length=n)(hp:0<n):(convert 41 9 (.slice ao n z1)).run Tryz.prog W=.ok (.string ⟨l.toArray⟩) W:=by
 obtain⟨g,gc,hv,z0,_⟩:=h.some (by rw[Lib.byteCells_length];omega);rw[hv,Lib.byteCells_length];exact qbf W g gc l fun j x hx=>z0.cells j _ (by simp[Lib.byteCells,hx])
theorem qfP(da:Value)(x:Nat)(w:World)(ha:DigAt w da (digN x)):Rt 138 #[da] w (.string ⟨(leF x 32).toArray⟩):=by
 unfold Rt;obtain⟨i0,hi,zt,zu,zv⟩:=info_parts qca;obtain⟨Da,ca,rfl,z8⟩:=ha;have zl:=hid z8;have HA:=hid (qa2 x);have zm:=hid (fun k=>leF_two x k);have zs:=jbc (z8 0 (by decide));clear z8;go_enter func138,ntmps138;go_wp2_with fail;generalize zh:w.heap.size=B at *;have zk:=hid zh;have zd:B≤w.heap.size:=by omega
 clear zh
 go_loopw [3,4] (fun lv iv wr=>∃ (k n:Nat) (ao:Option Addr) (z5:Nat),k≤16∧n=2*k∧iv=.int .i64 (k:Int)∧lv=.slice ao n z5∧Own wr B (.slice ao n z5) (Lib.byteCells (leF x n))∧Below B w wr∧B≤wr.heap.size) (fun _ iv _=>16-(intOf iv).toNat)
 case atStart=>exact⟨0,0,none,0,by omega,rfl,rfl,rfl,Own.nil _ _,Below.refl _ _,zd⟩
 case round=>
  obtain⟨k,n,ao,z5,hk,hn,rfl,rfl,z3,hb,za⟩:=hrel;have HO:=hid z3;have HL:=hid (show (Lib.byteCells (leF x n)).length=n by rw[Lib.byteCells_length,qbb]);clear z3;by_cases z9:k<16
  ·have zr:decide ((k:Int)<16)=true:=by simp;omega
   have c1:=(hb.cell (p:=⟨Da,k,none⟩) zs).trans (zl.out k z9);have hd1:=HA.out k z9;have HN:=hid (zm.out k);rw[← qbC x k z9,← hn]at HN;generalize (digN x).getD k 0=d at *;have zp:(UInt8.ofNat d).toNat=d%256:=by rw[UInt8.toNat_ofNat']
   have z2:(UInt8.ofNat (d/256)).toNat=d/256%256:=by rw[UInt8.toNat_ofNat']
   have zf:=hid (show Lib.byteCells (leF x n)++[.int .u8 (((UInt8.ofNat d).toNat:Nat):Int),.int .u8 (((UInt8.ofNat (d/256)).toNat:Nat):Int)]=Lib.byteCells (leF x (2*(k+1))) by rw[← HN.out,Lib.byteCells_append];rfl);generalize UInt8.ofNat d=b0 at *;generalize UInt8.ofNat (d/256)=b1 at *;have zi:(b0.toNat:Int)=(d:Int)%256:=by omega
   have zj:(b1.toNat:Int)=(d:Int)/256:=by omega
   have hn32:n≤30:=by omega
   have ze:=hid (show 2*(k+1)=n+2 by omega);rw[zi,zj]at zf;clear HN zp z2 hn zi zj;go_wp2_with fail;have ka:=jcr c1;refine qbx 12 (.tmp 3) rfl rfl rfl (by kernel_rfl) (by kernel_rfl) (fun _ _ _ _ h=>h) ?_;simp only[zks]
   repeat (first|go_big_quiet_step (fail)|quiet_step (fail))
   refine jqn ?_;intro W1 z2;have z6:=hid (HO.out.below z2);have zg:Below B w W1:=hb.trans (z2.mono za);have zb:B≤W1.heap.size:=jlt za z2.size;clear HO hb z2 za ka c1;go_wp2_with (at_builtin;refine qaB rfl (.tmp 9) (.tmp 21) 41 rfl B 5 i0 (.int .u8 0) 1 underlying41 hi zt zu zv rfl ao n z5 _ rfl (z6.out.alloc _) HL.out ⟨W1.heap.size,0,none⟩ 2 2 [.int .u8 ((d:Int)%256),.int .u8 ((d:Int)/256)] rfl rfl (cell_two_new _ _ _ _) ?b2 ?b3 ?b4 ?b5 ?_)
   case b2=>intro u hu;simp at hu;rcases hu with rfl|rfl<;>rfl
   case b3=>omega
   case b4=>omega
   case b5=>simp;omega
   intro zn zo W5 z1 z0;have zq:Below B w W5:=qaV (zg.alloc zb _) (by simp;omega) (z6.out.alloc _) z0;have zc:B≤W5.heap.size:=by have:=z0.size;simp at this;omega
   rw[zf.out,ze.out]at z1;clear z0 z6 zg;go_wp2_with fail;go_roundw
   case rel=>exact⟨k+1,n+2,zn,zo,by omega,ze.out.symm,by go_num,rfl,z1,zq,zc⟩
   case measure=>simp[intOf];omega
  ·have zr:decide ((k:Int)<16)=false:=by simp;omega
   obtain rfl:k=16:=by omega
   obtain rfl:n=32:=by omega
   have hc:=qgf HO.out (qbb x 32) (by decide);generalize z4:leF x 32=row at *;have z7:=hid z4;clear z4 HO HL hn;go_wp2_with fail;go_ret;exact⟨by rw[z7.out];rfl,by rw[zk.out];exact hb⟩
theorem and_16i(y:Int):bits .and .i64 y 65535=y%65536:=by
 have z0:(BitVec.ofInt 64 65535).toNat=2^16-1:=by decide
 have key:(BitVec.ofInt 64 y &&& BitVec.ofInt 64 65535).toNat=(y%((2^64:Nat):Int)).toNat%2^16:=by
  rw[BitVec.toNat_and,BitVec.toNat_ofInt,z0,Nat.and_two_pow_sub_one_eq_mod]
 show IntKind.i64.wrap ((BitVec.ofInt 64 y &&& BitVec.ofInt 64 65535).toNat:Nat)=_;rw[key,IntKind.wrap_i64];omega
theorem small_part(n:Nat)(h:n<9223372036854775808):qbN (fun j=>n/65536^j%65536) 4=digN n:=qbU (qcy ..) (qaG _) fun i hi=>by
 rw[partD_get _ _ _ hi,qbC _ _ hi];split
 ·rfl
 ·have h4:(65536:Nat)^4≤65536^i:=Nat.pow_le_pow_right (by decide) (by omega);rw[Nat.div_eq_of_lt (by
   have:(65536:Nat)^4=18446744073709551616:=by decide
   omega)]
theorem qcj(n:Nat)(w:World)(h:n<9223372036854775808):Calls Tryz.prog 139 #[.int .i64 (n:Int)] w fun e w'=>(∃ d',e=.returned d'∧DigAt w' d' (digN n))∧Below w.heap.size w w':=by
 have hd:decide ((n:Int)<0)=false:=by simp
 have HZ:=hid (qcU w);obtain⟨f,hf⟩:∃ f:Nat→Nat,f=fun j=>n/65536^j%65536:=⟨_,rfl⟩;have HP:=hid (small_part n h);rw[← hf]at HP;have HF:=hid (fun i (hi:i<4)=>(show bits .and .i64 ((n:Int)/2^(16*i)) 65535=((f i:Nat):Int) by
  have e:(n:Int)/2^(16*i)=((n/65536^i:Nat):Int):=by
   rw[show (65536:Nat)^i=2^(16*i) by rw[Nat.pow_mul]];simp
  rw[and_16i,e,hf];simp))
 have HO:=hid (show (w.alloc (.cells qaI 3)).heap[w.heap.size]?=some (.cells (dcl (qbN f 0)) 3) from qad w _);have z0:=qaf w (.cells qaI 3);clear hf;go_enter func139,ntmps139;go_wp2_with fail;refine HZ.out.mono ?_;rintro e W1⟨rfl,rfl⟩;go_wp2_with fail;clear HZ hd;generalize (w.alloc (.cells qaI 3))=W0 at *;generalize z1:w.heap.size=O at *;have z2:=hid z1;clear z1
 go_loopw [10] (fun iv wr=>∃ i:Nat,i≤4∧iv=.int .i64 (i:Int)∧wr.heap[O]?=some (.cells (dcl (qbN f i)) 3)∧Below O w wr) (fun iv _=>4-(intOf iv).toNat)
 case atStart=>exact⟨0,by omega,rfl,HO.out,z0⟩
 case round=>
  clear HO z0;obtain⟨i,hi,rfl,ho,hb⟩:=hrel;have HO:=hid ho;clear ho;by_cases z6:i<4
  ·have hd:decide ((i:Int)<4)=true:=by simp;omega
   have HS:=hid (qep f i (by omega));have hpl:=qcy f i;have hv:=HF.out i z6;have cx:=qbc HO.out i (by omega);have fx:=jfr wr O i _ _ HO.out;have r1:=qbQ HO.out i (f i);rw[HS.out]at r1;have z3:=hid r1;have z4:Below O w (wr.setCell ⟨O,i,none⟩ (.int .i64 ((f i:Nat):Int))):=hb.setCell (by simp) _;have h16:(16*(i:Int)).toNat=16*i:=by omega
   clear r1 hb HS;generalize (qbN f i).getD i 0=old at *;generalize z5:f i=v at *;clear z5;go_wp2_with fail;go_roundw
   case rel=>exact⟨i+1,by omega,by go_num,z3.out,z4⟩
   case measure=>simp[intOf];omega
  ·have hd:decide ((i:Int)<4)=false:=by simp;omega
   obtain rfl:i=4:=by omega
   rw[HP.out]at HO;go_wp2_with fail;go_ret;exact⟨⟨_,rfl,DigAt.of_block HO.out (qaG _)⟩,by rw[z2.out];exact hb⟩
theorem smallRefNeg_any(n:Int)(w:World)(h0:n<0)(h:-9223372036854775808≤n):Calls Tryz.prog 139 #[.int .i64 n] w fun e w'=>(∃ d',e=.returned d'∧DigAt w' d' (digN (qcT n)))∧Below w.heap.size w w':=by
 have hd:decide (n<0)=true:=by simpa using h0
 have HZ:=hid (qcU w);obtain⟨f,hf⟩:∃ f:Nat→Nat,f=fun j=>(pF+negE n)/65536^j%65536:=⟨_,rfl⟩;have HR:=hid (small_neg_ref n h0 h);rw[← hf]at HR;have zk:Hid (qdw (digN (qcT n))=digN (qcT n)):=hid (by
  rw[qgl _ (qaG _) (qa2 _),qbY _ (Nat.lt_trans (smallF_lt n) (by decide)),Nat.mod_eq_of_lt (smallF_lt n)])
 have zn:=hid (fun i (hi:i<16)=>(show ((digN pF).getD i 0+negE n/65536^i%65536+cyF pF (negE n) i)%65536=f i∧((digN pF).getD i 0+negE n/65536^i%65536+cyF pF (negE n) i)/65536=cyF pF (negE n) (i+1)∧(digN pF).getD i 0<65536∧negE n/65536^i%65536<65536∧((negE n/65536^i%65536:Nat):Int)=if i>3 then 65535 else n/65536^i%65536 by
  obtain⟨s1,s2⟩:=cyF_step pF (negE n) i;have s3:=qa2 pF i hi;rw[qbC _ _ hi]at s3 ⊢;exact⟨by rw[hf];exact s1,s2,s3,Nat.mod_lt _ (by decide),negE_digit n h0 h i hi⟩))
 have HM:=hid (fun i:Nat=>(show n/65536^i/65536=n/65536^(i+1)∧-9223372036854775808≤n/65536^i∧n/65536^i<0 by
  have hp:(0:Int)<65536^i:=Int.pow_pos (by decide);refine⟨by rw[Int.ediv_ediv_of_nonneg (Int.le_of_lt hp),Int.pow_succ],?_,Int.ediv_neg_of_neg_of_pos h0 hp⟩;have h1:(1:Int)≤65536^i:=hp;have h2:-9223372036854775808*(65536:Int)^i≤n:=by
   have:-9223372036854775808*(65536:Int)^i≤-9223372036854775808*1:=Int.mul_le_mul_of_nonpos_left (by decide) h1;omega
  exact (Int.le_ediv_iff_mul_le hp).2 h2))
 have HC:=hid (fun i:Nat=>(show cyF pF (negE n) i≤1 by
  have hp:0<65536^i:=Nat.pow_pos (by decide);have h1:=Nat.mod_lt pF hp;have h2:=Nat.mod_lt (negE n) hp;have:cyF pF (negE n) i<2:=Nat.div_lt_of_lt_mul (by omega);omega))
 have zf:=cyF_zero pF (negE n);have zl:=hid zf;have HO:=hid (show (w.alloc (.cells qaI 3)).heap[w.heap.size]?=some (.cells (dcl (qbN f 0)) 3) from qad w _);have z2:=qaf w (.cells qaI 3);clear hf zf;go_enter func139,ntmps139;go_wp2_with fail;refine HZ.out.mono ?_;rintro e W1⟨rfl,rfl⟩;go_wp2_with fail;clear HZ hd;have z1:(w.alloc (.cells qaI 3)).heap.size=w.heap.size+1:=by simp
 generalize (w.alloc (.cells qaI 3))=Wz at *;refine (qd8 Wz).mono ?_;rintro e W0⟨rfl,hM,z5⟩;have z0:=hid hM;have HO:=hkp HO z5;have z2:=z2.trans (z5.mono (by omega));clear hM z5;rw[z1]at z0 ⊢;go_wp2_with fail;clear z1;generalize zb:w.heap.size=O at *;have zj:=hid zb;clear zb;generalize cyF pF (negE n)=cy at *;generalize negE n=E at *
 go_loopw [4,5,7] (fun mv bv iv wr=>∃ i:Nat,i≤16∧iv=.int .i64 (i:Int)∧mv=.int .i64 (n/65536^i)∧bv=.int .i64 ((cy i:Nat):Int)∧wr.heap[O]?=some (.cells (dcl (qbN f i)) 3)∧wr.heap[O+1]?=some (.cells (dcl (digN pF)) 3)∧Below O w wr) (fun _ _ iv _=>16-(intOf iv).toNat)
 case atStart=>exact⟨0,by omega,rfl,by simp,by rw[zl.out];rfl,HO.out,z0.out,z2⟩
 case round=>
  clear HO z0 z2;obtain⟨i,hi,rfl,rfl,rfl,ho,zi,hb⟩:=hrel;have HO:=hid ho;have z0:=hid zi;clear ho zi;by_cases z6:i<16
  ·have hd:decide ((i:Int)<16)=true:=by simp;omega
   obtain⟨s1,s2,s3,s4,s5⟩:=zn.out i z6;obtain⟨m1,m2,m3⟩:=HM.out i;have c1:=HC.out i;have HS:=hid (qep f i z6);have hpl:=qcy f i;have cx:=qbc HO.out i (by omega);have cp:=qbc z0.out i (by rw[qaG];exact z6);have fx:=jfr wr O i _ _ HO.out;have r1:=qbQ HO.out i (f i);rw[HS.out]at r1;have za:=hid r1;have z8:=hid (show (wr.setCell ⟨O,i,none⟩ (.int .i64 ((f i:Nat):Int))).heap[O+1]?=some (.cells (dcl (digN pF)) 3) from by rw[jso _ _ _ _ (by simp)];exact z0.out);have zd:Below O w (wr.setCell ⟨O,i,none⟩ (.int .i64 ((f i:Nat):Int))):=hb.setCell (by simp) _;clear r1 hb HS z0;generalize (qbN f i).getD i 0=old at *;generalize zp:f i=v at *;generalize (digN pF).getD i 0=p at *;generalize E/65536^i%65536=e at *;generalize zg:cy (i+1)=c' at *;have z7:=hid zg;generalize cy i=c at *;have HMM:=hid m1;generalize zc:n/65536^(i+1)=M' at *;have z9:=hid zc;clear zc;generalize n/65536^i=M at *;have hx:((p:Int)+(e:Int)+(c:Int))=((p+e+c:Nat):Int):=by omega
   have a1:bits .and .i64 ((p:Int)+(e:Int)+(c:Int)) 65535=(v:Int):=by rw[and_16i];omega
   have a2:((p:Int)+(e:Int)+(c:Int))/65536=(c':Int):=by omega
   have HV:=hid a2;have aM:=and_16i M;clear zp zg s1 s2 hx;by_cases h3:i>3
   ·rw[if_pos h3]at s5;have z3:decide ((3:Int)<(i:Int))=true:=by simp;omega
    rw[s5]at a1 HV;clear a2 s5 h3;go_wp2_with fail;go_roundw
    case rel=>exact⟨i+1,by omega,by go_num,by rw[z9.out],by rw[z7.out,HV.out],za.out,z8.out,zd⟩
    case measure=>simp[intOf];omega
   ·rw[if_neg h3]at s5;have z3:decide ((3:Int)<(i:Int))=false:=by simp;omega
    rw[s5]at a1 HV;clear a2 s5 h3;go_wp2_with fail;go_roundw
    case rel=>exact⟨i+1,by omega,by go_num,by rw[z9.out],by rw[z7.out,HV.out],za.out,z8.out,zd⟩
    case measure=>simp[intOf];omega
  ·have hd:decide ((i:Int)<16)=false:=by simp;omega
   obtain rfl:i=16:=by omega
   rw[qeG f,HR.out]at HO;have zh:DigAt wr (.slice (some ⟨O,0,none⟩) 16 16) (digN (qcT n)):=DigAt.of_block HO.out (qaG _);have z4:=hid (qdH _ _ wr zh (qaG _) (qa2 _));rw[zk.out]at z4;have zq:O≤wr.heap.size:=jll (qac HO.out);clear zh;go_wp2_with fail;refine z4.out.mono ?_;rintro e W3⟨⟨d',rfl,z3⟩,ze⟩;have zm:=hid z3;have zo:Below O w W3:=hb.trans (ze.mono zq);clear z3 ze z4;go_wp2_with fail;go_ret;exact⟨⟨_,rfl,zm.out⟩,by rw[zj.out];exact zo⟩
theorem and_1i(y:Int):bits .and .i64 y 1=y%2:=by
 have z0:(BitVec.ofInt 64 1).toNat=2^1-1:=by decide
 have key:(BitVec.ofInt 64 y &&& BitVec.ofInt 64 1).toNat=(y%((2^64:Nat):Int)).toNat%2^1:=by
  rw[BitVec.toNat_and,BitVec.toNat_ofInt,z0,Nat.and_two_pow_sub_one_eq_mod]
 show IntKind.i64.wrap ((BitVec.ofInt 64 y &&& BitVec.ofInt 64 1).toNat:Nat)=_;rw[key,IntKind.wrap_i64];omega
theorem pw_bit(n m i:Nat)(hi:i=255-m)(hm:m<256):bits .and .i64 ((((digN n).getD (i/16) 0:Nat):Int)/2^(i%16)) 1=if n.testBit (255-m) then 1 else 0:=by
 have h:=digN_bit n i (by omega);have e:(((digN n).getD (i/16) 0:Nat):Int)/2^(i%16)%2=(((digN n).getD (i/16) 0/2^(i%16)%2:Nat):Int):=by simp
 rw[and_1i,e,h,← hi,Nat.testBit_eq_decide_div_mod_eq];rcases (show n/2^i%2=0∨n/2^i%2=1 by omega)with h1|h1<;>simp[h1]
theorem pw_mul(x n m:Nat):pwF x n m*pwF x n m%pF=mulF (pwF x n m) (pwF x n m):=rfl
theorem qfX(da dn:Value)(x n:Nat)(w:World)(hx:x<pF)(hn:n<2^256)(ha:DigAt w da (digN x))(hb:DigAt w dn (digN n)):Calls Tryz.prog 192 #[da,dn] w fun e w'=>(∃ d',e=.returned d'∧DigAt w' d' (digN (powF x n)))∧Below w.heap.size w w':=by
 have HA:=hid ha;obtain⟨Dn,cn,rfl,z9⟩:=hb;have zl:=hid z9;have HX:=hid hx;have HS:=hid (qcj 1 w (by decide));have H0:=hid (pwF_zero x n hn);have HL:Hid (pwF x n 256=powF x n):=hid (pwF_last x n);have zj:=jbc (z9 0 (by decide));clear z9 ha hx hn;go_enter func192,ntmps192;go_wp2_with fail;refine HS.out.mono ?_;rintro e W0⟨⟨d0,rfl,za⟩,zd⟩;rw[← H0.out]at za;go_wp2_with fail;clear HS H0
 go_loopw [5,6] (fun ov iv wr=>∃ m:Nat,m≤256∧iv=.int .i64 (255-(m:Int))∧DigAt wr ov (digN (pwF x n m))∧Below w.heap.size w wr) (fun _ iv _=>(intOf iv+1).toNat)
 case atStart=>exact⟨0,by omega,rfl,za,zd⟩
 case round=>
  clear za zd;obtain⟨m,hm,rfl,zi,hb⟩:=hrel;have z3:=hid zi;clear zi;by_cases zk:m<256
  ·obtain⟨i,hi⟩:∃ i,i=255-m:=⟨_,rfl⟩;have zo:(255:Int)-(m:Int)=(i:Int):=by omega
   have hd:decide ((0:Int)≤(i:Int))=true:=by simp
   have hi256:i<256:=by omega
   have HMI:=hid hi;have HB:=hid (pw_bit n m i hi zk);have z1:=hid (pwF_step x n m zk);have zc:=hid (fun (W:World) (d:Value) (h:DigAt W d (digN (pwF x n m)))=>qaZ d d _ _ W (pwF_lt _ _ _) (pwF_lt _ _ _) h h);rw[pw_mul]at z1;have zp:mulF (pwF x n m) (pwF x n m)<pF:=qaT _ _;have zf:=(hb.cell (p:=⟨Dn,i/16,none⟩) zj).trans (zl.out (i/16) (by omega));have hdl:=qa2 n (i/16) (by omega);rw[zo];clear hi;generalize mulF (pwF x n m) (pwF x n m)=q at *;generalize pwF x n m=p at *;generalize zn:n.testBit (255-m)=bt at *;clear zn;go_wp2_with fail;refine (zc.out wr _ z3.out).mono ?_;rintro e W1⟨⟨d1,rfl,zg⟩,z6⟩;have z2:=hid zg;have z8:=(z6.cell (p:=⟨Dn,i/16,none⟩) (jl3 zj hb.size)).trans zf;have z4:Below w.heap.size w W1:=hb.trans (z6.mono hb.size);clear zg zf hb z6 z3 zc;generalize (digN n).getD (i/16) 0=dd at *;have e1:((i:Int)/16).toNat=i/16:=by omega
   have e2:((i:Int)%16).toNat=i%16:=by omega
   have z0:=HB.out;clear HB
   cases bt
   ·have z0:bits .and .i64 ((dd:Int)/2^(i%16)) 1=0:=z0;have z1:Hid (pwF x n (m+1)=q):=z1;rw[← z1.out]at z2;go_wp2_with fail;go_roundw
    case rel=>exact⟨m+1,by omega,by congr 1;omega,z2.out,z4⟩
    case measure=>simp[intOf]<;>omega
   ·have z0:bits .and .i64 ((dd:Int)/2^(i%16)) 1=1:=z0;have z1:Hid (pwF x n (m+1)=mulF q x):=z1;have zb:=hid (HA.out.step z4);have z5:=hid (qaZ _ _ q x W1 zp HX.out z2.out zb.out);rw[← z1.out]at z5;go_wp2_with fail;refine z5.out.mono ?_;rintro e W2⟨⟨d2,rfl,zh⟩,ze⟩;have zm:=hid zh;have z7:Below w.heap.size w W2:=z4.trans (ze.mono z4.size);clear zh ze z5 z2 zb z8;go_wp2_with fail;go_roundw
    case rel=>exact⟨m+1,by omega,by congr 1;omega,zm.out,z7⟩
    case measure=>simp[intOf]<;>omega
  ·obtain rfl:m=256:=by omega
   have hd:decide ((0:Int)≤255-((256:Nat):Int))=false:=by decide
   rw[HL.out]at z3;go_wp2_with fail;go_ret;exact⟨⟨_,rfl,z3.out⟩,hb⟩
theorem pF2_digits:(digN pF).set 0 65515=digN (pF-2):=by decide +kernel
theorem qfE(da:Value)(x:Nat)(w:World)(hx:x<pF)(ha:DigAt w da (digN x)):Calls Tryz.prog 145 #[da] w fun e w'=>(∃ d',e=.returned d'∧DigAt w' d' (digN (invF x)))∧Below w.heap.size w w':=by
 have HX:=hid hx;have HA:=hid ha;have hM:=qd8 w;clear hx ha;go_enter func145,ntmps145;go_wp2_with fail;refine hM.mono ?_;rintro e W1⟨rfl,hm,z2⟩;have z5:=hid (HA.out.step z2);have c0:=qbc hm 0 (by rw[qaG];decide);rw[show (digN pF).getD 0 0=65517 by decide +kernel]at c0;have f0:=jfr W1 w.heap.size 0 _ _ hm;have r1:(W1.setCell ⟨w.heap.size,0,none⟩ (.int .i64 65515)).heap[w.heap.size]?=some (.cells (dcl (digN (pF-2))) 3):=by rw[← pF2_digits];exact qbQ hm 0 65515
 have z0:Below w.heap.size w (W1.setCell ⟨w.heap.size,0,none⟩ (.int .i64 65515)):=z2.setCell (jlr _) _;have z1:=hid (HA.out.step z0);have HN:=hid (show DigAt (W1.setCell ⟨w.heap.size,0,none⟩ (.int .i64 65515)) (.slice (some ⟨w.heap.size,0,none⟩) 16 16) (digN (pF-2)) from DigAt.of_block r1 (qaG _));have HP:=hid (qfX da _ x (pF-2) _ HX.out (by decide) z1.out HN.out);rw[show powF x (pF-2)=invF x from rfl]at HP;clear hM hm r1 HN z1 z5;go_wp2_with fail;refine HP.out.mono ?_;rintro e W3⟨⟨d',rfl,z4⟩,z3⟩;have z6:=hid z4;have z7:Below w.heap.size w W3:=z0.trans (z3.mono z0.size);clear z4 z3 HP;go_wp2_with fail;go_ret;exact⟨⟨_,rfl,z6.out⟩,z7⟩
theorem digN_alike(x y:Nat)(hx:x<mF)(hy:y<mF)(h:∀ j,j<16→(digN x).getD j 0=(digN y).getD j 0):x=y:=by
 have:=qbY x hx;rw[← this,qfR _ _ 16 h,qbY y hy]
theorem qfl(da db:Value)(x y:Nat)(w:World)(hx:x<mF)(hy:y<mF)(ha:DigAt w da (digN x))(hb:DigAt w db (digN y)):Rt 146 #[da,db] w (.bool (decide (x=y))):=by
 unfold Rt;obtain⟨Da,ca,rfl,z3⟩:=ha;obtain⟨Db,cb,rfl,z4⟩:=hb;have z6:=hid z3;have z7:=hid z4;have HS:=hid (digN_alike x y hx hy);have za:=jbc (z3 0 (by decide));have zb:=jbc (z4 0 (by decide));clear z3 z4 hx hy;go_enter func146,ntmps146;go_wp2_with fail
 go_loopw [5] (fun iv wr=>∃ i:Nat,i≤16∧iv=.int .i64 (i:Int)∧(∀ j,j<i→(digN x).getD j 0=(digN y).getD j 0)∧Below w.heap.size w wr) (fun iv _=>16-(intOf iv).toNat)
 case atStart=>exact⟨0,by omega,rfl,fun j hj=>absurd hj (by omega),Below.refl _ _⟩
 case round=>
  obtain⟨i,hi,rfl,hs,hb⟩:=hrel;have HE:=hid hs;clear hs;by_cases z5:i<16
  ·have hd:decide ((i:Int)<16)=true:=by simp;omega
   have c1:=(hb.cell (p:=⟨Da,i,none⟩) za).trans (z6.out i z5);have c2:=(hb.cell (p:=⟨Db,i,none⟩) zb).trans (z7.out i z5);by_cases z0:(digN x).getD i 0=(digN y).getD i 0
   ·have z8:Hid (∀ j,j<i+1→(digN x).getD j 0=(digN y).getD j 0):=hid (fun j hj=>by
     by_cases z9:j=i
     ·rw[z9];exact z0
     ·exact HE.out j (by omega))
    generalize (digN x).getD i 0=p at *;generalize (digN y).getD i 0=q at *;have hq:((p:Int) != (q:Int))=false:=by simp[z0]
    clear z0;go_wp2_with fail
    go_quiet (fail)
    go_wp2_with fail;go_roundw
    case rel=>exact⟨i+1,by omega,by go_num,z8.out,below_drewN hb _⟩
    case measure=>simp[intOf];omega
   ·have z1:decide (x=y)=false:=by
     simp only[decide_eq_false_iff_not];intro e;exact z0 (by rw[e])
    have z2:=hid z1;generalize (digN x).getD i 0=p at *;generalize (digN y).getD i 0=q at *;have hq:((p:Int) != (q:Int))=true:=by simp;omega
    clear z0 z1;go_wp2_with fail
    go_quiet (fail)
    go_wp2_with fail;go_ret;exact⟨by rw[z2.out];rfl,below_drewN hb _⟩
  ·have hd:decide ((i:Int)<16)=false:=by simp;omega
   obtain rfl:i=16:=by omega
   have z1:decide (x=y)=true:=by simp only[decide_eq_true_eq];exact HS.out HE.out
   have z2:=hid z1;clear z1;go_wp2_with fail;go_ret;exact⟨by rw[z2.out];rfl,hb⟩
theorem or_i64(a b:Nat)(ha:a<65536)(hb:b<65536):bits .or .i64 (a:Int) (b:Int)=((a ||| b:Nat):Int):=by
 have key:(BitVec.ofInt 64 (a:Int) ||| BitVec.ofInt 64 (b:Int)).toNat=a ||| b:=by
  rw[BitVec.toNat_or,BitVec.toNat_ofInt,BitVec.toNat_ofInt];rw[show ((a:Int)%((2^64:Nat):Int)).toNat=a by omega,show ((b:Int)%((2^64:Nat):Int)).toNat=b by omega]
 show IntKind.i64.wrap ((BitVec.ofInt 64 (a:Int) ||| BitVec.ofInt 64 (b:Int)).toNat:Nat)=_;rw[key,IntKind.wrap_i64];have:=Nat.or_lt_two_pow (n:=16) ha hb;omega
theorem half_low(x j:Nat)(hj:j<15)(hx:x<mF):bits .or .i64 ((((digN x).getD j 0:Nat):Int)/2) ((((digN x).getD (j+1) 0:Nat):Int)%2*32768)=(((digN (x/2)).getD j 0:Nat):Int):=by
 have h1:=qa2 x j (by omega);have h2:=qa2 x (j+1) (by omega);have h:=half_ref x j (by omega) hx;rw[if_pos hj]at h;have e1:(((digN x).getD j 0:Nat):Int)/2=(((digN x).getD j 0/2:Nat):Int):=by omega
 have e2:(((digN x).getD (j+1) 0:Nat):Int)%2*32768=(((digN x).getD (j+1) 0%2*32768:Nat):Int):=by omega
 rw[e1,e2,or_i64 _ _ (by omega) (by omega),h]
theorem half_top(x:Nat)(hx:x<mF):(((digN x).getD 15 0:Nat):Int)/2=(((digN (x/2)).getD 15 0:Nat):Int):=by
 have h:=half_ref x 15 (by omega) hx;rw[if_neg (by omega),Nat.or_zero]at h;omega
theorem qgy(dn:Value)(n t:Nat)(w:World)(hn:n<mF)(ht:t≤10)(ha:DigAt w dn (digN n)):Calls Tryz.prog 193 #[dn,.int .i64 (t:Int)] w fun e w'=>(∃ d',e=.returned d'∧DigAt w' d' (digN (n/2^t)))∧Below w.heap.size w w':=by
 have HA:=hid ha;have HN:=hid hn;clear ha hn;go_enter func193,ntmps193;go_wp2_with fail
 go_loopw [0,5] (fun dv kv wr=>∃ k:Nat,k≤t∧kv=.int .i64 (k:Int)∧DigAt wr dv (digN (n/2^k))∧Below w.heap.size w wr) (fun _ kv _=>t-(intOf kv).toNat)
 case atStart=>exact⟨0,by omega,rfl,by simpa using HA.out,Below.refl _ _⟩
 case round=>
  clear HA;obtain⟨k,hk,rfl,zi,hb⟩:=hrel;have zl:=hid zi;by_cases hkt:k<t
  ·have zr:decide ((k:Int)<(t:Int))=true:=by simp;omega
   have hx:n/2^k<mF:=Nat.lt_of_le_of_lt (Nat.div_le_self _ _) HN.out;have zm:Hid (n/2^(k+1)=n/2^k/2):=hid (by rw[Nat.pow_succ,Nat.div_div_eq_div_mul]);have z6:=hid (fun j (hj:j<15)=>half_low (n/2^k) j hj hx);have z7:=hid (half_top (n/2^k) hx);have zf:=hid (qa2 (n/2^k));generalize n/2^k=x at *;obtain⟨f,hf⟩:∃ f:Nat→Nat,f=fun j=>(digN (x/2)).getD j 0:=⟨_,rfl⟩;have HF:=hid (fun j=>(show (digN (x/2)).getD j 0=f j by rw[hf]));have z1:=hid (show mkD f=digN (x/2) from qbU (qbp _) (qaG _) fun i hi=>by rw[qbs _ _ hi,hf]);obtain⟨Dn,cn,rfl,za⟩:=zi;have ze:=hid za;have zj:=jbc (za 0 (by decide));have HZ:=hid (qcU wr);have HO:=hid (show (wr.alloc (.cells qaI 3)).heap[wr.heap.size]?=some (.cells (dcl (qbN f 0)) 3) from qad wr _);have zh:=qaf wr (.cells qaI 3);clear za hf hx;go_wp2_with fail;refine HZ.out.mono ?_;rintro e W1⟨rfl,rfl⟩;go_wp2_with fail;clear HZ;generalize (wr.alloc (.cells qaI 3))=W0 at *;generalize wr=V at *;generalize z8:V.heap.size=O at *;have HOO:=hid z8;have zs:w.heap.size≤O:=by rw[← z8];exact hb.size
   clear z8
   go_loopw [7] (fun iv wr=>∃ i:Nat,i≤16∧iv=.int .i64 (i:Int)∧wr.heap[O]?=some (.cells (dcl (qbN f i)) 3)∧Below O V wr) (fun iv _=>16-(intOf iv).toNat)
   case atStart=>exact⟨0,by omega,rfl,HO.out,zh⟩
   case round=>
    clear HO zh;obtain⟨i,hi,rfl,ho,z0⟩:=hrel;have HO:=hid ho;clear ho;by_cases zc:i<16
    ·have zq:decide ((i:Int)<16)=true:=by simp;omega
     have c1:=(z0.cell (p:=⟨Dn,i,none⟩) zj).trans (ze.out i zc);have hd1:=zf.out i zc;have HS:=hid (qep f i zc);have hpl:=qcy f i;have cx:=qbc HO.out i (by omega);have fx:=jfr wr O i _ _ HO.out;by_cases zo:i<15
     ·have zb:decide ((i:Int)<15)=true:=by simp;omega
      have hv:=z6.out i zo;rw[HF.out]at hv;have c2:=(z0.cell (p:=⟨Dn,i+1,none⟩) zj).trans (ze.out (i+1) (by omega));have hd2:=zf.out (i+1) (by omega);generalize (digN x).getD i 0=d at *;generalize (digN x).getD (i+1) 0=e at *;have hh:(d:Int)/2=((d/2:Nat):Int):=by omega
      have r1:(wr.setCell ⟨O,i,none⟩ (.int .i64 ((d:Int)/2))).heap[O]?=some (.cells (dcl ((qbN f i).set i (d/2))) 3):=by rw[hh];exact qbQ HO.out i (d/2)
      have cr:(wr.setCell ⟨O,i,none⟩ (.int .i64 ((d:Int)/2))).cell? ⟨O,i,none⟩=some (.int .i64 ((d:Int)/2)):=World.cell?_setCell_same _ _ _ cx;have zg:(wr.setCell ⟨O,i,none⟩ (.int .i64 ((d:Int)/2))).cell? ⟨Dn,i+1,none⟩=some (.int .i64 (e:Int)):=by rw[World.cell?_setCell_other _ _ _ _ (by simp<;>omega)];exact c2
      have z5:Below O V (wr.setCell ⟨O,i,none⟩ (.int .i64 ((d:Int)/2))):=z0.setCell (jlr _) _;have z3:=hid r1;have h1n:((i:Int)+1).toNat=i+1:=by omega
      have h1b:(0:Int)≤(i:Int)+1:=by omega
      have h1c:(i:Int)+1<16:=by omega
      clear r1 hh c2 z0 HO;go_wp2_with fail;clear c1 cx fx;generalize (wr.setCell ⟨O,i,none⟩ (.int .i64 ((d:Int)/2)))=V1 at *;have ka:=jcr cr;have kb:=jcr zg;refine qak 15 (by kernel_rfl) (by kernel_rfl) ?_;simp only[zks]
      repeat (first|go_big_quiet_step (fail)|quiet_step (fail))
      refine jqn ?_;intro W1 zd;have z4:=hkq z3 zd;have z2:Below O V W1:=z5.trans (zd.mono (jll (qac z3.out)));have cz:=qbc z4 i (by rw[List.length_set];omega);have fz:=jfr W1 O i _ _ z4;have s1:(W1.setCell ⟨O,i,none⟩ (.int .i64 ((f i:Nat):Int))).heap[O]?=some (.cells (dcl (qbN f (i+1))) 3):=by
       have:=qbQ z4 i (f i);rw[List.set_set,HS.out]at this;exact this
      have zn:=hid s1;have z9:Below O V (W1.setCell ⟨O,i,none⟩ (.int .i64 ((f i:Nat):Int))):=z2.setCell (jlr _) _;generalize ((qbN f i).set i (d/2)).getD i 0=old at *;generalize f i=fi at *;clear s1 ka kb cr zg zd z4 z5 z2;go_wp2_with fail;go_roundw
      case rel=>exact⟨i+1,by omega,by go_num,zn.out,z9⟩
      case measure=>simp[intOf];omega
     ·obtain rfl:i=15:=by omega
      have zb:decide (((15:Nat):Int)<15)=false:=by decide
      have hv:=z7.out;rw[HF.out]at hv;generalize (digN x).getD 15 0=d at *;have r1:(wr.setCell ⟨O,15,none⟩ (.int .i64 ((d:Int)/2))).heap[O]?=some (.cells (dcl (qbN f 16)) 3):=by
       rw[hv,← HS.out];exact qbQ HO.out 15 (f 15)
      have z3:=hid r1;have z5:Below O V (wr.setCell ⟨O,15,none⟩ (.int .i64 ((d:Int)/2))):=z0.setCell (jlr _) _;clear r1 z0 hv;go_wp2_with fail;go_roundw
      case rel=>exact⟨16,by omega,by go_num,z3.out,z5⟩
      case measure=>simp[intOf]
    ·have zq:decide ((i:Int)<16)=false:=by simp;omega
     obtain rfl:i=16:=by omega
     rw[qeG f,z1.out,← zm.out]at HO;have zk:=hid (show DigAt wr (.slice (some ⟨O,0,none⟩) 16 16) (digN (n/2^(k+1))) from DigAt.of_block HO.out (qaG _));have zp:Below w.heap.size w wr:=hb.trans (z0.mono zs);go_wp2_with fail;go_roundw
     case rel=>exact⟨k+1,by omega,by go_num,zk.out,zp⟩
     case measure=>simp[intOf];omega
  ·have zr:decide ((k:Int)<(t:Int))=false:=by simp;omega
   obtain rfl:k=t:=by omega
   go_wp2_with fail;go_ret;exact⟨⟨_,rfl,zl.out⟩,hb⟩
theorem pF3_digits:(digN pF).set 0 65520=digN (pF+3):=by decide +kernel
theorem pF1_digits:(digN pF).set 0 65516=digN (pF-1):=by decide +kernel
theorem pF_low:(digN pF).getD 0 0=65517:=by decide +kernel
def evenR(x:Nat):Nat:=if x%2=1 then subF 0 x else x
theorem rootR_same(x:Nat)(h:mulF (qbl x) (qbl x)=x):qbj x=(evenR (qbl x),true):=by
 have hy:qbm x=qbl x:=if_pos h;rw[qbj,hy,if_pos h]
 rfl
theorem rootR_other(x:Nat)(h:¬ mulF (qbl x) (qbl x)=x):mulF (qbl x) (powF 2 ((pF-1)/2^2))=qbm x:=(if_neg h).symm
theorem rootR_yes(x:Nat)(h:mulF (qbm x) (qbm x)=x):qbj x=(evenR (qbm x),true):=by rw[qbj,if_pos h];rfl
theorem rootR_no(x:Nat)(h:¬ mulF (qbm x) (qbm x)=x):qbj x=(0,false):=by rw[qbj,if_neg h]
theorem rootXr_lt(x:Nat):qbl x<pF:=qa4 _ _
theorem rootRef_any(da:Value)(x:Nat)(w:World)(hx:x<pF)(ha:DigAt w da (digN x)):Calls Tryz.prog 144 #[da] w fun e w'=>(∃ d',e=.returned (.tuple #[d',.bool (qbj x).2])∧DigAt w' d' (digN (qbj x).1))∧Below w.heap.size w w':=by
 have HX:=hid hx;have HA:=hid ha;have hM:=qd8 w;clear hx ha;go_enter func144,ntmps144;go_wp2_with fail;refine hM.mono ?_;rintro e W1⟨rfl,hm,zl⟩;have c0:=qbc hm 0 (by rw[qaG];decide);rw[pF_low]at c0;have f0:=jfr W1 w.heap.size 0 _ _ hm;have r1:(W1.setCell ⟨w.heap.size,0,none⟩ (.int .i64 65520)).heap[w.heap.size]?=some (.cells (dcl (digN (pF+3))) 3):=by rw[← pF3_digits];exact qbQ hm 0 65520
 have hb:Below w.heap.size w (W1.setCell ⟨w.heap.size,0,none⟩ (.int .i64 65520)):=zl.setCell (jlr _) _;have HN:=hid (show DigAt (W1.setCell ⟨w.heap.size,0,none⟩ (.int .i64 65520)) (.slice (some ⟨w.heap.size,0,none⟩) 16 16) (digN (pF+3)) from DigAt.of_block r1 (qaG _));clear hM hm r1 zl;go_wp2_with fail;clear c0 f0;generalize W1.setCell _ _=W2 at *;refine (qgy _ (pF+3) 3 W2 (by decide) (by omega) HN.out).mono ?_;rintro e W3⟨⟨d3,rfl,q3⟩,b3⟩;have zg:=hid q3;have hb:=hb.trans (b3.mono hb.size);clear q3 b3 HN;go_wp2_with fail;have zf:=hid (HA.out.step hb);refine (qfX _ _ x ((pF+3)/2^3) W3 HX.out (by decide) zf.out zg.out).mono ?_;rintro e W4⟨⟨d4,rfl,q4⟩,b4⟩;rw[show powF x ((pF+3)/2^3)=qbl x from rfl]at q4;have z2:=hid q4;have hb:=hb.trans (b4.mono hb.size);clear q4 b4 zg zf;have z9:=rootXr_lt x;have zc:=rootY_lt x;have zj:=hid (rootR_same x);have zk:=hid (rootR_other x);have zo:=hid (rootR_yes x);have zp:=hid (rootR_no x);generalize qbl x=X at *;generalize qbm x=Y at *;go_wp2_with fail;have z1:=hid (HA.out.step hb);refine (qaZ _ _ X X _ z9 z9 z2.out z2.out).mono ?_;rintro e Wm⟨⟨dm,rfl,qm⟩,bm⟩;have z6:=hid qm;have z2:=hid (z2.out.step bm);have z1:=hid (z1.out.step bm);have hb:=hb.trans (bm.mono hb.size);clear qm bm;go_wp2_with fail;refine (qfl _ _ (mulF X X) x _ (Nat.lt_trans (qaT _ _) (by decide)) (Nat.lt_trans HX.out (by decide)) z6.out z1.out).mono ?_
 rintro e Ws⟨rfl,bs⟩;have z2:=hid (z2.out.step bs);have z1:=hid (z1.out.step bs);have hb:=hb.trans (bs.mono hb.size);clear bs z6;by_cases hc:mulF X X=x
 ·have zn:decide (mulF X X=x)=true:=decide_eq_true hc;have HCc:=hid hc;rw[zn];clear zn;go_wp2_with fail;have z1:=hid (HA.out.step hb);refine (qaZ _ _ X X _ z9 z9 z2.out z2.out).mono ?_;rintro e Wm⟨⟨dm,rfl,qm⟩,bm⟩;have z6:=hid qm;have z2:=hid (z2.out.step bm);have z1:=hid (z1.out.step bm);have hb:=hb.trans (bm.mono hb.size);clear qm bm;go_wp2_with fail;refine (qfl _ _ (mulF X X) x _ (Nat.lt_trans (qaT _ _) (by decide)) (Nat.lt_trans HX.out (by decide)) z6.out z1.out).mono ?_;rintro e Ws⟨rfl,bs⟩;have z2:=hid (z2.out.step bs);have z1:=hid (z1.out.step bs);have hb:=hb.trans (bs.mono hb.size);clear bs z6;rw[decide_eq_true hc];have HV:=hid (zj.out hc);obtain⟨Dy,cy,rfl,z8⟩:=z2.out;have c0:=z8 0 (by decide);have hp:(digN X).getD 0 0%2=X%2:=by rw[qbC _ _ (by decide),Nat.pow_zero,Nat.div_one];omega
  have zq:=qa2 X 0 (by decide);have z4:=hid (show evenR X=if X%2=1 then subF 0 X else X from rfl);have hE:=hb;by_cases z0:X%2=1
  ·rw[if_pos z0]at z4;have ze:((((digN X).getD 0 0:Nat):Int)%2==1)=true:=by simp only[beq_iff_eq];omega
   generalize (digN X).getD 0 0=d0 at *;clear hp z8 z0;go_wp2_with fail;refine (qcU _).mono ?_;rintro e Wz⟨rfl,rfl⟩;have bz:=qaf Ws (.cells qaI 3);have za:=hid (z2.out.step bz);have z7:=hid (show DigAt (Ws.alloc (.cells qaI 3)) (.slice (some ⟨Ws.heap.size,0,none⟩) 16 16) (digN 0) from DigAt.of_block (l:=digN 0) (qad Ws _) (qaG _));have hb:=hb.trans (bz.mono hb.size);clear bz;go_wp2_with fail;refine (qcv _ _ 0 X _ (by decide) z9 z7.out za.out).mono ?_;rintro e Wf⟨⟨df,rfl,qf⟩,bf⟩;rw[← z4.out]at qf;have HF:=hid qf;have hb:=hb.trans (bf.mono hb.size);clear qf bf za z7;go_wp2_with fail;go_ret2;exact⟨⟨_,by rw[HV.out];rfl,by rw[HV.out];exact HF.out⟩,hb⟩
  ·rw[if_neg z0]at z4;have ze:((((digN X).getD 0 0:Nat):Int)%2==1)=false:=by simp only[beq_eq_false_iff_ne,ne_eq];omega
   generalize (digN X).getD 0 0=d0 at *;clear hp z8 z0;go_wp2_with fail;go_ret2;exact⟨⟨_,by rw[HV.out];rfl,by rw[HV.out];show DigAt _ _ (digN (evenR X));rw[z4.out];exact z2.out⟩,hb⟩
 ·have HM:=hid (zk.out hc);rw[decide_eq_false hc];clear hc zj zk;go_wp2_with fail;refine (qd8 _).mono ?_;rintro e W5⟨rfl,hm,zm⟩;have c0:=qbc hm 0 (by rw[qaG];decide);rw[pF_low]at c0;have f0:=jfr W5 Ws.heap.size 0 _ _ hm;have r1:(W5.setCell ⟨Ws.heap.size,0,none⟩ (.int .i64 65516)).heap[Ws.heap.size]?=some (.cells (dcl (digN (pF-1))) 3):=by rw[← pF1_digits];exact qbQ hm 0 65516
  have zd:Below Ws.heap.size Ws (W5.setCell ⟨Ws.heap.size,0,none⟩ (.int .i64 65516)):=zm.setCell (jlr _) _;have HN:=hid (show DigAt (W5.setCell ⟨Ws.heap.size,0,none⟩ (.int .i64 65516)) (.slice (some ⟨Ws.heap.size,0,none⟩) 16 16) (digN (pF-1)) from DigAt.of_block r1 (qaG _));have z5:=hid (z2.out.step zd);have hb:=hb.trans (zd.mono hb.size);clear hm r1 zm zd;go_wp2_with fail;clear c0 f0;generalize Ws.heap.size=S at *;generalize W5.setCell _ _=W6 at *;refine (qcj 2 W6 (by decide)).mono ?_;rintro e W7⟨⟨d7,rfl,q7⟩,b7⟩;have zb:=hid q7;have HN:=hid (HN.out.step b7);have z5:=hid (z5.out.step b7);have hb:=hb.trans (b7.mono hb.size);clear q7 b7;go_wp2_with fail;refine (qgy _ (pF-1) 2 W7 (by decide) (by omega) HN.out).mono ?_;rintro e W8⟨⟨d8,rfl,q8⟩,b8⟩;have zh:=hid q8;have zb:=hid (zb.out.step b8);have z5:=hid (z5.out.step b8);have hb:=hb.trans (b8.mono hb.size);clear q8 b8 HN;go_wp2_with fail;refine (qfX _ _ 2 ((pF-1)/2^2) W8 (by decide) (by decide) zb.out zh.out).mono ?_;rintro e W9⟨⟨d9,rfl,q9⟩,b9⟩;have zi:=hid q9;have z5:=hid (z5.out.step b9);have hb:=hb.trans (b9.mono hb.size);clear q9 b9 zb zh;go_wp2_with fail;refine (qaZ _ _ X (powF 2 ((pF-1)/2^2)) W9 z9 (qa4 _ _) z5.out zi.out).mono ?_;rintro e Wa⟨⟨dy,rfl,qy⟩,b9⟩;rw[HM.out]at qy;have z3:=hid qy;have hb:=hb.trans (b9.mono hb.size);clear qy b9 z5 zi HM;go_wp2_with fail;have z1:=hid (HA.out.step hb);refine (qaZ _ _ Y Y _ zc zc z3.out z3.out).mono ?_
  rintro e Wm⟨⟨dm,rfl,qm⟩,bm⟩;have z6:=hid qm;have z3:=hid (z3.out.step bm);have z1:=hid (z1.out.step bm);have hb:=hb.trans (bm.mono hb.size);clear qm bm;go_wp2_with fail;refine (qfl _ _ (mulF Y Y) x _ (Nat.lt_trans (qaT _ _) (by decide)) (Nat.lt_trans HX.out (by decide)) z6.out z1.out).mono ?_;rintro e Ws⟨rfl,bs⟩;have z3:=hid (z3.out.step bs);have z1:=hid (z1.out.step bs);have hb:=hb.trans (bs.mono hb.size);clear bs z6;by_cases hc:mulF Y Y=x
  ·skip;rw[decide_eq_true hc];have HV:=hid (zo.out hc);obtain⟨Dy,cy,rfl,z8⟩:=z3.out;have c0:=z8 0 (by decide);have hp:(digN Y).getD 0 0%2=Y%2:=by rw[qbC _ _ (by decide),Nat.pow_zero,Nat.div_one];omega
   have zq:=qa2 Y 0 (by decide);have z4:=hid (show evenR Y=if Y%2=1 then subF 0 Y else Y from rfl);have hE:=hb;by_cases z0:Y%2=1
   ·rw[if_pos z0]at z4;have ze:((((digN Y).getD 0 0:Nat):Int)%2==1)=true:=by simp only[beq_iff_eq];omega
    generalize (digN Y).getD 0 0=d0 at *;clear hp z8 z0;go_wp2_with fail;refine (qcU _).mono ?_;rintro e Wz⟨rfl,rfl⟩;have bz:=qaf Ws (.cells qaI 3);have za:=hid (z3.out.step bz);have z7:=hid (show DigAt (Ws.alloc (.cells qaI 3)) (.slice (some ⟨Ws.heap.size,0,none⟩) 16 16) (digN 0) from DigAt.of_block (l:=digN 0) (qad Ws _) (qaG _));have hb:=hb.trans (bz.mono hb.size);clear bz;go_wp2_with fail;refine (qcv _ _ 0 Y _ (by decide) zc z7.out za.out).mono ?_;rintro e Wf⟨⟨df,rfl,qf⟩,bf⟩;rw[← z4.out]at qf;have HF:=hid qf;have hb:=hb.trans (bf.mono hb.size);clear qf bf za z7;go_wp2_with fail;go_ret2;exact⟨⟨_,by rw[HV.out];rfl,by rw[HV.out];exact HF.out⟩,hb⟩
   ·rw[if_neg z0]at z4;have ze:((((digN Y).getD 0 0:Nat):Int)%2==1)=false:=by simp only[beq_eq_false_iff_ne,ne_eq];omega
    generalize (digN Y).getD 0 0=d0 at *;clear hp z8 z0;go_wp2_with fail;go_ret2;exact⟨⟨_,by rw[HV.out];rfl,by rw[HV.out];show DigAt _ _ (digN (evenR Y));rw[z4.out];exact z3.out⟩,hb⟩
  ·have HV:=hid (zp.out hc);rw[decide_eq_false hc];go_wp2_with fail;refine (qcU _).mono ?_;rintro e Wz⟨rfl,rfl⟩;have bz:=qaf Ws (.cells qaI 3);have z7:=hid (show DigAt (Ws.alloc (.cells qaI 3)) (.slice (some ⟨Ws.heap.size,0,none⟩) 16 16) (digN 0) from DigAt.of_block (l:=digN 0) (qad Ws _) (qaG _));have hb:=hb.trans (bz.mono hb.size);clear bz;go_wp2_with fail;go_ret2;exact⟨⟨_,by rw[HV.out];rfl,by rw[HV.out];exact z7.out⟩,hb⟩
end
end Go.Proofs.YteomfleofeeofaaGreatDoor
