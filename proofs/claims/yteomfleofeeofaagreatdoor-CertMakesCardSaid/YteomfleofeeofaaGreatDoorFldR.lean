/- The reference's nought, its modulus, and its carries; The reference's carries; The reference's number below the modulus; The reference's sum and difference; The reference's difference; The reference's product; The reference's number of bytes; The reference's bytes of a number; The reference's small numbers; The reference's powers, its inverse, whether two numbers are the same; The reference's halves and its root. -/
import Derived.Test.YteomfleofeeofaaGreatDoorFldA
import Derived.Test.YteomfleofeeofaaGreatDoorFldP
import Derived.Test.YteomfleofeeofaaGreatDoorBase
import Derived.Laws.BitsAllLaws
import Derived.WalkSmall
namespace Go.Proofs.YteomfleofeeofaaGreatDoor
open Go.Lib (hid)
open _root_.List (take_succ_cons drop_succ_cons)
set_option maxRecDepth 100000
set_option linter.unusedSimpArgs false
set_option linter.unusedVariables false
section
open Go.RowKit Go.Sort
def dcl (l:List Nat):Array Value:=nc .i64 l
theorem qaQ {W:World} {B:Nat} {l:List Nat} {T:TypeId} {fr:Nat×Nat} (h:W.heap[B]?=some (.cells (dcl l) T fr)) (j:Nat) (hj:j<l.length):W.cell? ⟨B,j,none⟩=some (.int .i64 ((l.getD j 0:Nat):Int)):=nc_cell h j hj
theorem qbn {W:World} {B:Nat} {l:List Nat} {T:TypeId} (h:W.heap[B]?=some (.cells (dcl l) T)) (j:Nat) (x:Nat):(W.setCell ⟨B,j,none⟩ (.int .i64 (x:Int))).heap[B]?=some (.cells (dcl (l.set j x)) T):=nc_heap_set h j x
theorem qeI:(Tryz.prog.info? 3).map (fun i=>(i.zero,i.size,i.bytes))=some (some (.int .i64 0),1,8):=by kernel_rfl
def qaG:Array Value:=dcl (List.replicate 16 0)
theorem made_digits (n:Nat):madeCells (Value.int .i64 0).cells n=dcl (List.replicate n 0):=by
 apply Array.ext_getElem?
 intro i
 by_cases h:i<n
 ·simp [madeCells,dcl,nc,Value.cells,h,Nat.mod_one]
 ·simp [madeCells,dcl,nc,Value.cells,h]
theorem makeF16 (W:World):(Instr.makeSlice 68 (.int .i64 16) (.int .i64 16)).run Tryz.prog W=.ok (.slice (some ⟨W.heap.size,0,none⟩) 16 16) (W.alloc (.cells qaG 3)):=by
 obtain ⟨i0,hi,hz0,hz1,hz2⟩:=info_parts qeI
 have h:=run_make (P:=Tryz.prog) W 68 3 i0 (.int .i64 0) Tryz.underlying68 hi hz0 .i64 .i64 16 16 (by omega) (by omega) (by rw [hz2];omega) (by omega)
 have e:madeCells (Value.int .i64 0).cells ((16:Int).toNat*i0.size)=qaG:=by rw [hz1,made_digits];rfl
 rw [e] at h;exact h
def DigAt (W:World) (v:Value) (l:List Nat):Prop:=∃ D cap,v=.slice (some ⟨D,0,none⟩) 16 cap∧∀ j,j<16→W.cell? ⟨D,j,none⟩=some (.int .i64 ((l.getD j 0:Nat):Int))
theorem DigAt.step {W W':World} {v:Value} {l:List Nat} (h:DigAt W v l) (hb:Below W.heap.size W W'):DigAt W' v l:=by
 obtain ⟨D,cap,hv,hc⟩:=h
 exact ⟨D,cap,hv,fun j hj=>(hb.cell (block_lt_of_cell (hc j hj))).trans (hc j hj)⟩
theorem DigAt.of_block {W:World} {D cap:Nat} {l:List Nat} {T:TypeId} (h:W.heap[D]?=some (.cells (dcl l) T)) (hl:l.length=16):DigAt W (.slice (some ⟨D,0,none⟩) 16 cap) l:=⟨D,cap,rfl,fun j hj=>qaQ h j (by omega)⟩
theorem qcD (w:World) :
  Calls Tryz.prog 147 #[] w fun e w'=>e=.returned (.slice (some ⟨w.heap.size,0,none⟩) 16 16)∧w'=w.alloc (.cells qaG 3):=by
 have hmk:=makeF16
 go_enter Tryz.func147,Tryz.ntmps147
 go_wp2_with fail
 go_ret
 exact ⟨rfl,rfl⟩
def modL (i:Nat):List Nat:=mkD fun j=>if j<i then 65535 else 0
theorem qfJ (i:Nat):(modL i).length=16:=qbe _
theorem modL_set (i:Nat) (h:i<16):(modL i).set i 65535=modL (i+1):=by
 have:=mkD_set (fun j=>if j<i then 65535 else 0) (fun j=>if j<i+1 then 65535 else 0) i h (fun j hj hne=>by
  by_cases h1:j<i
  ·simp [h1,Nat.lt_succ_of_lt h1]
  ·have:¬ j<i+1:=by omega
   simp [h1,this])
 rw [modL,modL]
 simpa using this
theorem modL_full:((modL 16).set 0 65517).set 15 32767=digN pF:=by decide +kernel
set_option maxHeartbeats 1000000 in
theorem qdG (w:World) :
  Calls Tryz.prog 190 #[] w fun e w'=>e=.returned (.slice (some ⟨w.heap.size,0,none⟩) 16 16)∧w'.heap[w.heap.size]?=some (.cells (dcl (digN pF)) 3)∧Below w.heap.size w w':=by
 have HO:=hid (show (w.alloc (.cells qaG 3)).heap[w.heap.size]?=some (.cells (dcl (modL 0)) 3) from qag w _)
 have hB0:=qah w (.cells qaG 3);have HZ:=hid (qcD w)
 go_enter Tryz.func190,Tryz.ntmps190
 go_wp2_with fail
 refine HZ.out.mono ?_
 rintro e W1 ⟨rfl,rfl⟩
 go_wp2_with fail
 clear HZ;generalize (w.alloc (.cells qaG 3))=W0 at *;generalize hBB:w.heap.size=O at *;have HBB:=hid hBB;clear hBB
 go_loopw [2] (fun iv wr=>∃ i:Nat,i≤16∧iv=.int .i64 (i:Int)∧wr.heap[O]?=some (.cells (dcl (modL i)) 3)∧Below O w wr) (fun iv _=>16-(intOf iv).toNat)
 case atStart=>exact ⟨0,by omega,rfl,HO.out,hB0⟩
 case round=>
  clear HO hB0;obtain ⟨i,hi,rfl,ho,hb⟩:=hrel;have HO:=hid ho;clear ho
  by_cases hlt:i<16
  ·have hd:decide ((i:Int)<16)=true:=by simp;omega
   have cx:=qaQ HO.out i (by rw [qfJ];exact hlt)
   have fx:=frozen_of_row wr O i _ _ HO.out;have r1:=qbn HO.out i 65535;rw [modL_set i hlt] at r1;have HO1:=hid r1
   have hb1:Below O w (wr.setCell ⟨O,i,none⟩ (.int .i64 ((65535:Nat):Int))):=hb.setCell (by simp) _
   clear r1 hb
   go_wp2_with fail
   go_roundw
   case rel=>exact ⟨i+1,by omega,by go_num,HO1.out,hb1⟩
   case measure=>simp [intOf];omega
  ·have hd:decide ((i:Int)<16)=false:=by simp;omega
   obtain rfl:i=16:=by omega
   have c0:=qaQ HO.out 0 (by rw [qfJ];decide)
   have f0:=frozen_of_row wr O 0 _ _ HO.out;have r1:(wr.setCell ⟨O,0,none⟩ (.int .i64 65517)).heap[O]?=some (.cells (dcl ((modL 16).set 0 65517)) 3):=qbn HO.out 0 65517
   have c1:=qaQ r1 15 (by rw [List.length_set,qfJ];decide)
   have f1:=frozen_of_row _ O 15 _ _ r1;have r2:((wr.setCell ⟨O,0,none⟩ (.int .i64 65517)).setCell ⟨O,15,none⟩ (.int .i64 32767)).heap[O]?=some (.cells (dcl (((modL 16).set 0 65517).set 15 32767)) 3):=qbn r1 15 32767;rw [modL_full] at r2;have HO2:=hid r2
   have hb1:Below O w (wr.setCell ⟨O,0,none⟩ (.int .i64 65517)):=hb.setCell (by simp) _
   have hb2:Below O w ((wr.setCell ⟨O,0,none⟩ (.int .i64 65517)).setCell ⟨O,15,none⟩ (.int .i64 32767)):=hb1.setCell (by simp) _
   clear r1 r2 hb
   go_wp2_with fail
   go_ret
   exact ⟨by rw [HBB.out];rfl,by rw [HBB.out];exact HO2.out,by rw [HBB.out];exact hb2⟩
end
section
open Go.RowKit Go.Sort
theorem and_16 (y:Nat) (h1:y≤4611686018427387904):bits .and .i64 (y:Int) 65535=((y%65536:Nat):Int):=by
 have h16:(BitVec.ofInt 64 65535).toNat=2^16-1:=by decide
 have key:(BitVec.ofInt 64 (y:Int) &&& BitVec.ofInt 64 65535).toNat=((y:Int)%((2^64:Nat):Int)).toNat%2^16:=by
  rw [BitVec.toNat_and,BitVec.toNat_ofInt,h16,Nat.and_two_pow_sub_one_eq_mod]
 show IntKind.i64.wrap ((BitVec.ofInt 64 (y:Int) &&& BitVec.ofInt 64 65535).toNat:Nat)=_
 rw [key,IntKind.wrap_i64]
 omega
def qeu (v:List Nat):Prop:=∀ j,v.getD j 0≤1152921504606846976
theorem rnd_small (v:List Nat) (h:qeu v) (hl:v.length=16) (i:Nat) (hi:i<16):(rnd v i).2≤1152921504606846976∧(rnd v i).1.getD i 0=v.getD i 0∧v.getD i 0≤1152921504606846976:=
 ⟨rnd_carry v _ h i (by omega),rnd_late v i (by omega) i (Nat.le_refl _),h i⟩
theorem foldR_small (v:List Nat) (h:qeu v) (hl:v.length=16):qeu (qa1 v)∧(rnd v 16).2≤35184372088832∧(rnd v 16).1.getD 0 0≤65535:=by
 obtain ⟨c1,e1,b1⟩:=rnd_small v h hl 15 (by decide)
 have hc:(rnd v 16).2=((rnd v 15).1.getD 15 0+(rnd v 15).2) / 65536:=rfl
 have hc2:(rnd v 16).2≤35184372088832:=by rw [hc,e1];omega
 have h0:=qen v 16 (by omega) 0 (by decide)
 refine ⟨fun j=>?_,hc2,by omega⟩
 by_cases hj:j<16
 ·rw [qa1,qbz _ _ _ _ (by rw [qbQ];omega)]
  split
  ·omega
  ·have:=qen v 16 (by omega) j hj;omega
 ·rw [List.getD_eq_getElem?_getD,List.getElem?_eq_none (by rw [qbi];omega)]
  simp
def qdB (v:List Nat):Nat→List Nat
 | 0=>v
 | r+1=>qa1 (qdB v r)
theorem qfc (v:List Nat) (h:v.length=16):∀ r,(qdB v r).length=16
 | 0=>h
 | r+1=>by rw [qdB,qbi];exact qfc v h r
theorem foldN_small (v:List Nat) (h:qeu v) (hl:v.length=16):∀ r,qeu (qdB v r)
 | 0=>h
 | r+1=>(foldR_small _ (foldN_small v h hl r) (qfc v hl r)).1
def goesOn (v:List Nat) (r:Nat):Prop:=∀ q,q<r→(rnd (qdB v q) 16).2≠0
theorem foldD_stop (v:List Nat) (r:Nat) (hr:r<3) (h:goesOn v r) (h0:(rnd (qdB v r) 16).2=0):qdB v (r+1)=qb7 v:=by
 rcases (show r=0∨r=1∨r=2 by omega) with rfl | rfl | rfl
 ·have e0:(rnd v 16).2=0:=h0
  rw [qb7,if_pos e0];rfl
 ·have e0:(rnd v 16).2≠0:=h 0 (by decide)
  have e1:(rnd (qa1 v) 16).2=0:=h0;rw [qb7,if_neg e0,if_pos e1];rfl
 ·have e0:(rnd v 16).2≠0:=h 0 (by decide)
  have e1:(rnd (qa1 v) 16).2≠0:=h 1 (by decide)
  rw [qb7,if_neg e0,if_neg e1];rfl
theorem foldD_end (v:List Nat) (h:goesOn v 3):qdB v 3=qb7 v:=by
 have e0:(rnd v 16).2≠0:=h 0 (by decide)
 have e1:(rnd (qa1 v) 16).2≠0:=h 1 (by decide)
 rw [qb7,if_neg e0,if_neg e1];rfl
set_option maxHeartbeats 4000000 in
theorem qfK (D:Nat) (v:List Nat) (w:World) (hD:w.heap[D]?=some (.cells (dcl v) 3)) (hl:v.length=16) (hv:qeu v) :
  Calls Tryz.prog 191 #[.slice (some ⟨D,0,none⟩) 16 16] w fun e w'=>e=.returned (.slice (some ⟨D,0,none⟩) 16 16)∧w'.heap[D]?=some (.cells (dcl (qb7 v)) 3)∧But D w w':=by
 have HD:=hid hD;have HV:=hid hv;have HLv:=hid hl;clear hD hv hl
 go_enter Tryz.func191,Tryz.ntmps191
 go_wp2_with fail
 go_loopw [3] (fun kv wr=>∃ k:Nat,k≤3∧kv=.int .i64 (k:Int)∧wr.heap[D]?=some (.cells (dcl (qdB v k)) 3)∧goesOn v k∧But D w wr) (fun kv _=>3-(intOf kv).toNat)
 case atStart=>exact ⟨0,by omega,rfl,HD.out,fun q hq=>absurd hq (by omega),But.refl _ _⟩
 case round=>
  clear HD;obtain ⟨k,hk,rfl,hd,hgo,hbut⟩:=hrel;have HD:=hid hd;have HGo:=hid hgo;clear hd hgo
  by_cases hk3:k<3
  ·have hdk:decide ((k:Int)<3)=true:=by simp;omega
   have HU:=hid (foldN_small v HV.out HLv.out k);have HUl:=hid (qfc v HLv.out k);have HN:Hid (qdB v (k+1)=qa1 (qdB v k)):=hid rfl;have HE:=hid (foldD_stop v k hk3 HGo.out)
   have HG:Hid ((rnd (qdB v k) 16).2≠0→goesOn v (k+1)):=hid (fun hne q hq=>by
    by_cases hqk:q=k
    ·rw [hqk];exact hne
    ·exact HGo.out q (by omega))
   generalize qdB v k=u at *
   go_wp2_with fail
   go_loopw [4,5] (fun cv iv wr=>∃ i:Nat,i≤16∧iv=.int .i64 (i:Int)∧cv=.int .i64 (((rnd u i).2:Nat):Int)∧wr.heap[D]?=some (.cells (dcl (rnd u i).1) 3)∧But D w wr) (fun _ iv _=>16-(intOf iv).toNat)
   case atStart=>exact ⟨0,by omega,rfl,rfl,HD.out,hbut⟩
   case round=>
    clear HD hbut;obtain ⟨i,hi,rfl,rfl,hd,hbut⟩:=hrel;have HD:=hid hd;clear hd
    by_cases hi16:i<16
    ·have hdi:decide ((i:Int)<16)=true:=by simp;omega
     obtain ⟨c1,e1,b1⟩:=rnd_small u HU.out HUl.out i hi16;have HRS1:Hid ((rnd u (i+1)).1=(rnd u i).1.set i (((rnd u i).1.getD i 0+(rnd u i).2)%65536)):=hid rfl;have HRS2:Hid ((rnd u (i+1)).2=((rnd u i).1.getD i 0+(rnd u i).2) / 65536):=hid rfl
     have hrl:(rnd u i).1.length=16:=by rw [qbQ,HUl.out]
     rw [e1] at HRS1 HRS2
     have cx:=qaQ HD.out i (by omega)
     rw [e1] at cx;clear e1;generalize hxx:u.getD i 0=x at *;generalize (rnd u i).2=c at *;generalize (rnd u i).1=r at *;clear hxx;have fx:=frozen_of_row wr D i _ _ HD.out
     have hs:((x:Int)+(c:Int))=((x+c:Nat):Int):=by omega
     have ha:=and_16 (x+c) (by omega)
     rw [← hs] at ha
     have r1:(wr.setCell ⟨D,i,none⟩ (.int .i64 ((x:Int)+(c:Int)))).heap[D]?=some (.cells (dcl (r.set i (x+c))) 3):=by rw [hs];exact qbn HD.out i (x+c)
     have cy:=qaQ r1 i (by rw [List.length_set];omega)
     have e2:(r.set i (x+c)).getD i 0=x+c:=by simp [List.getD_eq_getElem?_getD,hrl,hi16]
     rw [e2,← hs] at cy;have fy:=frozen_of_row _ D i _ _ r1;have r2:=qbn r1 i ((x+c)%65536);rw [List.set_set,← HRS1.out] at r2;have HR2:=hid r2;have hbut2:=(hbut.trans (But.setCell D wr ⟨D,i,none⟩ (.int .i64 ((x:Int)+(c:Int))) rfl)).trans (But.setCell D _ ⟨D,i,none⟩ (.int .i64 (((x+c)%65536:Nat):Int)) rfl);clear r1 r2 e2 hs HRS1;generalize (x+c)%65536=lo at *
     go_wp2_with fail
     go_roundw
     case rel=>exact ⟨i+1,by omega,by go_num,by rw [HRS2.out];go_num,HR2.out,hbut2⟩
     case measure=>simp [intOf];omega
    ·have hdi:decide ((i:Int)<16)=false:=by simp;omega
     obtain rfl:i=16:=by omega
     obtain ⟨s1,s2,s3⟩:=foldR_small u HU.out HUl.out;have HF:Hid (qa1 u=(rnd u 16).1.set 0 ((rnd u 16).1.getD 0 0+38*(rnd u 16).2)):=hid rfl
     have hrl:(rnd u 16).1.length=16:=by rw [qbQ,HUl.out]
     have cx:=qaQ HD.out 0 (by omega)
     have fx:=frozen_of_row wr D 0 _ _ HD.out;generalize hxx:(rnd u 16).1.getD 0 0=x at *;generalize hcc:(rnd u 16).2=c at *;generalize (rnd u 16).1=r at *;clear hxx s1
     have hs:((x:Int)+38*(c:Int))=((x+38*c:Nat):Int):=by omega
     have r1:(wr.setCell ⟨D,0,none⟩ (.int .i64 ((x:Int)+38*(c:Int)))).heap[D]?=some (.cells (dcl (r.set 0 (x+38*c))) 3):=by rw [hs];exact qbn HD.out 0 (x+38*c)
     rw [← HF.out,← HN.out] at r1;have HR1:=hid r1;have hbut1:=hbut.trans (But.setCell D wr ⟨D,0,none⟩ (.int .i64 ((x:Int)+38*(c:Int))) rfl);clear r1 hs
     by_cases h0:c=0
     ·have hd0:((c:Int)==0)=true:=by rw [h0];rfl
      have HEnd:=hid (HE.out h0);rw [HEnd.out] at HR1;clear h0
      go_wp2_with fail
      go_ret
      exact ⟨rfl,HR1.out,hbut1⟩
     ·have hd0:((c:Int)==0)=false:=by simp;omega
      have HGG:=hid (HG.out h0)
      go_wp2_with fail
      go_roundw
      case rel=>exact ⟨k+1,by omega,by go_num,HR1.out,HGG.out,hbut1⟩
      case measure=>simp [intOf];omega
  ·have hdk:decide ((k:Int)<3)=false:=by simp;omega
   obtain rfl:k=3:=by omega
   rw [foldD_end v HGo.out] at HD
   go_wp2_with fail
   go_ret
   exact ⟨rfl,HD.out,hbut⟩
end
section
open Go.RowKit Go.Sort
def dvl (l:List Nat):List Value:=l.map fun n:Nat=>Value.int .i64 (n:Int)
theorem qdC (l:List Nat):(dvl l).length=l.length:=by simp [dvl]
theorem dvl_get (l:List Nat) (j:Nat) (h:j<l.length):(dvl l)[j]?=some (.int .i64 ((l.getD j 0:Nat):Int)):=by simp [dvl,h]
theorem dvl_set (l:List Nat) (j x:Nat):(dvl l).set j (.int .i64 (x:Int))=dvl (l.set j x):=by simp [dvl,List.map_set]
theorem dvl_snoc (l:List Nat) (x:Nat):dvl l++[.int .i64 (x:Int)]=dvl (l++[x]):=by simp [dvl]
theorem DigAt.of_own {W:World} {base g cap:Nat} {l:List Nat} (h:OwnS W base g cap (dvl l)) (hl:l.length=16):DigAt W (.slice (some ⟨g,0,none⟩) 16 cap) l:=
 ⟨g,cap,rfl,fun j hj=>h.cells j _ (dvl_get l j (by omega))⟩
theorem addW_c (v:List Nat) (h:∀ j,j<16→v.getD j 0<65536):∀ i,i≤16→(addW v i).2≤19
 | 0,_=>by simp [addW]
 | i+1,hi=>by
  have h1:=addW_c v h i (by omega)
  have h2:=h i (by omega)
  rw [addW]
  show ((addW v i).2+v.getD i 0) / 65536≤19
  omega
def subN (v:List Nat):Nat→List Nat
 | 0=>v
 | r+1=>subP (subN v r)
theorem subN_spec (v:List Nat) (hl:v.length=16) (h:∀ j,j<16→v.getD j 0<65536):∀ r,(subN v r).length=16∧∀ j,j<16→(subN v r).getD j 0<65536
 | 0=>⟨hl,h⟩
 | r+1=>by
  obtain ⟨h1,h2⟩:=subN_spec v hl h r;obtain ⟨h3,h4,_⟩:=subP_spec _ h1 h2;exact ⟨h3,h4⟩
theorem belowD_two (v:List Nat) (h:¬ v.getD 15 0<32767):subN v 2=qc9 v:=by rw [qc9,if_neg h];rfl
set_option maxHeartbeats 4000000 in
theorem qds (d:Value) (v:List Nat) (w:World) (hd:DigAt w d v) (hl:v.length=16) (hv:∀ j,j<16→v.getD j 0<65536) :
  Calls Tryz.prog 189 #[d] w fun e w'=>(∃ d',e=.returned d'∧DigAt w' d' (qc9 v))∧Below w.heap.size w w':=by
 obtain ⟨i0,hi,hz0,hz1,hz2⟩:=info_parts qeI
 by_cases h15:v.getD 15 0<32767
 ·have hdd:=hd
  obtain ⟨D,cap,rfl,hc⟩:=hd
  have c15:=hc 15 (by decide)
  have hlt:decide (((v.getD 15 0:Nat):Int)<32767)=true:=by simp only [decide_eq_true_eq];omega
  have HB:Hid (qc9 v=v):=hid (if_pos h15);have HDD:=hid hdd;generalize v.getD 15 0=t at *;clear hdd hc
  go_enter Tryz.func189,Tryz.ntmps189
  go_wp2_with fail
  go_ret
  exact ⟨⟨_,rfl,by rw [HB.out];exact HDD.out⟩,Below.refl _ _⟩
 ·have HT:=hid (belowD_two v h15)
  have HSp:=hid (subN_spec v hl hv);have hdd:=hid hd;obtain ⟨D,cap,rfl,hc⟩:=hd
  have c15:=hc 15 (by decide)
  have hlt:decide (((v.getD 15 0:Nat):Int)<32767)=false:=by simp only [decide_eq_false_iff_not];omega
  generalize v.getD 15 0=t at *;clear hc h15
  go_enter Tryz.func189,Tryz.ntmps189
  go_wp2_with fail
  clear c15 hlt
  go_loopw [0,3] (fun dv kv wr=>∃ k:Nat,k≤2∧kv=.int .i64 (k:Int)∧DigAt wr dv (subN v k)∧Below w.heap.size w wr) (fun _ kv _=>2-(intOf kv).toNat)
  case atStart=>exact ⟨0,by omega,rfl,hdd.out,Below.refl _ _⟩
  case round=>
   clear hdd;obtain ⟨k,hk,rfl,hdk,hb⟩:=hrel;have HDK:=hid hdk
   by_cases hk2:k<2
   ·have hdk2:decide ((k:Int)<2)=true:=by simp;omega
    obtain ⟨hul,huv⟩:=HSp.out k;have HUL:=hid hul;have HUV:=hid huv;have HN:Hid (subN v (k+1)=subP (subN v k)):=hid rfl;have HCc:=hid (addW_c (subN v k) huv);generalize subN v k=u at *;obtain ⟨D2,cap2,rfl,hc2⟩:=hdk;have HC2:=hid hc2;clear hc2 hul huv
    go_wp2_with fail
    generalize wr=W1 at *;generalize hNN:W1.heap.size=N at *;have HNN:=hid hNN
    have hszN:N≤W1.heap.size:=by omega
    have hwN:w.heap.size≤N:=by rw [← hNN];exact hb.size
    clear hNN
    go_loopw [4,5,6] (fun lv cv iv ws=>∃ (i:Nat) (ao:Option Addr) (cp:Nat),i≤16∧iv=.int .i64 (i:Int)∧cv=.int .i64 (((addW u i).2:Nat):Int)∧lv=.slice ao i cp∧Own ws N (.slice ao i cp) (dvl (addW u i).1)∧Below N W1 ws∧N≤ws.heap.size) (fun _ _ iv _=>16-(intOf iv).toNat)
    case atStart=>exact ⟨0,none,0,by omega,rfl,rfl,rfl,Own.nil _ _,Below.refl _ _,hszN⟩
    case round=>
     obtain ⟨i,ao,cp,hi16,rfl,rfl,rfl,hown,hbn,hsz⟩:=hrel;have HO:=hid hown
     have HL:=hid (show (dvl (addW u i).1).length=i by rw [qdC,qcv])
     clear hown
     by_cases hlt:i<16
     ·have hdi:decide ((i:Int)<16)=true:=by simp;omega
      have hcu:=(hbn.cell (p:=⟨D2,i,none⟩) (by rw [← HNN.out];exact block_lt_of_cell (HC2.out i hlt))).trans (HC2.out i hlt)
      have hc19:=HCc.out i (by omega)
      have hu16:=HUV.out i hlt;have HS1:Hid ((addW u (i+1)).1=(addW u i).1++[((addW u i).2+u.getD i 0)%65536]):=hid rfl;have HS2:Hid ((addW u (i+1)).2=((addW u i).2+u.getD i 0) / 65536):=hid rfl;generalize (addW u i).2=c at *;generalize hxx:u.getD i 0=x at *;clear hxx
      have ha:=and_16 (c+x) (by omega)
      have hs:((c+x:Nat):Int)=(c:Int)+(x:Int):=by omega
      rw [hs] at ha;have HM:=hid (dvl_snoc (addW u i).1 ((c+x)%65536));rw [← HS1.out] at HM;generalize (c+x)%65536=lo at *
      go_wp2_with (at_builtin;refine qaI rfl (.tmp 26) (.tmp 29) 68 rfl N 3 i0 (.int .i64 0) 8 Tryz.underlying68 hi hz0 hz1 hz2 rfl ao i cp _ rfl (HO.out.alloc _) HL.out ⟨wr.heap.size,0,none⟩ 1 1 [.int .i64 (lo:Int)] rfl rfl (cell_one_new _ _ _) ?b2 ?b3 ?b4 ?b5 ?_)
      case b2=>intro u hu;simp at hu;subst hu;rfl
      case b3=>omega
      case b4=>omega
      case b5=>simp;omega
      intro ao5 cp5 W5 hown5 hgrow5
      have hb5:Below N W1 W5:=qa9 (hbn.alloc hsz _) (by simp;omega) (HO.out.alloc _) hgrow5
      have hsz5:N≤W5.heap.size:=by have:=hgrow5.size;simp at this;omega
      rw [HM.out] at hown5;clear hgrow5 HO hbn ha hcu
      go_wp2_with fail
      go_roundw
      case rel=>exact ⟨i+1,ao5,cp5,by omega,by go_num,by rw [HS2.out];go_num,rfl,hown5,hb5,hsz5⟩
      case measure=>simp [intOf];omega
     ·have hdi:decide ((i:Int)<16)=false:=by simp;omega
      obtain rfl:i=16:=by omega
      obtain ⟨g,gc,hvv,hown,hgl⟩:=HO.out.some (by rw [HL.out];omega)
      have hv2:Value.slice ao 16 cp=.slice (some ⟨g,0,none⟩) 16 gc:=by rw [hvv,HL.out]
      injection hv2 with h1 h2 h3
      subst h1 h3;clear hvv;have hw16:=qcv u 16
      have hc19:=HCc.out 16 (by omega)
      have ht16:=addW_low u 16 15 (by decide)
      have hc15:=hown.cells 15 _ (dvl_get _ 15 (by omega))
      have hf15:=(hown.room 15 (by have:=hown.le;rw [qdC,hw16] at this;omega)).2
      have HSub:Hid (subP u=if 32768≤(addW u 16).1.getD 15 0∨0<(addW u 16).2 then (addW u 16).1.set 15 ((addW u 16).1.getD 15 0+65536*(addW u 16).2-32768) else u):=hid rfl
      have HOw:=hid hown;have hb2:Below w.heap.size w wr:=hb.trans (hbn.mono hwN)
      have HDs:=hid (HDK.out.step (by rw [HNN.out];exact hbn))
      generalize hcc:(addW u 16).2=c at *;generalize htt:(addW u 16).1.getD 15 0=t2 at *;generalize (addW u 16).1=wl at *;clear hown HO HDK hbn htt hcc
      by_cases hA:32768≤t2
      ·have q1:decide ((32768:Int)≤(t2:Int))=true:=by simp;omega
       rw [if_pos (Or.inl hA)] at HSub
       have hw15:(15:Nat)<(dvl wl).length:=by rw [qdC,hw16];decide
       obtain ⟨nv,hnv⟩:∃ nv,nv=t2+65536*c-32768:=⟨_,rfl⟩
       have hst:(t2:Int)-32768+65536*(c:Int)=(nv:Int):=by omega
       have hput:=HOw.out.put 15 hw15 (.int .i64 (nv:Int));rw [dvl_set] at hput;rw [← hnv] at HSub
       have hwl:(wl.set 15 nv).length=16:=by rw [List.length_set,hw16]
       have HD2:=hid (DigAt.of_own hput hwl);rw [← HSub.out,← HN.out] at HD2
       have hb3:Below w.heap.size w (wr.setCell ⟨g,15,none⟩ (.int .i64 (nv:Int))):=hb2.setCell (by have:=HOw.out.base;show w.heap.size≤g;omega) _
       clear hput hwl HSub HOw hb2 HDs hnv
       go_wp2_with fail
       go_roundw
       case rel=>exact ⟨k+1,by omega,by go_num,HD2.out,hb3⟩
       case measure=>simp [intOf];omega
      ·have q1:decide ((32768:Int)≤(t2:Int))=false:=by simp;omega
       by_cases hBc:0<c
       ·have q2:decide ((0:Int)<(c:Int))=true:=by simp;omega
        rw [if_pos (Or.inr hBc)] at HSub
        have hw15:(15:Nat)<(dvl wl).length:=by rw [qdC,hw16];decide
        obtain ⟨nv,hnv⟩:∃ nv,nv=t2+65536*c-32768:=⟨_,rfl⟩
        have hst:(t2:Int)-32768+65536*(c:Int)=(nv:Int):=by omega
        have hput:=HOw.out.put 15 hw15 (.int .i64 (nv:Int));rw [dvl_set] at hput;rw [← hnv] at HSub
        have hwl:(wl.set 15 nv).length=16:=by rw [List.length_set,hw16]
        have HD2:=hid (DigAt.of_own hput hwl);rw [← HSub.out,← HN.out] at HD2
        have hb3:Below w.heap.size w (wr.setCell ⟨g,15,none⟩ (.int .i64 (nv:Int))):=hb2.setCell (by have:=HOw.out.base;show w.heap.size≤g;omega) _
        clear hput hwl HSub HOw hb2 HDs hnv
        go_wp2_with fail
        go_roundw
        case rel=>exact ⟨k+1,by omega,by go_num,HD2.out,hb3⟩
        case measure=>simp [intOf];omega
       ·have q2:decide ((0:Int)<(c:Int))=false:=by simp;omega
        rw [if_neg (by omega)] at HSub
        rw [HSub.out] at HN;have HD2:=hid HDs.out;rw [← HN.out] at HD2;clear HSub HOw
        go_wp2_with fail
        go_roundw
        case rel=>exact ⟨k+1,by omega,by go_num,HD2.out,hb2⟩
        case measure=>simp [intOf];omega
   ·have hdk2:decide ((k:Int)<2)=false:=by simp;omega
    obtain rfl:k=2:=by omega
    rw [HT.out] at HDK
    go_wp2_with fail
    go_ret
    exact ⟨⟨_,rfl,HDK.out⟩,hb⟩
end
section
open Go.RowKit Go.Sort
def qbE (f:Nat→Nat) (i:Nat):List Nat:=mkD fun j=>if j<i then f j else 0
theorem qcg (f:Nat→Nat) (i:Nat):(qbE f i).length=16:=qbe _
theorem qdR (f:Nat→Nat) (i:Nat) (h:i<16):(qbE f i).set i (f i)=qbE f (i+1):=by
 have:=mkD_set (fun j=>if j<i then f j else 0) (fun j=>if j<i+1 then f j else 0) i h (fun j hj hne=>by
  by_cases h1:j<i
  ·simp [h1,Nat.lt_succ_of_lt h1]
  ·have:¬ j<i+1:=by omega
   simp [h1,this])
 rw [qbE,qbE]
 simpa using this
theorem qd7 (f:Nat→Nat):qbE f 16=mkD f:=qbG (qcg ..) (qbe _) fun i hi=>by rw [qbE,qbf _ _ hi,qbf _ _ hi,if_pos hi]
theorem partD_get (f:Nat→Nat) (i j:Nat) (h:j<16):(qbE f i).getD j 0=if j<i then f j else 0:=qbf _ _ h
theorem qf8 (v:List Nat) (hl:v.length=16) (h:∀ j,j<16→v.getD j 0≤1152921504606846976):qeu v∧(qb7 v).length=16∧∀ j,j<16→(qb7 v).getD j 0<65536:=
 ⟨fun j=>by
  by_cases hj:j<16
  ·exact h j hj
  ·rw [List.getD_eq_getElem?_getD,List.getElem?_eq_none (by omega)];simp,by rw [foldD_length];exact hl,foldD_low v hl (dS_small v 1152921504606846976 (by decide) h)⟩
set_option maxHeartbeats 4000000 in
theorem qdD (da db:Value) (x y:Nat) (w:World) (hx:x<pF) (hy:y<pF) (ha:DigAt w da (digN x)) (hb:DigAt w db (digN y)) :
  Calls Tryz.prog 142 #[da,db] w fun e w'=>(∃ d',e=.returned d'∧DigAt w' d' (digN (addF x y)))∧Below w.heap.size w w':=by
 obtain ⟨Da,ca,rfl,hca⟩:=ha;obtain ⟨Db,cb,rfl,hcb⟩:=hb;have HCA:=hid hca;have HCB:=hid hcb;have HA:=hid (qaS x);have HB:=hid (qaS y);have HR:=hid (add_ref x y hx hy);have HZ:=hid (qcD w)
 obtain ⟨f,hf⟩:∃ f:Nat→Nat,f=fun i=>(digN x).getD i 0+(digN y).getD i 0:=⟨_,rfl⟩
 have HF:=hid (fun j (hj:j<16)=>(show f j=(digN x).getD j 0+(digN y).getD j 0 by rw [hf]))
 have HV:=hid (show mkD f=addD (digN x) (digN y) by rw [hf];rfl)
 have HFl:=hid (fun j (hj:j<16)=>(show f j≤1152921504606846976 by have h1:=qaS x j hj;have h2:=qaS y j hj;rw [hf];show (digN x).getD j 0+(digN y).getD j 0≤_;omega))
 have HO:=hid (show (w.alloc (.cells qaG 3)).heap[w.heap.size]?=some (.cells (dcl (qbE f 0)) 3) from qag w _)
 have hB0:=qah w (.cells qaG 3)
 have hla:=block_lt_of_cell (hca 0 (by decide));have hlb:=block_lt_of_cell (hcb 0 (by decide))
 clear hca hcb hx hy hf
 go_enter Tryz.func142,Tryz.ntmps142
 go_wp2_with fail
 refine HZ.out.mono ?_
 rintro e W1 ⟨rfl,rfl⟩
 go_wp2_with fail
 clear HZ;generalize (w.alloc (.cells qaG 3))=W0 at *;generalize hBB:w.heap.size=O at *;have HBB:=hid hBB;clear hBB
 go_loopw [6] (fun iv wr=>∃ i:Nat,i≤16∧iv=.int .i64 (i:Int)∧wr.heap[O]?=some (.cells (dcl (qbE f i)) 3)∧Below O w wr) (fun iv _=>16-(intOf iv).toNat)
 case atStart=>exact ⟨0,by omega,rfl,HO.out,hB0⟩
 case round=>
  clear HO hB0;obtain ⟨i,hi,rfl,ho,hb⟩:=hrel;have HO:=hid ho;clear ho
  by_cases hlt:i<16
  ·have hd:decide ((i:Int)<16)=true:=by simp;omega
   have c1:=(hb.cell (p:=⟨Da,i,none⟩) hla).trans (HCA.out i hlt);have c2:=(hb.cell (p:=⟨Db,i,none⟩) hlb).trans (HCB.out i hlt);have hx1:=HA.out i hlt;have hy1:=HB.out i hlt;have hfi:=HF.out i hlt;have HS:=hid (qdR f i hlt);have hpl:=qcg f i;generalize (digN x).getD i 0=p at *;generalize (digN y).getD i 0=q at *
   have hs:((p:Int)+(q:Int))=((f i:Nat):Int):=by omega
   have HFI:=hid hs;clear hs hfi
   go_wp2_with fail
   have ka:=cell_regrown c1;have kb:=cell_regrown c2
   refine qap 12 (by kernel_rfl) (by kernel_rfl) ?_
   simp only [take_succ_cons,List.take_zero,drop_succ_cons,List.drop_zero]
   repeat (first | go_big_quiet_step (fail) | quiet_step (fail))
   refine wpQuiet_nil ?_
   intro W1 hb1;have hO1:=qaa hb1 (qab HO.out) HO.out;have hbl1:Below O w W1:=hb.trans (hb1.mono (Nat.le_of_lt (qab HO.out)))
   have cz:=qaQ hO1 i (by omega)
   have fz:=frozen_of_row W1 O i _ _ hO1
   have s1:(W1.setCell ⟨O,i,none⟩ (.int .i64 ((p:Int)+(q:Int)))).heap[O]?=some (.cells (dcl (qbE f (i+1))) 3):=by rw [HFI.out,← HS.out];exact qbn hO1 i (f i)
   have HS1:=hid s1;have hbl2:Below O w (W1.setCell ⟨O,i,none⟩ (.int .i64 ((p:Int)+(q:Int)))):=hbl1.setCell (Nat.le_refl _) _;clear s1 ka kb c1 c2 hb1 hO1 hb HS
   go_wp2_with fail
   go_roundw
   case rel=>exact ⟨i+1,by omega,by go_num,HS1.out,hbl2⟩
   case measure=>simp [intOf];omega
  ·have hd:decide ((i:Int)<16)=false:=by simp;omega
   obtain rfl:i=16:=by omega
   rw [qd7 f,HV.out] at HO
   have hle:∀ j,j<16→(addD (digN x) (digN y)).getD j 0≤1152921504606846976:=fun j hj=>by rw [← HV.out,qbf _ _ hj];exact HFl.out j hj
   obtain ⟨q1,q2,q3⟩:=qf8 (addD (digN x) (digN y)) (qbe _) hle;have hRl:(addD (digN x) (digN y)).length=16:=qbe _;generalize addD (digN x) (digN y)=V at *;clear hle
   go_wp2_with fail
   refine (qfK O V wr HO.out hRl q1).mono ?_
   rintro e W2 ⟨rfl,hO2,hbut⟩;have hb2:Below O w W2:=hb.trans (hbut.below (Nat.le_refl _) (Nat.le_of_lt (qab HO.out)));have hdg:DigAt W2 (.slice (some ⟨O,0,none⟩) 16 16) (qb7 V):=DigAt.of_block hO2 q2;have HBl:=hid (qds _ _ W2 hdg q2 q3);have hsO:O≤W2.heap.size:=Nat.le_of_lt (qab hO2);clear hdg hO2 hbut hb
   go_wp2_with fail
   refine HBl.out.mono ?_
   rintro e W3 ⟨⟨d',rfl,hd3⟩,hb3⟩;rw [HR.out] at hd3;have HD3:=hid hd3;have hb4:Below O w W3:=hb2.trans (hb3.mono hsO);clear hd3 hb3 HBl
   go_wp2_with fail
   go_ret
   exact ⟨⟨_,rfl,HD3.out⟩,by rw [HBB.out];exact hb4⟩
end
section
open Go.RowKit Go.Sort
set_option maxHeartbeats 4000000 in
theorem qcJ (da db:Value) (x y:Nat) (w:World) (hx:x<pF) (hy:y<pF) (ha:DigAt w da (digN x)) (hb:DigAt w db (digN y)) :
  Calls Tryz.prog 141 #[da,db] w fun e w'=>(∃ d',e=.returned d'∧DigAt w' d' (digN (subF x y)))∧Below w.heap.size w w':=by
 obtain ⟨Da,ca,rfl,hca⟩:=ha;obtain ⟨Db,cb,rfl,hcb⟩:=hb;have HCA:=hid hca;have HCB:=hid hcb;have HA:=hid (qaS x);have HB:=hid (qaS y);have HR:=hid (sub_ref x y hx hy);have HZ:=hid (qcD w)
 obtain ⟨f,hf⟩:∃ f:Nat→Nat,f=fun i=>(digN x).getD i 0+2*(digN pF).getD i 0-(digN y).getD i 0:=⟨_,rfl⟩
 have HF:=hid (fun j (hj:j<16)=>(show f j=(digN x).getD j 0+2*(digN pF).getD j 0-(digN y).getD j 0∧(digN y).getD j 0≤2*(digN pF).getD j 0∧(digN pF).getD j 0<65536 from ⟨by rw [hf],subD_ok y j hy hj,qaS pF j hj⟩))
 have HV:=hid (show mkD f=subD (digN x) (digN y) by rw [hf];rfl)
 have HFl:=hid (fun j (hj:j<16)=>(show f j≤1152921504606846976 by have h1:=qaS x j hj;have h2:=qaS pF j hj;rw [hf];show (digN x).getD j 0+2*(digN pF).getD j 0-(digN y).getD j 0≤_;omega))
 have HO:=hid (show (w.alloc (.cells qaG 3)).heap[w.heap.size]?=some (.cells (dcl (qbE f 0)) 3) from qag w _)
 have hB0:=qah w (.cells qaG 3)
 have hla:=block_lt_of_cell (hca 0 (by decide));have hlb:=block_lt_of_cell (hcb 0 (by decide))
 clear hca hcb hx hy hf
 go_enter Tryz.func141,Tryz.ntmps141
 go_wp2_with fail
 refine HZ.out.mono ?_
 rintro e W1 ⟨rfl,rfl⟩
 go_wp2_with fail
 clear HZ
 have hsz0:(w.alloc (.cells qaG 3)).heap.size=w.heap.size+1:=by simp
 generalize (w.alloc (.cells qaG 3))=Wz at *
 refine (qdG Wz).mono ?_
 rintro e W0 ⟨rfl,hM,hbM⟩;have HM:=hid hM;have HO:=hid (qaa hbM (qab HO.out) HO.out)
 have hB0:=hB0.trans (hbM.mono (by omega))
 clear hM hbM;rw [hsz0] at HM ⊢
 go_wp2_with fail
 clear hsz0;generalize hBB:w.heap.size=O at *;have HBB:=hid hBB;clear hBB
 go_loopw [7] (fun iv wr=>∃ i:Nat,i≤16∧iv=.int .i64 (i:Int)∧wr.heap[O]?=some (.cells (dcl (qbE f i)) 3)∧wr.heap[O+1]?=some (.cells (dcl (digN pF)) 3)∧Below O w wr) (fun iv _=>16-(intOf iv).toNat)
 case atStart=>exact ⟨0,by omega,rfl,HO.out,HM.out,hB0⟩
 case round=>
  clear HO HM hB0;obtain ⟨i,hi,rfl,ho,hm,hb⟩:=hrel;have HO:=hid ho;have HM:=hid hm;clear ho hm
  by_cases hlt:i<16
  ·have hd:decide ((i:Int)<16)=true:=by simp;omega
   have c1:=(hb.cell (p:=⟨Da,i,none⟩) hla).trans (HCA.out i hlt);have c2:=(hb.cell (p:=⟨Db,i,none⟩) hlb).trans (HCB.out i hlt)
   have c3:=qaQ HM.out i (by rw [qaF];exact hlt)
   have hx1:=HA.out i hlt;have hy1:=HB.out i hlt;obtain ⟨hfi,hfi2,hfi3⟩:=HF.out i hlt;have HS:=hid (qdR f i hlt);have hpl:=qcg f i;generalize (digN x).getD i 0=p at *;generalize (digN y).getD i 0=q at *;generalize (digN pF).getD i 0=r at *
   have hs:((p:Int)+2*(r:Int)-(q:Int))=((f i:Nat):Int):=by omega
   have HFI:=hid hs;clear hs hfi
   go_wp2_with fail
   have ka:=cell_regrown c1;have kb:=cell_regrown c2;have kc:=cell_regrown c3
   refine qap 18 (by kernel_rfl) (by kernel_rfl) ?_
   simp only [take_succ_cons,List.take_zero,drop_succ_cons,List.drop_zero]
   repeat (first | go_big_quiet_step (fail) | quiet_step (fail))
   refine wpQuiet_nil ?_
   intro W1 hb1;have hO1:=qaa hb1 (qab HO.out) HO.out;have hbl1:Below O w W1:=hb.trans (hb1.mono (Nat.le_of_lt (qab HO.out)))
   have HM2:=hid (show (W1.setCell ⟨O,i,none⟩ (.int .i64 ((p:Int)+2*(r:Int)-(q:Int)))).heap[O+1]?=some (.cells (dcl (digN pF)) 3) from by rw [heap_setCell_other _ _ _ _ (by simp)];exact qaa hb1 (qab HM.out) HM.out)
   have cz:=qaQ hO1 i (by omega)
   have fz:=frozen_of_row W1 O i _ _ hO1
   have s1:(W1.setCell ⟨O,i,none⟩ (.int .i64 ((p:Int)+2*(r:Int)-(q:Int)))).heap[O]?=some (.cells (dcl (qbE f (i+1))) 3):=by rw [HFI.out,← HS.out];exact qbn hO1 i (f i)
   have HS1:=hid s1;have hbl2:Below O w (W1.setCell ⟨O,i,none⟩ (.int .i64 ((p:Int)+2*(r:Int)-(q:Int)))):=hbl1.setCell (Nat.le_refl _) _;clear s1 ka kb kc c1 c2 c3 hb1 hO1 hb HS HM
   go_wp2_with fail
   go_roundw
   case rel=>exact ⟨i+1,by omega,by go_num,HS1.out,HM2.out,hbl2⟩
   case measure=>simp [intOf];omega
  ·have hd:decide ((i:Int)<16)=false:=by simp;omega
   obtain rfl:i=16:=by omega
   rw [qd7 f,HV.out] at HO
   have hle:∀ j,j<16→(subD (digN x) (digN y)).getD j 0≤1152921504606846976:=fun j hj=>by rw [← HV.out,qbf _ _ hj];exact HFl.out j hj
   obtain ⟨q1,q2,q3⟩:=qf8 (subD (digN x) (digN y)) (qbe _) hle;have hRl:(subD (digN x) (digN y)).length=16:=qbe _;generalize subD (digN x) (digN y)=V at *;clear hle
   go_wp2_with fail
   refine (qfK O V wr HO.out hRl q1).mono ?_
   rintro e W2 ⟨rfl,hO2,hbut⟩;have hb2:Below O w W2:=hb.trans (hbut.below (Nat.le_refl _) (Nat.le_of_lt (qab HO.out)));have hdg:DigAt W2 (.slice (some ⟨O,0,none⟩) 16 16) (qb7 V):=DigAt.of_block hO2 q2;have HBl:=hid (qds _ _ W2 hdg q2 q3);have hsO:O≤W2.heap.size:=Nat.le_of_lt (qab hO2);clear hdg hO2 hbut hb
   go_wp2_with fail
   refine HBl.out.mono ?_
   rintro e W3 ⟨⟨d',rfl,hd3⟩,hb3⟩;rw [HR.out] at hd3;have HD3:=hid hd3;have hb4:Below O w W3:=hb2.trans (hb3.mono hsO);clear hd3 hb3 HBl
   go_wp2_with fail
   go_ret
   exact ⟨⟨_,rfl,HD3.out⟩,by rw [HBB.out];exact hb4⟩
end
section
open Go.RowKit Go.Sort
set_option maxHeartbeats 4000000 in
theorem qaR (da db:Value) (x y:Nat) (w:World) (hx:x<pF) (hy:y<pF) (ha:DigAt w da (digN x)) (hb:DigAt w db (digN y)) :
  Calls Tryz.prog 140 #[da,db] w fun e w'=>(∃ d',e=.returned d'∧DigAt w' d' (digN (mulF x y)))∧Below w.heap.size w w':=by
 obtain ⟨Da,ca,rfl,hca⟩:=ha;obtain ⟨Db,cb,rfl,hcb⟩:=hb;have HCA:=hid hca;have HCB:=hid hcb;have HA:=hid (qaS x);have HB:=hid (qaS y);have HR:=hid (mul_ref x y hx hy);have HZ:=hid (qcD w);have HI:=hid (mulI_le (digN x) (digN y) (qaS x) (qaS y))
 have HO:=hid (show (w.alloc (.cells qaG 3)).heap[w.heap.size]?=some (.cells (dcl (mulI (digN x) (digN y) 0)) 3) from qag w _)
 have hB0:=qah w (.cells qaG 3)
 have hla:=block_lt_of_cell (hca 0 (by decide));have hlb:=block_lt_of_cell (hcb 0 (by decide))
 clear hca hcb hx hy
 go_enter Tryz.func140,Tryz.ntmps140
 go_wp2_with fail
 refine HZ.out.mono ?_
 rintro e W1 ⟨rfl,rfl⟩
 go_wp2_with fail
 clear HZ;generalize (w.alloc (.cells qaG 3))=W0 at *;generalize hBB:w.heap.size=O at *;have HBB:=hid hBB;clear hBB
 go_loopw [6] (fun iv wr=>∃ i:Nat,i≤16∧iv=.int .i64 (i:Int)∧wr.heap[O]?=some (.cells (dcl (mulI (digN x) (digN y) i)) 3)∧Below O w wr) (fun iv _=>16-(intOf iv).toNat)
 case atStart=>exact ⟨0,by omega,rfl,HO.out,hB0⟩
 case round=>
  clear HO hB0;obtain ⟨i,hi,rfl,ho,hbl⟩:=hrel;have HO:=hid ho;clear ho
  by_cases hi16:i<16
  ·have hdi:decide ((i:Int)<16)=true:=by simp;omega
   have HN:Hid (mulI (digN x) (digN y) (i+1)=mulK (digN x) (digN y) i (mulI (digN x) (digN y) i) 16):=hid rfl
   have HM:=hid (HI.out i (by omega))
   have HMl:=hid (qdd (digN x) (digN y) i);generalize mulI (digN x) (digN y) i=m at *
   go_wp2_with fail
   go_loopw [7] (fun kv wr=>∃ k:Nat,k≤16∧kv=.int .i64 (k:Int)∧wr.heap[O]?=some (.cells (dcl (mulK (digN x) (digN y) i m k)) 3)∧Below O w wr) (fun kv _=>16-(intOf kv).toNat)
   case atStart=>exact ⟨0,by omega,rfl,HO.out,hbl⟩
   case round=>
    clear HO hbl;obtain ⟨k,hk,rfl,ho,hbl⟩:=hrel;have HO:=hid ho;clear ho
    by_cases hk16:k<16
    ·have hdk:decide ((k:Int)<16)=true:=by simp;omega
     have HR2:=hid (mulK_le (digN x) (digN y) i m _ HMl.out hi16 (HA.out i hi16) HB.out HM.out k (by omega))
     have HRl:=hid (show (mulK (digN x) (digN y) i m k).length=16 from by rw [qcM,HMl.out])
     have HRS:Hid (mulK (digN x) (digN y) i m (k+1)=if i+k<16 then (mulK (digN x) (digN y) i m k).set (i+k) ((mulK (digN x) (digN y) i m k).getD (i+k) 0+(digN x).getD i 0*(digN y).getD k 0) else (mulK (digN x) (digN y) i m k).set (i+k-16) ((mulK (digN x) (digN y) i m k).getD (i+k-16) 0+38*(digN x).getD i 0*(digN y).getD k 0)):=hid rfl
     have a1:=HA.out i hi16;have b1:=HB.out k hk16
     have p1:(digN x).getD i 0*(digN y).getD k 0≤4294836225:=Nat.mul_le_mul (show _≤65535 by omega) (show _≤65535 by omega)
     have c1:=(hbl.cell (p:=⟨Da,i,none⟩) hla).trans (HCA.out i hi16);have c2:=(hbl.cell (p:=⟨Db,k,none⟩) hlb).trans (HCB.out k hk16);generalize mulK (digN x) (digN y) i m k=r at *
     by_cases hlow:i+k<16
     ·have hdl:decide ((i:Int)+(k:Int)<16)=true:=by simp;omega
      rw [if_pos hlow] at HRS;have z1:=HR2.out (i+k) hlow
      have c3:=qaQ HO.out (i+k) (by rw [HRl.out];exact hlow)
      have q0:(0:Int)≤(i:Int)+(k:Int):=by omega
      have hij:((i:Int)+(k:Int)).toNat=i+k:=by omega
      generalize (digN x).getD i 0=p at *;generalize (digN y).getD k 0=q at *;generalize r.getD (i+k) 0=z at *
      have hpq:(p:Int)*(q:Int)=((p*q:Nat):Int):=by simp
      have hz:(z:Int)+(p:Int)*(q:Int)=((z+p*q:Nat):Int):=by simp
      have p0:(0:Int)≤(p:Int)*(q:Int):=by omega
      have p2:(p:Int)*(q:Int)≤4294836225:=by omega
      have hz1:z≤45000000000000:=by omega
      have HZ2:=hid hz;clear hz hpq p1 z1
      go_wp2_with fail
      have ka:=cell_regrown c1;have kb:=cell_regrown c2;have kc:=cell_regrown c3
      refine qap 21 (by kernel_rfl) (by kernel_rfl) ?_
      simp only [take_succ_cons,List.take_zero,drop_succ_cons,List.drop_zero]
      repeat (first | go_big_quiet_step (fail) | quiet_step (fail))
      refine wpQuiet_nil ?_
      intro W1 hb1;have hO1:=qaa hb1 (qab HO.out) HO.out;have hbl1:Below O w W1:=hbl.trans (hb1.mono (Nat.le_of_lt (qab HO.out)))
      have cz:=qaQ hO1 (i+k) (by rw [HRl.out];exact hlow)
      have fz:=frozen_of_row W1 O (i+k) _ _ hO1
      have s1:(W1.setCell ⟨O,i+k,none⟩ (.int .i64 ((z:Int)+(p:Int)*(q:Int)))).heap[O]?=some (.cells (dcl (mulK (digN x) (digN y) i m (k+1))) 3):=by rw [HZ2.out,HRS.out];exact qbn hO1 (i+k) _
      have HS1:=hid s1;have hbl2:Below O w (W1.setCell ⟨O,i+k,none⟩ (.int .i64 ((z:Int)+(p:Int)*(q:Int)))):=hbl1.setCell (Nat.le_refl _) _;clear s1 ka kb kc c1 c2 c3 hb1 hO1 hbl
      go_wp2_with fail
      go_roundw
      case rel=>exact ⟨k+1,by omega,by go_num,HS1.out,hbl2⟩
      case measure=>simp [intOf];omega
     ·have hdl:decide ((i:Int)+(k:Int)<16)=false:=by simp;omega
      rw [if_neg hlow] at HRS;obtain ⟨t,ht⟩:∃ t,i+k-16=t:=⟨_,rfl⟩
      have ht16:t<16:=by omega
      have htz:(i:Int)+(k:Int)-16=(t:Int):=by omega
      rw [ht] at HRS;have z1:=HR2.out t ht16
      have c3:=qaQ HO.out t (by rw [HRl.out];exact ht16)
      generalize (digN x).getD i 0=p at *;generalize (digN y).getD k 0=q at *;generalize r.getD t 0=z at *;have p38:38*p*q=38*(p*q):=Nat.mul_assoc _ _ _
      have hpq:38*(p:Int)*(q:Int)=((38*p*q:Nat):Int):=by simp
      have hz:(z:Int)+38*(p:Int)*(q:Int)=((z+38*p*q:Nat):Int):=by simp
      have p0:(0:Int)≤38*(p:Int)*(q:Int):=by omega
      have p2:38*(p:Int)*(q:Int)≤163203776550:=by omega
      have hz1:z≤45000000000000:=by omega
      have HZ2:=hid hz;clear hz hpq p1 z1 p38
      go_wp2_with fail
      have ka:=cell_regrown c1;have kb:=cell_regrown c2;have kc:=cell_regrown c3
      refine qap 24 (by kernel_rfl) (by kernel_rfl) ?_
      simp only [take_succ_cons,List.take_zero,drop_succ_cons,List.drop_zero]
      repeat (first | go_big_quiet_step (fail) | quiet_step (fail))
      refine wpQuiet_nil ?_
      intro W1 hb1;have hO1:=qaa hb1 (qab HO.out) HO.out;have hbl1:Below O w W1:=hbl.trans (hb1.mono (Nat.le_of_lt (qab HO.out)))
      have cz:=qaQ hO1 t (by rw [HRl.out];exact ht16)
      have fz:=frozen_of_row W1 O t _ _ hO1
      have s1:(W1.setCell ⟨O,t,none⟩ (.int .i64 ((z:Int)+38*(p:Int)*(q:Int)))).heap[O]?=some (.cells (dcl (mulK (digN x) (digN y) i m (k+1))) 3):=by rw [HZ2.out,HRS.out];exact qbn hO1 t _
      have HS1:=hid s1;have hbl2:Below O w (W1.setCell ⟨O,t,none⟩ (.int .i64 ((z:Int)+38*(p:Int)*(q:Int)))):=hbl1.setCell (Nat.le_refl _) _;clear s1 ka kb kc c1 c2 c3 hb1 hO1 hbl
      go_wp2_with fail
      go_roundw
      case rel=>exact ⟨k+1,by omega,by go_num,HS1.out,hbl2⟩
      case measure=>simp [intOf];omega
    ·have hdk:decide ((k:Int)<16)=false:=by simp;omega
     obtain rfl:k=16:=by omega
     rw [← HN.out] at HO
     go_wp2_with fail
     go_roundw
     case rel=>exact ⟨i+1,by omega,by go_num,HO.out,hbl⟩
     case measure=>simp [intOf];omega
  ·have hdi:decide ((i:Int)<16)=false:=by simp;omega
   obtain rfl:i=16:=by omega
   have hle:∀ j,j<16→(mulI (digN x) (digN y) 16).getD j 0≤1152921504606846976:=fun j hj=>by have:=HI.out 16 (by omega) j hj;omega
   have hRl:=qdd (digN x) (digN y) 16;obtain ⟨q1,q2,q3⟩:=qf8 _ hRl hle;generalize mulI (digN x) (digN y) 16=V at *;clear hle
   go_wp2_with fail
   refine (qfK O V wr HO.out hRl q1).mono ?_
   rintro e W2 ⟨rfl,hO2,hbut⟩;have hb2:Below O w W2:=hbl.trans (hbut.below (Nat.le_refl _) (Nat.le_of_lt (qab HO.out)));have hdg:DigAt W2 (.slice (some ⟨O,0,none⟩) 16 16) (qb7 V):=DigAt.of_block hO2 q2;have HBl:=hid (qds _ _ W2 hdg q2 q3);have hsO:O≤W2.heap.size:=Nat.le_of_lt (qab hO2);clear hdg hO2 hbut hbl
   go_wp2_with fail
   refine HBl.out.mono ?_
   rintro e W3 ⟨⟨d',rfl,hd3⟩,hb3⟩;rw [HR.out] at hd3;have HD3:=hid hd3;have hb4:Below O w W3:=hb2.trans (hb3.mono hsO);clear hd3 hb3 HBl
   go_wp2_with fail
   go_ret
   exact ⟨⟨_,rfl,HD3.out⟩,by rw [HBB.out];exact hb4⟩
end
section
open Go.RowKit Go.Sort
def ofL (l:List UInt8) (k:Nat):List Nat:=(List.range k).map fun j=>(l.getD (2*j) 0).toNat+256*(l.getD (2*j+1) 0).toNat
theorem qd8 (l:List UInt8) (k:Nat):(ofL l k).length=k:=by simp [ofL]
theorem ofL_snoc (l:List UInt8) (k:Nat):dvl (ofL l k)++[.int .i64 ((((l.getD (2*k) 0).toNat+256*(l.getD (2*k+1) 0).toNat:Nat)):Int)]=dvl (ofL l (k+1)):=by
 rw [dvl_snoc,ofL,ofL,List.range_succ,List.map_append];rfl
theorem ofL_full (l:List UInt8):ofL l 16=mkD fun j=>(l.getD (2*j) 0).toNat+256*(l.getD (2*j+1) 0).toNat:=rfl
theorem ofL_lt (l:List UInt8) (k j:Nat) (h:j<k):(ofL l k).getD j 0<65536:=by
 rw [ofL,qcu _ _ _ h]
 have:=UInt8.toNat_lt (l.getD (2*j) 0);have:=UInt8.toNat_lt (l.getD (2*j+1) 0)
 omega
theorem qcK (s:ByteArray) (i:Nat) (h:i<s.size):s.data.toList.getD i 0=s[i]:=by rw [List.getD_eq_getElem?_getD,Array.getElem?_toList];simp [h];rfl
set_option maxHeartbeats 4000000 in
theorem ofRef_any (s:ByteArray) (w:World) (h:s.size=32) :
  Calls Tryz.prog 137 #[.string s] w fun e w'=>(∃ d',e=.returned (.tuple #[d',.int .i64 0])∧DigAt w' d' (digN (leV s.data.toList 32%pF)))∧Below w.heap.size w w':=by
 obtain ⟨i0,hi,hz0,hz1,hz2⟩:=info_parts qeI
 have hd:((s.size:Int) != 32)=false:=by simp [h]
 have HH:=hid h;have HR:=hid (of_ref s.data.toList);clear h
 go_enter Tryz.func137,Tryz.ntmps137
 go_wp2_with fail
 clear hd;generalize hBB:w.heap.size=B at *;have HBB:=hid hBB
 have hszB:B≤w.heap.size:=by omega
 clear hBB
 go_loopw [4,5] (fun lv iv wr=>∃ (k m:Nat) (ao:Option Addr) (cap:Nat),k≤16∧m=2*k∧iv=.int .i64 (m:Int)∧lv=.slice ao k cap∧Own wr B (.slice ao k cap) (dvl (ofL s.data.toList k))∧Below B w wr∧B≤wr.heap.size) (fun _ iv _=>32-(intOf iv).toNat)
 case atStart=>exact ⟨0,0,none,0,by omega,rfl,rfl,rfl,Own.nil _ _,Below.refl _ _,hszB⟩
 case round=>
  obtain ⟨k,m,ao,cap,hk,hm,rfl,rfl,hown,hb,hsz⟩:=hrel;have HM:=hid hm;have HO:=hid hown
  have HL:=hid (show (dvl (ofL s.data.toList k)).length=k by rw [qdC,qd8])
  clear hown
  by_cases hlt:k<16
  ·have hdk:decide ((m:Int)<32)=true:=by simp;omega
   have hin1:m<s.size:=by rw [HH.out];omega
   have hin2:m+1<s.size:=by rw [HH.out];omega
   have HN:=hid (ofL_snoc s.data.toList k);rw [← hm,qcK s _ hin1,qcK s _ hin2] at HN;have hx:=UInt8.toNat_lt s[m];have hy:=UInt8.toNat_lt s[m+1]
   have hm32:m<32:=by omega
   have htn:((m:Int)+1).toNat=m+1:=by omega
   have hin3:(0:Int)≤(m:Int)+1∧(m:Int)+1<(s.size:Int):=by omega
   have hin4:(m:Int)+1<(s.size:Int):=by omega
   have hin5:(0:Int)≤(m:Int)+1:=by omega
   clear hm
   go_wp2_with fail
   refine qbW 12 (.tmp 4) rfl rfl rfl (by kernel_rfl) (by kernel_rfl) (fun _ _ _ _ h=>h) ?_
   simp only [take_succ_cons,List.take_zero,drop_succ_cons,List.drop_zero]
   repeat (first | go_big_quiet_step (fail) | quiet_step (fail))
   refine wpQuiet_nil ?_
   intro W1 hb1;have HO1:=hid (HO.out.below hb1);have hB1:Below B w W1:=hb.trans (hb1.mono hsz);have hsz1:B≤W1.heap.size:=Nat.le_trans hsz hb1.size
   have hcast:(((s[m].toNat+256*s[m+1].toNat:Nat)):Int)=(s[m].toNat:Int)+256*(s[m+1].toNat:Int):=by omega
   rw [hcast] at HN;clear hcast HO hb hb1 hsz;generalize s[m].toNat=p at *;generalize s[m+1].toNat=q at *;clear hin3 hin4 hin5 htn
   go_wp2_with (at_builtin;refine qaI rfl (.tmp 14) (.tmp 26) 68 rfl B 3 i0 (.int .i64 0) 8 Tryz.underlying68 hi hz0 hz1 hz2 rfl ao k cap _ rfl (HO1.out.alloc _) HL.out ⟨W1.heap.size,0,none⟩ 1 1 [.int .i64 ((p:Int)+256*(q:Int))] rfl rfl (cell_one_new _ _ _) ?b2 ?b3 ?b4 ?b5 ?_)
   case b2=>intro u hu;simp at hu;subst hu;rfl
   case b3=>omega
   case b4=>omega
   case b5=>simp;omega
   intro ao5 cp5 W5 hown5 hgrow5
   have hb5:Below B w W5:=qa9 (hB1.alloc hsz1 _) (by simp;omega) (HO1.out.alloc _) hgrow5
   have hsz5:B≤W5.heap.size:=by have:=hgrow5.size;simp at this;omega
   rw [HN.out] at hown5;clear hgrow5 HO1 hB1
   go_wp2_with fail
   go_roundw
   case rel=>exact ⟨k+1,m+2,ao5,cp5,by omega,by rw [HM.out];omega,by go_num,rfl,hown5,hb5,hsz5⟩
   case measure=>simp [intOf];omega
  ·have hdk:decide ((m:Int)<32)=false:=by simp;omega
   obtain rfl:k=16:=by omega
   obtain ⟨g,gc,hvv,hown,hgl⟩:=HO.out.some (by rw [HL.out];omega)
   have hv2:Value.slice ao 16 cap=.slice (some ⟨g,0,none⟩) 16 gc:=by rw [hvv,HL.out]
   injection hv2 with h1 h2 h3
   subst h1 h3;clear hvv;have hdg:DigAt wr (.slice (some ⟨g,0,none⟩) 16 cap) (ofL s.data.toList 16):=DigAt.of_own hown (qd8 _ _)
   have HBl:=hid (qds _ _ wr hdg (qd8 _ _) (fun j hj=>ofL_lt _ _ _ hj))
   rw [ofL_full,HR.out] at HBl;clear hdg hown HO
   go_wp2_with fail
   refine HBl.out.mono ?_
   rintro e W3 ⟨⟨d',rfl,hd3⟩,hb3⟩;have HD3:=hid hd3;have hb4:Below B w W3:=hb.trans (hb3.mono hsz);clear hd3 hb3 HBl
   go_wp2_with fail
   go_ret2
   exact ⟨⟨_,rfl,HD3.out⟩,by rw [HBB.out];exact hb4⟩
end
section
open Go.RowKit Go.Sort
theorem qfx {W:World} {base n cap:Nat} {ao:Option Addr} {l:List UInt8} (h:Own W base (.slice ao n cap) (Lib.byteCells l)) (hl:l.length=n) (hp:0<n):(convert 41 9 (.slice ao n cap)).run Tryz.prog W=.ok (.string ⟨l.toArray⟩) W:=by
 obtain ⟨g,gc,hv,hown,_⟩:=h.some (by rw [Lib.byteCells_length];omega)
 rw [hv,Lib.byteCells_length]
 exact qbl W g gc l fun j x hx=>hown.cells j _ (by simp [Lib.byteCells,hx])
set_option maxHeartbeats 4000000 in
theorem qfd (da:Value) (x:Nat) (w:World) (ha:DigAt w da (digN x)) :
  Calls Tryz.prog 138 #[da] w fun e w'=>e=.returned (.string ⟨(leF x 32).toArray⟩)∧Below w.heap.size w w':=by
 obtain ⟨i0,hi,hz0,hz1,hz2⟩:=info_parts qcz;obtain ⟨Da,ca,rfl,hca⟩:=ha;have HCA:=hid hca;have HA:=hid (qaS x)
 have HLF:=hid (fun k=>leF_two x k)
 have hla:=block_lt_of_cell (hca 0 (by decide))
 clear hca
 go_enter Tryz.func138,Tryz.ntmps138
 go_wp2_with fail
 generalize hBB:w.heap.size=B at *;have HBB:=hid hBB
 have hszB:B≤w.heap.size:=by omega
 clear hBB
 go_loopw [3,4] (fun lv iv wr=>∃ (k n:Nat) (ao:Option Addr) (cap:Nat),k≤16∧n=2*k∧iv=.int .i64 (k:Int)∧lv=.slice ao n cap∧Own wr B (.slice ao n cap) (Lib.byteCells (leF x n))∧Below B w wr∧B≤wr.heap.size) (fun _ iv _=>16-(intOf iv).toNat)
 case atStart=>exact ⟨0,0,none,0,by omega,rfl,rfl,rfl,Own.nil _ _,Below.refl _ _,hszB⟩
 case round=>
  obtain ⟨k,n,ao,cap,hk,hn,rfl,rfl,hown,hb,hsz⟩:=hrel;have HO:=hid hown
  have HL:=hid (show (Lib.byteCells (leF x n)).length=n by rw [Lib.byteCells_length,qa2])
  clear hown
  by_cases hlt:k<16
  ·have hdk:decide ((k:Int)<16)=true:=by simp;omega
   have c1:=(hb.cell (p:=⟨Da,k,none⟩) hla).trans (HCA.out k hlt);have hd1:=HA.out k hlt;have HN:=hid (HLF.out k);rw [← qbm x k hlt,← hn] at HN;generalize (digN x).getD k 0=d at *
   have hb0:(UInt8.ofNat d).toNat=d%256:=by rw [UInt8.toNat_ofNat']
   have hb1:(UInt8.ofNat (d / 256)).toNat=d / 256%256:=by rw [UInt8.toNat_ofNat']
   have HNS:=hid (show Lib.byteCells (leF x n)++[.int .u8 (((UInt8.ofNat d).toNat:Nat):Int),.int .u8 (((UInt8.ofNat (d / 256)).toNat:Nat):Int)]=Lib.byteCells (leF x (2*(k+1))) by rw [← HN.out,Lib.byteCells_append];rfl)
   generalize UInt8.ofNat d=b0 at *;generalize UInt8.ofNat (d / 256)=b1 at *
   have hv0:(b0.toNat:Int)=(d:Int)%256:=by omega
   have hv1:(b1.toNat:Int)=(d:Int) / 256:=by omega
   have hn32:n≤30:=by omega
   have HNE:=hid (show 2*(k+1)=n+2 by omega)
   rw [hv0,hv1] at HNS;clear HN hb0 hb1 hn hv0 hv1
   go_wp2_with fail
   have ka:=cell_regrown c1
   refine qbW 12 (.tmp 3) rfl rfl rfl (by kernel_rfl) (by kernel_rfl) (fun _ _ _ _ h=>h) ?_
   simp only [take_succ_cons,List.take_zero,drop_succ_cons,List.drop_zero]
   repeat (first | go_big_quiet_step (fail) | quiet_step (fail))
   refine wpQuiet_nil ?_
   intro W1 hb1;have HO1:=hid (HO.out.below hb1);have hB1:Below B w W1:=hb.trans (hb1.mono hsz);have hsz1:B≤W1.heap.size:=Nat.le_trans hsz hb1.size;clear HO hb hb1 hsz ka c1
   go_wp2_with (at_builtin;refine qaI rfl (.tmp 9) (.tmp 21) 41 rfl B 5 i0 (.int .u8 0) 1 Tryz.underlying41 hi hz0 hz1 hz2 rfl ao n cap _ rfl (HO1.out.alloc _) HL.out ⟨W1.heap.size,0,none⟩ 2 2 [.int .u8 ((d:Int)%256),.int .u8 ((d:Int) / 256)] rfl rfl (cell_two_new _ _ _ _) ?b2 ?b3 ?b4 ?b5 ?_)
   case b2=>intro u hu;simp at hu;rcases hu with rfl | rfl <;> rfl
   case b3=>omega
   case b4=>omega
   case b5=>simp;omega
   intro ao5 cp5 W5 hown5 hgrow5
   have hb5:Below B w W5:=qa9 (hB1.alloc hsz1 _) (by simp;omega) (HO1.out.alloc _) hgrow5
   have hsz5:B≤W5.heap.size:=by have:=hgrow5.size;simp at this;omega
   rw [HNS.out,HNE.out] at hown5;clear hgrow5 HO1 hB1
   go_wp2_with fail
   go_roundw
   case rel=>exact ⟨k+1,n+2,ao5,cp5,by omega,HNE.out.symm,by go_num,rfl,hown5,hb5,hsz5⟩
   case measure=>simp [intOf];omega
  ·have hdk:decide ((k:Int)<16)=false:=by simp;omega
   obtain rfl:k=16:=by omega
   obtain rfl:n=32:=by omega
   have hc:=qfx HO.out (qa2 x 32) (by decide)
   generalize hrow:leF x 32=row at *;have HROW:=hid hrow;clear hrow HO HL hn
   go_wp2_with fail
   go_ret
   exact ⟨by rw [HROW.out];rfl,by rw [HBB.out];exact hb⟩
end
section
open Go.RowKit Go.Sort
theorem and_16i (y:Int):bits .and .i64 y 65535=y%65536:=by
 have h16:(BitVec.ofInt 64 65535).toNat=2^16-1:=by decide
 have key:(BitVec.ofInt 64 y &&& BitVec.ofInt 64 65535).toNat=(y%((2^64:Nat):Int)).toNat%2^16:=by
  rw [BitVec.toNat_and,BitVec.toNat_ofInt,h16,Nat.and_two_pow_sub_one_eq_mod]
 show IntKind.i64.wrap ((BitVec.ofInt 64 y &&& BitVec.ofInt 64 65535).toNat:Nat)=_
 rw [key,IntKind.wrap_i64]
 omega
theorem small_part (n:Nat) (h:n<9223372036854775808):qbE (fun j=>n / 65536^j%65536) 4=digN n:=qbG (qcg ..) (qaF _) fun i hi=>by
 rw [partD_get _ _ _ hi,qbm _ _ hi]
 split
 ·rfl
 ·have h4:(65536:Nat)^4≤65536^i:=Nat.pow_le_pow_right (by decide) (by omega)
  rw [Nat.div_eq_of_lt (by
   have:(65536:Nat)^4=18446744073709551616:=by decide
   omega)]
set_option maxHeartbeats 2000000 in
theorem qb2 (n:Nat) (w:World) (h:n<9223372036854775808) :
  Calls Tryz.prog 139 #[.int .i64 (n:Int)] w fun e w'=>(∃ d',e=.returned d'∧DigAt w' d' (digN n))∧Below w.heap.size w w':=by
 have hd:decide ((n:Int)<0)=false:=by simp
 have HZ:=hid (qcD w)
 obtain ⟨f,hf⟩:∃ f:Nat→Nat,f=fun j=>n / 65536^j%65536:=⟨_,rfl⟩
 have HP:=hid (small_part n h);rw [← hf] at HP
 have HF:=hid (fun i (hi:i<4)=>(show bits .and .i64 ((n:Int) / 2^(16*i)) 65535=((f i:Nat):Int) by
  have e:(n:Int) / 2^(16*i)=((n / 65536^i:Nat):Int):=by
   rw [show (65536:Nat)^i=2^(16*i) by rw [Nat.pow_mul]]
   simp
  rw [and_16i,e,hf]
  simp))
 have HO:=hid (show (w.alloc (.cells qaG 3)).heap[w.heap.size]?=some (.cells (dcl (qbE f 0)) 3) from qag w _)
 have hB0:=qah w (.cells qaG 3);clear hf
 go_enter Tryz.func139,Tryz.ntmps139
 go_wp2_with fail
 refine HZ.out.mono ?_
 rintro e W1 ⟨rfl,rfl⟩
 go_wp2_with fail
 clear HZ hd;generalize (w.alloc (.cells qaG 3))=W0 at *;generalize hBB:w.heap.size=O at *;have HBB:=hid hBB;clear hBB
 go_loopw [10] (fun iv wr=>∃ i:Nat,i≤4∧iv=.int .i64 (i:Int)∧wr.heap[O]?=some (.cells (dcl (qbE f i)) 3)∧Below O w wr) (fun iv _=>4-(intOf iv).toNat)
 case atStart=>exact ⟨0,by omega,rfl,HO.out,hB0⟩
 case round=>
  clear HO hB0;obtain ⟨i,hi,rfl,ho,hb⟩:=hrel;have HO:=hid ho;clear ho
  by_cases hlt:i<4
  ·have hd:decide ((i:Int)<4)=true:=by simp;omega
   have HS:=hid (qdR f i (by omega))
   have hpl:=qcg f i;have hv:=HF.out i hlt
   have cx:=qaQ HO.out i (by omega)
   have fx:=frozen_of_row wr O i _ _ HO.out;have r1:=qbn HO.out i (f i);rw [HS.out] at r1;have HO1:=hid r1
   have hb1:Below O w (wr.setCell ⟨O,i,none⟩ (.int .i64 ((f i:Nat):Int))):=hb.setCell (by simp) _
   have h16:(16*(i:Int)).toNat=16*i:=by omega
   clear r1 hb HS;generalize (qbE f i).getD i 0=old at *;generalize hfi:f i=v at *;clear hfi
   go_wp2_with fail
   go_roundw
   case rel=>exact ⟨i+1,by omega,by go_num,HO1.out,hb1⟩
   case measure=>simp [intOf];omega
  ·have hd:decide ((i:Int)<4)=false:=by simp;omega
   obtain rfl:i=4:=by omega
   rw [HP.out] at HO
   go_wp2_with fail
   go_ret
   exact ⟨⟨_,rfl,DigAt.of_block HO.out (qaF _)⟩,by rw [HBB.out];exact hb⟩
set_option maxHeartbeats 4000000 in
theorem smallRefNeg_any (n:Int) (w:World) (h0:n<0) (h:-9223372036854775808≤n) :
  Calls Tryz.prog 139 #[.int .i64 n] w fun e w'=>(∃ d',e=.returned d'∧DigAt w' d' (digN (qcC n)))∧Below w.heap.size w w':=by
 have hd:decide (n<0)=true:=by simpa using h0
 have HZ:=hid (qcD w)
 obtain ⟨f,hf⟩:∃ f:Nat→Nat,f=fun j=>(pF+negE n) / 65536^j%65536:=⟨_,rfl⟩
 have HR:=hid (small_neg_ref n h0 h);rw [← hf] at HR
 have HBd:Hid (qc9 (digN (qcC n))=digN (qcC n)):=hid (by
  rw [qfI _ (qaF _) (qaS _),qbM _ (Nat.lt_trans (smallF_lt n) (by decide)),Nat.mod_eq_of_lt (smallF_lt n)])
 have HST:=hid (fun i (hi:i<16)=>(show ((digN pF).getD i 0+negE n / 65536^i%65536+cyF pF (negE n) i)%65536=f i∧((digN pF).getD i 0+negE n / 65536^i%65536+cyF pF (negE n) i) / 65536=cyF pF (negE n) (i+1)∧(digN pF).getD i 0<65536∧negE n / 65536^i%65536<65536∧((negE n / 65536^i%65536:Nat):Int)=if i>3 then 65535 else n / 65536^i%65536 by
  obtain ⟨s1,s2⟩:=cyF_step pF (negE n) i;have s3:=qaS pF i hi;rw [qbm _ _ hi] at s3 ⊢
  exact ⟨by rw [hf];exact s1,s2,s3,Nat.mod_lt _ (by decide),negE_digit n h0 h i hi⟩))
 have HM:=hid (fun i:Nat=>(show n / 65536^i / 65536=n / 65536^(i+1)∧-9223372036854775808≤n / 65536^i∧n / 65536^i<0 by
  have hp:(0:Int)<65536^i:=Int.pow_pos (by decide)
  refine ⟨by rw [Int.ediv_ediv_of_nonneg (Int.le_of_lt hp),Int.pow_succ],?_,Int.ediv_neg_of_neg_of_pos h0 hp⟩
  have h1:(1:Int)≤65536^i:=hp
  have h2:-9223372036854775808*(65536:Int)^i≤n:=by
   have:-9223372036854775808*(65536:Int)^i≤-9223372036854775808*1:=Int.mul_le_mul_of_nonpos_left (by decide) h1
   omega
  exact (Int.le_ediv_iff_mul_le hp).2 h2))
 have HC:=hid (fun i:Nat=>(show cyF pF (negE n) i≤1 by
  have hp:0<65536^i:=Nat.pow_pos (by decide)
  have h1:=Nat.mod_lt pF hp;have h2:=Nat.mod_lt (negE n) hp
  have:cyF pF (negE n) i<2:=Nat.div_lt_of_lt_mul (by omega)
  omega))
 have hc0:=cyF_zero pF (negE n);have HC0:=hid hc0
 have HO:=hid (show (w.alloc (.cells qaG 3)).heap[w.heap.size]?=some (.cells (dcl (qbE f 0)) 3) from qag w _)
 have hB0:=qah w (.cells qaG 3);clear hf hc0
 go_enter Tryz.func139,Tryz.ntmps139
 go_wp2_with fail
 refine HZ.out.mono ?_
 rintro e W1 ⟨rfl,rfl⟩
 go_wp2_with fail
 clear HZ hd
 have hsz0:(w.alloc (.cells qaG 3)).heap.size=w.heap.size+1:=by simp
 generalize (w.alloc (.cells qaG 3))=Wz at *
 refine (qdG Wz).mono ?_
 rintro e W0 ⟨rfl,hM,hbM⟩;have HMo:=hid hM;have HO:=hid (qaa hbM (qab HO.out) HO.out)
 have hB0:=hB0.trans (hbM.mono (by omega))
 clear hM hbM;rw [hsz0] at HMo ⊢
 go_wp2_with fail
 clear hsz0;generalize hBB:w.heap.size=O at *;have HBB:=hid hBB;clear hBB;generalize cyF pF (negE n)=cy at *;generalize negE n=E at *
 go_loopw [4,5,7] (fun mv bv iv wr=>∃ i:Nat,i≤16∧iv=.int .i64 (i:Int)∧mv=.int .i64 (n / 65536^i)∧bv=.int .i64 ((cy i:Nat):Int)∧wr.heap[O]?=some (.cells (dcl (qbE f i)) 3)∧wr.heap[O+1]?=some (.cells (dcl (digN pF)) 3)∧Below O w wr) (fun _ _ iv _=>16-(intOf iv).toNat)
 case atStart=>exact ⟨0,by omega,rfl,by simp,by rw [HC0.out];rfl,HO.out,HMo.out,hB0⟩
 case round=>
  clear HO HMo hB0;obtain ⟨i,hi,rfl,rfl,rfl,ho,hmo,hb⟩:=hrel;have HO:=hid ho;have HMo:=hid hmo;clear ho hmo
  by_cases hlt:i<16
  ·have hd:decide ((i:Int)<16)=true:=by simp;omega
   obtain ⟨s1,s2,s3,s4,s5⟩:=HST.out i hlt;obtain ⟨m1,m2,m3⟩:=HM.out i;have c1:=HC.out i;have HS:=hid (qdR f i hlt);have hpl:=qcg f i
   have cx:=qaQ HO.out i (by omega)
   have cp:=qaQ HMo.out i (by rw [qaF];exact hlt)
   have fx:=frozen_of_row wr O i _ _ HO.out;have r1:=qbn HO.out i (f i);rw [HS.out] at r1;have HO1:=hid r1
   have HM1:=hid (show (wr.setCell ⟨O,i,none⟩ (.int .i64 ((f i:Nat):Int))).heap[O+1]?=some (.cells (dcl (digN pF)) 3) from by rw [heap_setCell_other _ _ _ _ (by simp)];exact HMo.out)
   have hb1:Below O w (wr.setCell ⟨O,i,none⟩ (.int .i64 ((f i:Nat):Int))):=hb.setCell (by simp) _
   clear r1 hb HS HMo;generalize (qbE f i).getD i 0=old at *;generalize hfi:f i=v at *;generalize (digN pF).getD i 0=p at *;generalize E / 65536^i%65536=e at *;generalize hcc:cy (i+1)=c' at *;have HCC:=hid hcc;generalize cy i=c at *;have HMM:=hid m1;generalize hMn:n / 65536^(i+1)=M' at *;have HMN:=hid hMn;clear hMn;generalize n / 65536^i=M at *
   have hx:((p:Int)+(e:Int)+(c:Int))=((p+e+c:Nat):Int):=by omega
   have a1:bits .and .i64 ((p:Int)+(e:Int)+(c:Int)) 65535=(v:Int):=by rw [and_16i];omega
   have a2:((p:Int)+(e:Int)+(c:Int)) / 65536=(c':Int):=by omega
   have HV:=hid a2;have aM:=and_16i M;clear hfi hcc s1 s2 hx
   by_cases h3:i>3
   ·rw [if_pos h3] at s5
    have hd3:decide ((3:Int)<(i:Int))=true:=by simp;omega
    rw [s5] at a1 HV;clear a2 s5 h3
    go_wp2_with fail
    go_roundw
    case rel=>exact ⟨i+1,by omega,by go_num,by rw [HMN.out],by rw [HCC.out,HV.out],HO1.out,HM1.out,hb1⟩
    case measure=>simp [intOf];omega
   ·rw [if_neg h3] at s5
    have hd3:decide ((3:Int)<(i:Int))=false:=by simp;omega
    rw [s5] at a1 HV;clear a2 s5 h3
    go_wp2_with fail
    go_roundw
    case rel=>exact ⟨i+1,by omega,by go_num,by rw [HMN.out],by rw [HCC.out,HV.out],HO1.out,HM1.out,hb1⟩
    case measure=>simp [intOf];omega
  ·have hd:decide ((i:Int)<16)=false:=by simp;omega
   obtain rfl:i=16:=by omega
   rw [qd7 f,HR.out] at HO;have hdg:DigAt wr (.slice (some ⟨O,0,none⟩) 16 16) (digN (qcC n)):=DigAt.of_block HO.out (qaF _);have HBl:=hid (qds _ _ wr hdg (qaF _) (qaS _));rw [HBd.out] at HBl;have hsO:O≤wr.heap.size:=Nat.le_of_lt (qab HO.out);clear hdg
   go_wp2_with fail
   refine HBl.out.mono ?_
   rintro e W3 ⟨⟨d',rfl,hd3⟩,hb3⟩;have HD3:=hid hd3;have hb4:Below O w W3:=hb.trans (hb3.mono hsO);clear hd3 hb3 HBl
   go_wp2_with fail
   go_ret
   exact ⟨⟨_,rfl,HD3.out⟩,by rw [HBB.out];exact hb4⟩
end
section
open Go.RowKit Go.Sort
theorem and_1i (y:Int):bits .and .i64 y 1=y%2:=by
 have h16:(BitVec.ofInt 64 1).toNat=2^1-1:=by decide
 have key:(BitVec.ofInt 64 y &&& BitVec.ofInt 64 1).toNat=(y%((2^64:Nat):Int)).toNat%2^1:=by
  rw [BitVec.toNat_and,BitVec.toNat_ofInt,h16,Nat.and_two_pow_sub_one_eq_mod]
 show IntKind.i64.wrap ((BitVec.ofInt 64 y &&& BitVec.ofInt 64 1).toNat:Nat)=_
 rw [key,IntKind.wrap_i64]
 omega
theorem pw_bit (n m i:Nat) (hi:i=255-m) (hm:m<256):bits .and .i64 ((((digN n).getD (i / 16) 0:Nat):Int) / 2^(i%16)) 1=if n.testBit (255-m) then 1 else 0:=by
 have h:=digN_bit n i (by omega)
 have e:(((digN n).getD (i / 16) 0:Nat):Int) / 2^(i%16)%2=(((digN n).getD (i / 16) 0 / 2^(i%16)%2:Nat):Int):=by simp
 rw [and_1i,e,h,← hi,Nat.testBit_eq_decide_div_mod_eq]
 rcases (show n / 2^i%2=0∨n / 2^i%2=1 by omega) with h1 | h1 <;> simp [h1]
theorem pw_mul (x n m:Nat):pwF x n m*pwF x n m%pF=mulF (pwF x n m) (pwF x n m):=rfl
set_option maxHeartbeats 4000000 in
theorem qfe (da dn:Value) (x n:Nat) (w:World) (hx:x<pF) (hn:n<2^256) (ha:DigAt w da (digN x)) (hb:DigAt w dn (digN n)) :
  Calls Tryz.prog 192 #[da,dn] w fun e w'=>(∃ d',e=.returned d'∧DigAt w' d' (digN (powF x n)))∧Below w.heap.size w w':=by
 have HA:=hid ha;obtain ⟨Dn,cn,rfl,hcn⟩:=hb;have HCN:=hid hcn;have HX:=hid hx
 have HS:=hid (qb2 1 w (by decide))
 have H0:=hid (pwF_zero x n hn);have HL:Hid (pwF x n 256=powF x n):=hid (pwF_last x n)
 have hln:=block_lt_of_cell (hcn 0 (by decide))
 clear hcn ha hx hn
 go_enter Tryz.func192,Tryz.ntmps192
 go_wp2_with fail
 refine HS.out.mono ?_
 rintro e W0 ⟨⟨d0,rfl,hd0⟩,hb0⟩;rw [← H0.out] at hd0
 go_wp2_with fail
 clear HS H0
 go_loopw [5,6] (fun ov iv wr=>∃ m:Nat,m≤256∧iv=.int .i64 (255-(m:Int))∧DigAt wr ov (digN (pwF x n m))∧Below w.heap.size w wr) (fun _ iv _=>(intOf iv+1).toNat)
 case atStart=>exact ⟨0,by omega,rfl,hd0,hb0⟩
 case round=>
  clear hd0 hb0;obtain ⟨m,hm,rfl,hdo,hb⟩:=hrel;have HDO:=hid hdo;clear hdo
  by_cases hlt:m<256
  ·obtain ⟨i,hi⟩:∃ i,i=255-m:=⟨_,rfl⟩
   have hii:(255:Int)-(m:Int)=(i:Int):=by omega
   have hd:decide ((0:Int)≤(i:Int))=true:=by simp
   have hi256:i<256:=by omega
   have HMI:=hid hi;have HB:=hid (pw_bit n m i hi hlt);have HPS:=hid (pwF_step x n m hlt)
   have HMM:=hid (fun (W:World) (d:Value) (h:DigAt W d (digN (pwF x n m)))=>qaR d d _ _ W (pwF_lt _ _ _) (pwF_lt _ _ _) h h)
   rw [pw_mul] at HPS;have hq1:mulF (pwF x n m) (pwF x n m)<pF:=qaM _ _
   have hcd:=(hb.cell (p:=⟨Dn,i / 16,none⟩) hln).trans (HCN.out (i / 16) (by omega))
   have hdl:=qaS n (i / 16) (by omega)
   rw [hii];clear hi;generalize mulF (pwF x n m) (pwF x n m)=q at *;generalize pwF x n m=p at *;generalize hbt:n.testBit (255-m)=bt at *;clear hbt
   go_wp2_with fail
   refine (HMM.out wr _ HDO.out).mono ?_
   rintro e W1 ⟨⟨d1,rfl,hd1⟩,hb1⟩;have HD1:=hid hd1;have hcd1:=(hb1.cell (p:=⟨Dn,i / 16,none⟩) (Nat.lt_of_lt_of_le hln hb.size)).trans hcd;have hbw:Below w.heap.size w W1:=hb.trans (hb1.mono hb.size);clear hd1 hcd hb hb1 HDO HMM;generalize (digN n).getD (i / 16) 0=dd at *
   have e1:((i:Int) / 16).toNat=i / 16:=by omega
   have e2:((i:Int)%16).toNat=i%16:=by omega
   have hbit:=HB.out;clear HB
   cases bt
   ·have hbit:bits .and .i64 ((dd:Int) / 2^(i%16)) 1=0:=hbit
    have HPS:Hid (pwF x n (m+1)=q):=HPS;rw [← HPS.out] at HD1
    go_wp2_with fail
    go_roundw
    case rel=>exact ⟨m+1,by omega,by congr 1;omega,HD1.out,hbw⟩
    case measure=>simp [intOf] <;> omega
   ·have hbit:bits .and .i64 ((dd:Int) / 2^(i%16)) 1=1:=hbit
    have HPS:Hid (pwF x n (m+1)=mulF q x):=HPS;have HDA:=hid (HA.out.step hbw);have HM2:=hid (qaR _ _ q x W1 hq1 HX.out HD1.out HDA.out);rw [← HPS.out] at HM2
    go_wp2_with fail
    refine HM2.out.mono ?_
    rintro e W2 ⟨⟨d2,rfl,hd2⟩,hb2⟩;have HD2:=hid hd2;have hbw2:Below w.heap.size w W2:=hbw.trans (hb2.mono hbw.size);clear hd2 hb2 HM2 HD1 HDA hcd1
    go_wp2_with fail
    go_roundw
    case rel=>exact ⟨m+1,by omega,by congr 1;omega,HD2.out,hbw2⟩
    case measure=>simp [intOf] <;> omega
  ·obtain rfl:m=256:=by omega
   have hd:decide ((0:Int)≤255-((256:Nat):Int))=false:=by decide
   rw [HL.out] at HDO
   go_wp2_with fail
   go_ret
   exact ⟨⟨_,rfl,HDO.out⟩,hb⟩
theorem pF2_digits:(digN pF).set 0 65515=digN (pF-2):=by decide +kernel
set_option maxHeartbeats 1000000 in
theorem qeS (da:Value) (x:Nat) (w:World) (hx:x<pF) (ha:DigAt w da (digN x)) :
  Calls Tryz.prog 145 #[da] w fun e w'=>(∃ d',e=.returned d'∧DigAt w' d' (digN (invF x)))∧Below w.heap.size w w':=by
 have HX:=hid hx;have HA:=hid ha;have hM:=qdG w;clear hx ha
 go_enter Tryz.func145,Tryz.ntmps145
 go_wp2_with fail
 refine hM.mono ?_
 rintro e W1 ⟨rfl,hm,hb1⟩;have HA1:=hid (HA.out.step hb1)
 have c0:=qaQ hm 0 (by rw [qaF];decide)
 rw [show (digN pF).getD 0 0=65517 by decide +kernel] at c0
 have f0:=frozen_of_row W1 w.heap.size 0 _ _ hm
 have r1:(W1.setCell ⟨w.heap.size,0,none⟩ (.int .i64 65515)).heap[w.heap.size]?=some (.cells (dcl (digN (pF-2))) 3):=by rw [← pF2_digits];exact qbn hm 0 65515
 have hbs:Below w.heap.size w (W1.setCell ⟨w.heap.size,0,none⟩ (.int .i64 65515)):=hb1.setCell (Nat.le_refl _) _;have HA2:=hid (HA.out.step hbs)
 have HN:=hid (show DigAt (W1.setCell ⟨w.heap.size,0,none⟩ (.int .i64 65515)) (.slice (some ⟨w.heap.size,0,none⟩) 16 16) (digN (pF-2)) from DigAt.of_block r1 (qaF _))
 have HP:=hid (qfe da _ x (pF-2) _ HX.out (by decide) HA2.out HN.out)
 rw [show powF x (pF-2)=invF x from rfl] at HP
 clear hM hm r1 HN HA2 HA1
 go_wp2_with fail
 refine HP.out.mono ?_
 rintro e W3 ⟨⟨d',rfl,hd3⟩,hb3⟩;have HD3:=hid hd3;have hb4:Below w.heap.size w W3:=hbs.trans (hb3.mono hbs.size);clear hd3 hb3 HP
 go_wp2_with fail
 go_ret
 exact ⟨⟨_,rfl,HD3.out⟩,hb4⟩
theorem digN_alike (x y:Nat) (hx:x<mF) (hy:y<mF) (h:∀ j,j<16→(digN x).getD j 0=(digN y).getD j 0):x=y:=by
 have:=qbM x hx
 rw [← this,qe8 _ _ 16 h,qbM y hy]
set_option maxHeartbeats 2000000 in
theorem qey (da db:Value) (x y:Nat) (w:World) (hx:x<mF) (hy:y<mF) (ha:DigAt w da (digN x)) (hb:DigAt w db (digN y)) :
  Calls Tryz.prog 146 #[da,db] w fun e w'=>e=.returned (.bool (decide (x=y)))∧Below w.heap.size w w':=by
 obtain ⟨Da,ca,rfl,hca⟩:=ha;obtain ⟨Db,cb,rfl,hcb⟩:=hb;have HCA:=hid hca;have HCB:=hid hcb;have HS:=hid (digN_alike x y hx hy)
 have hla:=block_lt_of_cell (hca 0 (by decide));have hlb:=block_lt_of_cell (hcb 0 (by decide))
 clear hca hcb hx hy
 go_enter Tryz.func146,Tryz.ntmps146
 go_wp2_with fail
 go_loopw [5] (fun iv wr=>∃ i:Nat,i≤16∧iv=.int .i64 (i:Int)∧(∀ j,j<i→(digN x).getD j 0=(digN y).getD j 0)∧Below w.heap.size w wr) (fun iv _=>16-(intOf iv).toNat)
 case atStart=>exact ⟨0,by omega,rfl,fun j hj=>absurd hj (by omega),Below.refl _ _⟩
 case round=>
  obtain ⟨i,hi,rfl,hs,hb⟩:=hrel;have HE:=hid hs;clear hs
  by_cases hlt:i<16
  ·have hd:decide ((i:Int)<16)=true:=by simp;omega
   have c1:=(hb.cell (p:=⟨Da,i,none⟩) hla).trans (HCA.out i hlt);have c2:=(hb.cell (p:=⟨Db,i,none⟩) hlb).trans (HCB.out i hlt)
   by_cases hne:(digN x).getD i 0=(digN y).getD i 0
   ·have HE2:Hid (∀ j,j<i+1→(digN x).getD j 0=(digN y).getD j 0):=hid (fun j hj=>by
     by_cases hji:j=i
     ·rw [hji];exact hne
     ·exact HE.out j (by omega))
    generalize (digN x).getD i 0=p at *;generalize (digN y).getD i 0=q at *
    have hq:((p:Int) != (q:Int))=false:=by simp [hne]
    clear hne
    go_wp2_with fail
    go_quiet (fail)
    go_wp2_with fail
    go_roundw
    case rel=>exact ⟨i+1,by omega,by go_num,HE2.out,below_drewN hb _⟩
    case measure=>simp [intOf];omega
   ·have hxy:decide (x=y)=false:=by
     simp only [decide_eq_false_iff_not]
     intro e;exact hne (by rw [e])
    have HXY:=hid hxy;generalize (digN x).getD i 0=p at *;generalize (digN y).getD i 0=q at *
    have hq:((p:Int) != (q:Int))=true:=by simp;omega
    clear hne hxy
    go_wp2_with fail
    go_quiet (fail)
    go_wp2_with fail
    go_ret
    exact ⟨by rw [HXY.out];rfl,below_drewN hb _⟩
  ·have hd:decide ((i:Int)<16)=false:=by simp;omega
   obtain rfl:i=16:=by omega
   have hxy:decide (x=y)=true:=by simp only [decide_eq_true_eq];exact HS.out HE.out
   have HXY:=hid hxy;clear hxy
   go_wp2_with fail
   go_ret
   exact ⟨by rw [HXY.out];rfl,hb⟩
end
section
open Go.RowKit Go.Sort
theorem or_i64 (a b:Nat) (ha:a<65536) (hb:b<65536):bits .or .i64 (a:Int) (b:Int)=((a ||| b:Nat):Int):=by
 have key:(BitVec.ofInt 64 (a:Int) ||| BitVec.ofInt 64 (b:Int)).toNat=a ||| b:=by
  rw [BitVec.toNat_or,BitVec.toNat_ofInt,BitVec.toNat_ofInt]
  rw [show ((a:Int)%((2^64:Nat):Int)).toNat=a by omega,show ((b:Int)%((2^64:Nat):Int)).toNat=b by omega]
 show IntKind.i64.wrap ((BitVec.ofInt 64 (a:Int) ||| BitVec.ofInt 64 (b:Int)).toNat:Nat)=_
 rw [key,IntKind.wrap_i64]
 have:=Nat.or_lt_two_pow (n:=16) ha hb
 omega
theorem half_low (x j:Nat) (hj:j<15) (hx:x<mF):bits .or .i64 ((((digN x).getD j 0:Nat):Int) / 2) ((((digN x).getD (j+1) 0:Nat):Int)%2*32768)=(((digN (x / 2)).getD j 0:Nat):Int):=by
 have h1:=qaS x j (by omega);have h2:=qaS x (j+1) (by omega)
 have h:=half_ref x j (by omega) hx
 rw [if_pos hj] at h
 have e1:(((digN x).getD j 0:Nat):Int) / 2=(((digN x).getD j 0 / 2:Nat):Int):=by omega
 have e2:(((digN x).getD (j+1) 0:Nat):Int)%2*32768=(((digN x).getD (j+1) 0%2*32768:Nat):Int):=by omega
 rw [e1,e2,or_i64 _ _ (by omega) (by omega),h]
theorem half_top (x:Nat) (hx:x<mF):(((digN x).getD 15 0:Nat):Int) / 2=(((digN (x / 2)).getD 15 0:Nat):Int):=by
 have h:=half_ref x 15 (by omega) hx
 rw [if_neg (by omega),Nat.or_zero] at h
 omega
set_option maxHeartbeats 4000000 in
theorem qfR (dn:Value) (n t:Nat) (w:World) (hn:n<mF) (ht:t≤10) (ha:DigAt w dn (digN n)) :
  Calls Tryz.prog 193 #[dn,.int .i64 (t:Int)] w fun e w'=>(∃ d',e=.returned d'∧DigAt w' d' (digN (n / 2^t)))∧Below w.heap.size w w':=by
 have HA:=hid ha;have HN:=hid hn;clear ha hn
 go_enter Tryz.func193,Tryz.ntmps193
 go_wp2_with fail
 go_loopw [0,5] (fun dv kv wr=>∃ k:Nat,k≤t∧kv=.int .i64 (k:Int)∧DigAt wr dv (digN (n / 2^k))∧Below w.heap.size w wr) (fun _ kv _=>t-(intOf kv).toNat)
 case atStart=>exact ⟨0,by omega,rfl,by simpa using HA.out,Below.refl _ _⟩
 case round=>
  clear HA;obtain ⟨k,hk,rfl,hdv,hb⟩:=hrel;have HDV:=hid hdv
  by_cases hkt:k<t
  ·have hdk:decide ((k:Int)<(t:Int))=true:=by simp;omega
   have hx:n / 2^k<mF:=Nat.lt_of_le_of_lt (Nat.div_le_self _ _) HN.out
   have HNX:Hid (n / 2^(k+1)=n / 2^k / 2):=hid (by rw [Nat.pow_succ,Nat.div_div_eq_div_mul])
   have HLow:=hid (fun j (hj:j<15)=>half_low (n / 2^k) j hj hx)
   have HTop:=hid (half_top (n / 2^k) hx);have HXl:=hid (qaS (n / 2^k));generalize n / 2^k=x at *
   obtain ⟨f,hf⟩:∃ f:Nat→Nat,f=fun j=>(digN (x / 2)).getD j 0:=⟨_,rfl⟩
   have HF:=hid (fun j=>(show (digN (x / 2)).getD j 0=f j by rw [hf]))
   have HFull:=hid (show mkD f=digN (x / 2) from qbG (qbe _) (qaF _) fun i hi=>by rw [qbf _ _ hi,hf])
   obtain ⟨Dn,cn,rfl,hcn⟩:=hdv;have HCN:=hid hcn
   have hln:=block_lt_of_cell (hcn 0 (by decide))
   have HZ:=hid (qcD wr)
   have HO:=hid (show (wr.alloc (.cells qaG 3)).heap[wr.heap.size]?=some (.cells (dcl (qbE f 0)) 3) from qag wr _)
   have hB0:=qah wr (.cells qaG 3);clear hcn hf hx
   go_wp2_with fail
   refine HZ.out.mono ?_
   rintro e W1 ⟨rfl,rfl⟩
   go_wp2_with fail
   clear HZ;generalize (wr.alloc (.cells qaG 3))=W0 at *;generalize wr=V at *;generalize hOO:V.heap.size=O at *;have HOO:=hid hOO
   have hwO:w.heap.size≤O:=by rw [← hOO];exact hb.size
   clear hOO
   go_loopw [7] (fun iv wr=>∃ i:Nat,i≤16∧iv=.int .i64 (i:Int)∧wr.heap[O]?=some (.cells (dcl (qbE f i)) 3)∧Below O V wr) (fun iv _=>16-(intOf iv).toNat)
   case atStart=>exact ⟨0,by omega,rfl,HO.out,hB0⟩
   case round=>
    clear HO hB0;obtain ⟨i,hi,rfl,ho,hbo⟩:=hrel;have HO:=hid ho;clear ho
    by_cases hlt:i<16
    ·have hdi:decide ((i:Int)<16)=true:=by simp;omega
     have c1:=(hbo.cell (p:=⟨Dn,i,none⟩) hln).trans (HCN.out i hlt);have hd1:=HXl.out i hlt;have HS:=hid (qdR f i hlt);have hpl:=qcg f i
     have cx:=qaQ HO.out i (by omega)
     have fx:=frozen_of_row wr O i _ _ HO.out
     by_cases h15:i<15
     ·have hd15:decide ((i:Int)<15)=true:=by simp;omega
      have hv:=HLow.out i h15;rw [HF.out] at hv
      have c2:=(hbo.cell (p:=⟨Dn,i+1,none⟩) hln).trans (HCN.out (i+1) (by omega))
      have hd2:=HXl.out (i+1) (by omega)
      generalize (digN x).getD i 0=d at *;generalize (digN x).getD (i+1) 0=e at *
      have hh:(d:Int) / 2=((d / 2:Nat):Int):=by omega
      have r1:(wr.setCell ⟨O,i,none⟩ (.int .i64 ((d:Int) / 2))).heap[O]?=some (.cells (dcl ((qbE f i).set i (d / 2))) 3):=by rw [hh];exact qbn HO.out i (d / 2)
      have cr:(wr.setCell ⟨O,i,none⟩ (.int .i64 ((d:Int) / 2))).cell? ⟨O,i,none⟩=some (.int .i64 ((d:Int) / 2)):=World.cell?_setCell_same _ _ _ cx
      have c2':(wr.setCell ⟨O,i,none⟩ (.int .i64 ((d:Int) / 2))).cell? ⟨Dn,i+1,none⟩=some (.int .i64 (e:Int)):=by rw [World.cell?_setCell_other _ _ _ _ (by simp <;> omega)];exact c2
      have hb1:Below O V (wr.setCell ⟨O,i,none⟩ (.int .i64 ((d:Int) / 2))):=hbo.setCell (Nat.le_refl _) _;have HR1:=hid r1
      have h1n:((i:Int)+1).toNat=i+1:=by omega
      have h1b:(0:Int)≤(i:Int)+1:=by omega
      have h1c:(i:Int)+1<16:=by omega
      clear r1 hh c2 hbo HO
      go_wp2_with fail
      clear c1 cx fx;generalize (wr.setCell ⟨O,i,none⟩ (.int .i64 ((d:Int) / 2)))=V1 at *;have ka:=cell_regrown cr;have kb:=cell_regrown c2'
      refine qap 15 (by kernel_rfl) (by kernel_rfl) ?_
      simp only [take_succ_cons,List.take_zero,drop_succ_cons,List.drop_zero]
      repeat (first | go_big_quiet_step (fail) | quiet_step (fail))
      refine wpQuiet_nil ?_
      intro W1 hw1;have hO1:=qaa hw1 (qab HR1.out) HR1.out;have hbl1:Below O V W1:=hb1.trans (hw1.mono (Nat.le_of_lt (qab HR1.out)))
      have cz:=qaQ hO1 i (by rw [List.length_set];omega)
      have fz:=frozen_of_row W1 O i _ _ hO1
      have s1:(W1.setCell ⟨O,i,none⟩ (.int .i64 ((f i:Nat):Int))).heap[O]?=some (.cells (dcl (qbE f (i+1))) 3):=by
       have:=qbn hO1 i (f i)
       rw [List.set_set,HS.out] at this;exact this
      have HS1:=hid s1;have hbl2:Below O V (W1.setCell ⟨O,i,none⟩ (.int .i64 ((f i:Nat):Int))):=hbl1.setCell (Nat.le_refl _) _;generalize ((qbE f i).set i (d / 2)).getD i 0=old at *;generalize f i=fi at *;clear s1 ka kb cr c2' hw1 hO1 hb1 hbl1
      go_wp2_with fail
      go_roundw
      case rel=>exact ⟨i+1,by omega,by go_num,HS1.out,hbl2⟩
      case measure=>simp [intOf];omega
     ·obtain rfl:i=15:=by omega
      have hd15:decide (((15:Nat):Int)<15)=false:=by decide
      have hv:=HTop.out;rw [HF.out] at hv;generalize (digN x).getD 15 0=d at *
      have r1:(wr.setCell ⟨O,15,none⟩ (.int .i64 ((d:Int) / 2))).heap[O]?=some (.cells (dcl (qbE f 16)) 3):=by
       rw [hv,← HS.out];exact qbn HO.out 15 (f 15)
      have HR1:=hid r1;have hb1:Below O V (wr.setCell ⟨O,15,none⟩ (.int .i64 ((d:Int) / 2))):=hbo.setCell (Nat.le_refl _) _;clear r1 hbo hv
      go_wp2_with fail
      go_roundw
      case rel=>exact ⟨16,by omega,by go_num,HR1.out,hb1⟩
      case measure=>simp [intOf]
    ·have hdi:decide ((i:Int)<16)=false:=by simp;omega
     obtain rfl:i=16:=by omega
     rw [qd7 f,HFull.out,← HNX.out] at HO
     have HD2:=hid (show DigAt wr (.slice (some ⟨O,0,none⟩) 16 16) (digN (n / 2^(k+1))) from DigAt.of_block HO.out (qaF _))
     have hb2:Below w.heap.size w wr:=hb.trans (hbo.mono hwO)
     go_wp2_with fail
     go_roundw
     case rel=>exact ⟨k+1,by omega,by go_num,HD2.out,hb2⟩
     case measure=>simp [intOf];omega
  ·have hdk:decide ((k:Int)<(t:Int))=false:=by simp;omega
   obtain rfl:k=t:=by omega
   go_wp2_with fail
   go_ret
   exact ⟨⟨_,rfl,HDV.out⟩,hb⟩
theorem pF3_digits:(digN pF).set 0 65520=digN (pF+3):=by decide +kernel
theorem pF1_digits:(digN pF).set 0 65516=digN (pF-1):=by decide +kernel
theorem pF_low:(digN pF).getD 0 0=65517:=by decide +kernel
def evenR (x:Nat):Nat:=if x%2=1 then subF 0 x else x
theorem rootR_same (x:Nat) (h:mulF (qa7 x) (qa7 x)=x):qa6 x=(evenR (qa7 x),true):=by
 have hy:qa8 x=qa7 x:=if_pos h;rw [qa6,hy,if_pos h]
 rfl
theorem rootR_other (x:Nat) (h:¬ mulF (qa7 x) (qa7 x)=x):mulF (qa7 x) (powF 2 ((pF-1) / 2^2))=qa8 x:=(if_neg h).symm
theorem rootR_yes (x:Nat) (h:mulF (qa8 x) (qa8 x)=x):qa6 x=(evenR (qa8 x),true):=by rw [qa6,if_pos h];rfl
theorem rootR_no (x:Nat) (h:¬ mulF (qa8 x) (qa8 x)=x):qa6 x=(0,false):=by rw [qa6,if_neg h]
theorem rootXr_lt (x:Nat):qa7 x<pF:=qaU _ _
set_option maxHeartbeats 4000000 in
theorem rootRef_any (da:Value) (x:Nat) (w:World) (hx:x<pF) (ha:DigAt w da (digN x)) :
  Calls Tryz.prog 144 #[da] w fun e w'=>(∃ d',e=.returned (.tuple #[d',.bool (qa6 x).2])∧DigAt w' d' (digN (qa6 x).1))∧Below w.heap.size w w':=by
 have HX:=hid hx;have HA:=hid ha;have hM:=qdG w;clear hx ha
 go_enter Tryz.func144,Tryz.ntmps144
 go_wp2_with fail
 refine hM.mono ?_
 rintro e W1 ⟨rfl,hm,hb1⟩
 have c0:=qaQ hm 0 (by rw [qaF];decide)
 rw [pF_low] at c0;have f0:=frozen_of_row W1 w.heap.size 0 _ _ hm
 have r1:(W1.setCell ⟨w.heap.size,0,none⟩ (.int .i64 65520)).heap[w.heap.size]?=some (.cells (dcl (digN (pF+3))) 3):=by rw [← pF3_digits];exact qbn hm 0 65520
 have hb:Below w.heap.size w (W1.setCell ⟨w.heap.size,0,none⟩ (.int .i64 65520)):=hb1.setCell (Nat.le_refl _) _
 have HN:=hid (show DigAt (W1.setCell ⟨w.heap.size,0,none⟩ (.int .i64 65520)) (.slice (some ⟨w.heap.size,0,none⟩) 16 16) (digN (pF+3)) from DigAt.of_block r1 (qaF _))
 clear hM hm r1 hb1
 go_wp2_with fail
 clear c0 f0;generalize W1.setCell _ _=W2 at *
 refine (qfR _ (pF+3) 3 W2 (by decide) (by omega) HN.out).mono ?_
 rintro e W3 ⟨⟨d3,rfl,q3⟩,b3⟩;have HD3:=hid q3;have hb:=hb.trans (b3.mono hb.size);clear q3 b3 HN
 go_wp2_with fail
 have HA3:=hid (HA.out.step hb)
 refine (qfe _ _ x ((pF+3) / 2^3) W3 HX.out (by decide) HA3.out HD3.out).mono ?_
 rintro e W4 ⟨⟨d4,rfl,q4⟩,b4⟩
 rw [show powF x ((pF+3) / 2^3)=qa7 x from rfl] at q4
 have HD4:=hid q4;have hb:=hb.trans (b4.mono hb.size);clear q4 b4 HD3 HA3;have hXl:=rootXr_lt x;have hYl:=rootY_lt x;have HV1:=hid (rootR_same x);have HV2:=hid (rootR_other x);have HV3:=hid (rootR_yes x);have HV4:=hid (rootR_no x);generalize qa7 x=X at *;generalize qa8 x=Y at *
 go_wp2_with fail
 have HAn:=hid (HA.out.step hb)
 refine (qaR _ _ X X _ hXl hXl HD4.out HD4.out).mono ?_
 rintro e Wm ⟨⟨dm,rfl,qm⟩,bm⟩;have HMm:=hid qm;have HD4:=hid (HD4.out.step bm);have HAn:=hid (HAn.out.step bm);have hb:=hb.trans (bm.mono hb.size);clear qm bm
 go_wp2_with fail
 refine (qey _ _ (mulF X X) x _ (Nat.lt_trans (qaM _ _) (by decide)) (Nat.lt_trans HX.out (by decide)) HMm.out HAn.out).mono ?_
 rintro e Ws ⟨rfl,bs⟩;have HD4:=hid (HD4.out.step bs);have HAn:=hid (HAn.out.step bs);have hb:=hb.trans (bs.mono hb.size);clear bs HMm
 by_cases hc:mulF X X=x
 ·have hcc:decide (mulF X X=x)=true:=decide_eq_true hc
  have HCc:=hid hc;rw [hcc];clear hcc
  go_wp2_with fail
  have HAn:=hid (HA.out.step hb)
  refine (qaR _ _ X X _ hXl hXl HD4.out HD4.out).mono ?_
  rintro e Wm ⟨⟨dm,rfl,qm⟩,bm⟩;have HMm:=hid qm;have HD4:=hid (HD4.out.step bm);have HAn:=hid (HAn.out.step bm);have hb:=hb.trans (bm.mono hb.size);clear qm bm
  go_wp2_with fail
  refine (qey _ _ (mulF X X) x _ (Nat.lt_trans (qaM _ _) (by decide)) (Nat.lt_trans HX.out (by decide)) HMm.out HAn.out).mono ?_
  rintro e Ws ⟨rfl,bs⟩;have HD4:=hid (HD4.out.step bs);have HAn:=hid (HAn.out.step bs);have hb:=hb.trans (bs.mono hb.size);clear bs HMm;rw [decide_eq_true hc];have HV:=hid (HV1.out hc);obtain ⟨Dy,cy,rfl,hcy⟩:=HD4.out
  have c0:=hcy 0 (by decide)
  have hp:(digN X).getD 0 0%2=X%2:=by rw [qbm _ _ (by decide),Nat.pow_zero,Nat.div_one];omega
  have hl0:=qaS X 0 (by decide)
  have HY0:=hid (show evenR X=if X%2=1 then subF 0 X else X from rfl)
  have hE:=hb
  by_cases hodd:X%2=1
  ·rw [if_pos hodd] at HY0
   have hd1:((((digN X).getD 0 0:Nat):Int)%2==1)=true:=by simp only [beq_iff_eq];omega
   generalize (digN X).getD 0 0=d0 at *;clear hp hcy hodd
   go_wp2_with fail
   refine (qcD _).mono ?_
   rintro e Wz ⟨rfl,rfl⟩;have bz:=qah Ws (.cells qaG 3);have HYz:=hid (HD4.out.step bz)
   have HZz:=hid (show DigAt (Ws.alloc (.cells qaG 3)) (.slice (some ⟨Ws.heap.size,0,none⟩) 16 16) (digN 0) from DigAt.of_block (l:=digN 0) (qag Ws _) (qaF _))
   have hb:=hb.trans (bz.mono hb.size);clear bz
   go_wp2_with fail
   refine (qcJ _ _ 0 X _ (by decide) hXl HZz.out HYz.out).mono ?_
   rintro e Wf ⟨⟨df,rfl,qf⟩,bf⟩;rw [← HY0.out] at qf;have HF:=hid qf;have hb:=hb.trans (bf.mono hb.size);clear qf bf HYz HZz
   go_wp2_with fail
   go_ret2
   exact ⟨⟨_,by rw [HV.out];rfl,by rw [HV.out];exact HF.out⟩,hb⟩
  ·rw [if_neg hodd] at HY0
   have hd1:((((digN X).getD 0 0:Nat):Int)%2==1)=false:=by simp only [beq_eq_false_iff_ne,ne_eq];omega
   generalize (digN X).getD 0 0=d0 at *;clear hp hcy hodd
   go_wp2_with fail
   go_ret2
   exact ⟨⟨_,by rw [HV.out];rfl,by rw [HV.out];show DigAt _ _ (digN (evenR X));rw [HY0.out];exact HD4.out⟩,hb⟩
 ·have HM:=hid (HV2.out hc)
  rw [decide_eq_false hc];clear hc HV1 HV2
  go_wp2_with fail
  refine (qdG _).mono ?_
  rintro e W5 ⟨rfl,hm,hb5⟩
  have c0:=qaQ hm 0 (by rw [qaF];decide)
  rw [pF_low] at c0;have f0:=frozen_of_row W5 Ws.heap.size 0 _ _ hm
  have r1:(W5.setCell ⟨Ws.heap.size,0,none⟩ (.int .i64 65516)).heap[Ws.heap.size]?=some (.cells (dcl (digN (pF-1))) 3):=by rw [← pF1_digits];exact qbn hm 0 65516
  have hb6:Below Ws.heap.size Ws (W5.setCell ⟨Ws.heap.size,0,none⟩ (.int .i64 65516)):=hb5.setCell (Nat.le_refl _) _
  have HN:=hid (show DigAt (W5.setCell ⟨Ws.heap.size,0,none⟩ (.int .i64 65516)) (.slice (some ⟨Ws.heap.size,0,none⟩) 16 16) (digN (pF-1)) from DigAt.of_block r1 (qaF _))
  have HD5:=hid (HD4.out.step hb6);have hb:=hb.trans (hb6.mono hb.size);clear hm r1 hb5 hb6
  go_wp2_with fail
  clear c0 f0;generalize Ws.heap.size=S at *;generalize W5.setCell _ _=W6 at *
  refine (qb2 2 W6 (by decide)).mono ?_
  rintro e W7 ⟨⟨d7,rfl,q7⟩,b7⟩;have HD7:=hid q7;have HN:=hid (HN.out.step b7);have HD5:=hid (HD5.out.step b7);have hb:=hb.trans (b7.mono hb.size);clear q7 b7
  go_wp2_with fail
  refine (qfR _ (pF-1) 2 W7 (by decide) (by omega) HN.out).mono ?_
  rintro e W8 ⟨⟨d8,rfl,q8⟩,b8⟩;have HD8:=hid q8;have HD7:=hid (HD7.out.step b8);have HD5:=hid (HD5.out.step b8);have hb:=hb.trans (b8.mono hb.size);clear q8 b8 HN
  go_wp2_with fail
  refine (qfe _ _ 2 ((pF-1) / 2^2) W8 (by decide) (by decide) HD7.out HD8.out).mono ?_
  rintro e W9 ⟨⟨d9,rfl,q9⟩,b9⟩;have HD9:=hid q9;have HD5:=hid (HD5.out.step b9);have hb:=hb.trans (b9.mono hb.size);clear q9 b9 HD7 HD8
  go_wp2_with fail
  refine (qaR _ _ X (powF 2 ((pF-1) / 2^2)) W9 hXl (qaU _ _) HD5.out HD9.out).mono ?_
  rintro e Wa ⟨⟨dy,rfl,qy⟩,b9⟩;rw [HM.out] at qy;have HDY:=hid qy;have hb:=hb.trans (b9.mono hb.size);clear qy b9 HD5 HD9 HM
  go_wp2_with fail
  have HAn:=hid (HA.out.step hb)
  refine (qaR _ _ Y Y _ hYl hYl HDY.out HDY.out).mono ?_
  rintro e Wm ⟨⟨dm,rfl,qm⟩,bm⟩;have HMm:=hid qm;have HDY:=hid (HDY.out.step bm);have HAn:=hid (HAn.out.step bm);have hb:=hb.trans (bm.mono hb.size);clear qm bm
  go_wp2_with fail
  refine (qey _ _ (mulF Y Y) x _ (Nat.lt_trans (qaM _ _) (by decide)) (Nat.lt_trans HX.out (by decide)) HMm.out HAn.out).mono ?_
  rintro e Ws ⟨rfl,bs⟩;have HDY:=hid (HDY.out.step bs);have HAn:=hid (HAn.out.step bs);have hb:=hb.trans (bs.mono hb.size);clear bs HMm
  by_cases hc:mulF Y Y=x
  ·skip
   rw [decide_eq_true hc];have HV:=hid (HV3.out hc);obtain ⟨Dy,cy,rfl,hcy⟩:=HDY.out
   have c0:=hcy 0 (by decide)
   have hp:(digN Y).getD 0 0%2=Y%2:=by rw [qbm _ _ (by decide),Nat.pow_zero,Nat.div_one];omega
   have hl0:=qaS Y 0 (by decide)
   have HY0:=hid (show evenR Y=if Y%2=1 then subF 0 Y else Y from rfl)
   have hE:=hb
   by_cases hodd:Y%2=1
   ·rw [if_pos hodd] at HY0
    have hd1:((((digN Y).getD 0 0:Nat):Int)%2==1)=true:=by simp only [beq_iff_eq];omega
    generalize (digN Y).getD 0 0=d0 at *;clear hp hcy hodd
    go_wp2_with fail
    refine (qcD _).mono ?_
    rintro e Wz ⟨rfl,rfl⟩;have bz:=qah Ws (.cells qaG 3);have HYz:=hid (HDY.out.step bz)
    have HZz:=hid (show DigAt (Ws.alloc (.cells qaG 3)) (.slice (some ⟨Ws.heap.size,0,none⟩) 16 16) (digN 0) from DigAt.of_block (l:=digN 0) (qag Ws _) (qaF _))
    have hb:=hb.trans (bz.mono hb.size);clear bz
    go_wp2_with fail
    refine (qcJ _ _ 0 Y _ (by decide) hYl HZz.out HYz.out).mono ?_
    rintro e Wf ⟨⟨df,rfl,qf⟩,bf⟩;rw [← HY0.out] at qf;have HF:=hid qf;have hb:=hb.trans (bf.mono hb.size);clear qf bf HYz HZz
    go_wp2_with fail
    go_ret2
    exact ⟨⟨_,by rw [HV.out];rfl,by rw [HV.out];exact HF.out⟩,hb⟩
   ·rw [if_neg hodd] at HY0
    have hd1:((((digN Y).getD 0 0:Nat):Int)%2==1)=false:=by simp only [beq_eq_false_iff_ne,ne_eq];omega
    generalize (digN Y).getD 0 0=d0 at *;clear hp hcy hodd
    go_wp2_with fail
    go_ret2
    exact ⟨⟨_,by rw [HV.out];rfl,by rw [HV.out];show DigAt _ _ (digN (evenR Y));rw [HY0.out];exact HDY.out⟩,hb⟩
  ·have HV:=hid (HV4.out hc)
   rw [decide_eq_false hc]
   go_wp2_with fail
   refine (qcD _).mono ?_
   rintro e Wz ⟨rfl,rfl⟩;have bz:=qah Ws (.cells qaG 3)
   have HZz:=hid (show DigAt (Ws.alloc (.cells qaG 3)) (.slice (some ⟨Ws.heap.size,0,none⟩) 16 16) (digN 0) from DigAt.of_block (l:=digN 0) (qag Ws _) (qaF _))
   have hb:=hb.trans (bz.mono hb.size);clear bz
   go_wp2_with fail
   go_ret2
   exact ⟨⟨_,by rw [HV.out];rfl,by rw [HV.out];exact HZz.out⟩,hb⟩
end
end Go.Proofs.YteomfleofeeofaaGreatDoor
