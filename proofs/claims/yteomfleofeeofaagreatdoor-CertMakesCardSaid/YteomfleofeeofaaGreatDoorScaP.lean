/- The program's sums and products of limbs, and the carries: times, plus, carried; The program's carries; The program's remainder: less, reduced. The order lies in its variable; The program's products of numbers and bytes: scaled, numberOf; The program's number of bytes, and its bytes of a number; The program's bytes of a number; The program's Wide, Right and MulAdd. -/
import Derived.Test.YteomfleofeeofaaGreatDoorScaA
import Derived.Test.YteomfleofeeofaaGreatDoorFldP
import Derived.Test.YteomfleofeeofaaGreatDoorBase
namespace Go.Proofs.YteomfleofeeofaaGreatDoor
open Go.Lib (hid)
open _root_.List (take_succ_cons drop_succ_cons)
open _root_.Array (getD_eq_getD_getElem?)
set_option maxRecDepth 100000
set_option linter.unusedSimpArgs false
set_option linter.unusedVariables false
section
open Go.RowKit Go.Sort
def ic (l:List Int):Array Value:=(l.map fun x:Int=>Value.int .i64 x).toArray
theorem ic_size (l:List Int):(ic l).size=l.length:=by simp [ic]
theorem ic_get (l:List Int) (j:Nat) (h:j<l.length):(ic l)[j]?=some (.int .i64 (l.getD j 0)):=by simp [ic,h]
theorem ic_set (l:List Int) (j:Nat) (x:Int):(ic l).setIfInBounds j (.int .i64 x)=ic (l.set j x):=by simp [ic,List.map_set]
theorem ic_one (l:List Int):(ic l).all (·.oneCell')=true:=by
 rw [Array.all_eq_true];intro i hi
 simp [ic,Value.oneCell']
theorem qcT {W:World} {B:Nat} {l:List Int} {T:TypeId} {fr:Nat×Nat} (h:W.heap[B]?=some (.cells (ic l) T fr)) (j:Nat) (hj:j<l.length):W.cell? ⟨B,j,none⟩=some (.int .i64 (l.getD j 0)):=by rw [cell_of_row W _ _ _ _ _ h];exact ic_get l j hj
theorem qex {W:World} {B:Nat} {l:List Int} {T:TypeId} (h:W.heap[B]?=some (.cells (ic l) T)) (j:Nat) (x:Int):(W.setCell ⟨B,j,none⟩ (.int .i64 x)).heap[B]?=some (.cells (ic (l.set j x)) T):=by rw [← ic_set];exact Go.heap_setCell_same _ _ _ _ _ _ h
def izeros8:Array Value:=ic (List.replicate 8 0)
theorem infoN:(Tryz.prog.info? 113).map (fun i=>(i.zero,i.size))=some (some (.agg izeros8),8):=by kernel_rfl
theorem sizeN (l:List Int) (h:l.length=8):(Tryz.prog.info? 113).map (·.size)=some (ic l).size:=by rw [ic_size,h];exact (zero_of_info infoN).2
theorem qd6 (l:List Int) (h:l.length=8):izeros8.size=(ic l).size:=by rw [ic_size,h];exact ic_size _
set_option maxHeartbeats 1000000 in
theorem qf6 (l:List Int) (v:Int) (w:World) (hl:l.length=8) (hlo:∀ j,j<8→-9223372036854775808≤l.getD j 0*v∧l.getD j 0*v<9223372036854775808) :
  Calls Tryz.prog 174 #[.agg (ic l),.int .i64 v] w fun e w'=>e=.returned (.agg (ic (tmI l v)))∧Below w.heap.size w w':=by
 obtain ⟨hz,hi⟩:=zero_of_info infoN;have HG0:=hid (qaj (o:=.cells izeros8 113) (qag w (.cells (ic l) 113)));have HR0:=hid (qaw w (.cells (ic l) 113) (.cells izeros8 113));have hb0:=qaP w (.cells (ic l) 113) (.cells izeros8 113);obtain ⟨m,hm⟩:∃ m,m=tmI l v:=⟨_,rfl⟩;have HM:=hid hm
 have hml:m.length=8:=by rw [hm,qc4,hl]
 have HMG:=hid (fun j=>show m.getD j 0=l.getD j 0*v by rw [hm,tmI_get])
 have HL:=hid hl;have HML:=hid hml;have HLO:=hid hlo;have HZ0:=hid (mixI_zero l m);clear hi hm hl hml hlo
 go_enter Tryz.func174,Tryz.ntmps174
 go_wp2_with fail
 clear hz;generalize ((w.alloc _).alloc _)=W0 at *;generalize hBB:w.heap.size=B at *;have HBB:=hid hBB;clear hBB
 go_loopw [6] (fun i wr=>∃ k:Nat,k≤8∧i=.int .i64 (k:Int)∧wr.heap[B]?=some (.cells (ic (mixI l m k)) 113)∧wr.heap[B+1]?=some (.cells izeros8 113)∧Below B w wr) (fun i _=>8-(intOf i).toNat)
 case atStart=>exact ⟨0,by omega,rfl,by rw [HZ0.out];exact HG0.out,HR0.out,hb0⟩
 case round=>
  clear HG0 HR0 hb0;obtain ⟨k,hk,rfl,hg,hr,hb⟩:=hrel;have HG:=hid hg;have HR:=hid hr;clear hg hr
  by_cases hlt:k<8
  ·have hd:decide ((k:Int)<8)=true:=by simp;omega
   have HS:=hid (mixI_set l m k 8 HL.out HML.out hlt)
   have hll:=mixI_length l m k 8 HL.out HML.out (by omega)
   have cx:=qcT HG.out k (by omega)
   rw [mixI_get l m k 8 HL.out HML.out hlt] at cx;have hbd:=HLO.out k hlt;have hmg:=HMG.out k;have fx:=frozen_of_row wr B k _ _ HG.out;have r1:=qex HG.out k (m.getD k 0);rw [HS.out] at r1;generalize l.getD k 0=x at *;generalize mixI l m k=u at *;rw [hmg] at r1;have HG2:=hid r1
   have HR2:=hid (show (wr.setCell ⟨B,k,none⟩ (.int .i64 (x*v))).heap[B+1]?=some (.cells izeros8 113) from by rw [heap_setCell_other _ _ _ _ (by simp <;> omega)];exact HR.out)
   have hb2:Below B w (wr.setCell ⟨B,k,none⟩ (.int .i64 (x*v))):=hb.setCell (by simp) _
   have hw:wrap64 (x*v)=x*v:=by unfold wrap64;omega
   clear r1 hb HR HG HS hmg
   go_wp2_with fail
   go_roundw
   case rel=>exact ⟨k+1,by omega,by go_num,HG2.out,HR2.out,hb2⟩
   case measure=>simp [intOf];omega
  ·have hd:decide ((k:Int)<8)=false:=by simp;omega
   obtain rfl:k=8:=by omega
   rw [mixI_full l m 8 HL.out HML.out] at HG;have HI:=hid (sizeN m HML.out);have HO:=hid (qd6 m HML.out);have H1:=hid (ic_one m);clear HZ0
   go_wp2_with (first
    | (with_reducible refine wpList_load_row rfl 113 _ rfl B rfl 113 _ (0,0) _ HG.out Tryz.underlying113 rfl HI.out ?_)
    | (with_reducible refine wpList_store_row rfl 113 _ _ rfl (B+1) (ic m) rfl rfl 113 _ HR.out HI.out HO.out H1.out ?_))
   exact bodyPost_ret (v:=.agg (ic m)) (results_cell_row (by rfl) _ _ (B+1) 113 _ (0,0) _ rfl (setRow_heap _ _ _ _ _ _ HR.out) Tryz.underlying113 rfl HI.out) rfl ⟨by first | (with_reducible rfl) | rw [HM.out],by rw [HBB.out];exact below_setRow hb (by omega) _⟩
set_option maxHeartbeats 1000000 in
theorem plusN_any (a b:List Int) (w:World) (ha:a.length=8) (hb:b.length=8) (hlo:∀ j,j<8→-9223372036854775808≤a.getD j 0+b.getD j 0∧a.getD j 0+b.getD j 0<9223372036854775808) :
  Calls Tryz.prog 113 #[.agg (ic a),.agg (ic b)] w fun e w'=>e=.returned (.agg (ic (adI a b)))∧Below w.heap.size w w':=by
 obtain ⟨hz,hi⟩:=zero_of_info infoN;have HG0:=hid (qaj (o:=.cells izeros8 113) (qaj (o:=.cells (ic b) 113) (qag w (.cells (ic a) 113))));have HD0:=hid (qaj (o:=.cells izeros8 113) (qaw w (.cells (ic a) 113) (.cells (ic b) 113)));have HR0:=hid (qbL w (.cells (ic a) 113) (.cells (ic b) 113) (.cells izeros8 113));have hb0:=qbr w (.cells (ic a) 113) (.cells (ic b) 113) (.cells izeros8 113);obtain ⟨m,hm⟩:∃ m,m=adI a b:=⟨_,rfl⟩;have HM:=hid hm
 have hml:m.length=8:=by rw [hm,qeP a b 8 ha hb]
 have HMG:=hid (fun j (hj:j<8)=>show m.getD j 0=a.getD j 0+b.getD j 0 by rw [hm,adI_get a b j (by omega) (by omega)])
 have HL:=hid ha;have HLB:=hid hb;have HML:=hid hml;have HLO:=hid hlo;have HZ0:=hid (mixI_zero a m);clear hi hm ha hb hml hlo
 go_enter Tryz.func113,Tryz.ntmps113
 go_wp2_with fail
 clear hz;generalize (((w.alloc _).alloc _).alloc _)=W0 at *;generalize hBB:w.heap.size=B at *;have HBB:=hid hBB;clear hBB
 go_loopw [6] (fun i wr=>∃ k:Nat,k≤8∧i=.int .i64 (k:Int)∧wr.heap[B]?=some (.cells (ic (mixI a m k)) 113)∧wr.heap[B+1]?=some (.cells (ic b) 113)∧wr.heap[B+1+1]?=some (.cells izeros8 113)∧Below B w wr) (fun i _=>8-(intOf i).toNat)
 case atStart=>exact ⟨0,by omega,rfl,by rw [HZ0.out];exact HG0.out,HD0.out,HR0.out,hb0⟩
 case round=>
  clear HG0 HD0 HR0 hb0;obtain ⟨k,hk,rfl,hg,hdd,hr,hb⟩:=hrel;have HG:=hid hg;have HD:=hid hdd;have HR:=hid hr;clear hg hr hdd
  by_cases hlt:k<8
  ·have hd:decide ((k:Int)<8)=true:=by simp;omega
   have HS:=hid (mixI_set a m k 8 HL.out HML.out hlt)
   have hll:=mixI_length a m k 8 HL.out HML.out (by omega)
   have cx:=qcT HG.out k (by omega)
   rw [mixI_get a m k 8 HL.out HML.out hlt] at cx
   have cy:=qcT HD.out k (by rw [HLB.out];exact hlt)
   have hbd:=HLO.out k hlt;have HMK:=hid (HMG.out k hlt);generalize a.getD k 0=x at *;generalize b.getD k 0=y at *;generalize mixI a m k=u at *
   have hw:wrap64 (x+y)=x+y:=by unfold wrap64;omega
   have hw2:IntKind.i64.wrap (x+y)=x+y:=by rw [IntKind.wrap_i64];omega
   go_wp2_with fail
   have ka:=cell_regrown cx;have kb:=cell_regrown cy
   refine qap 8 (by kernel_rfl) (by kernel_rfl) ?_
   simp only [take_succ_cons,List.take_zero,drop_succ_cons,List.drop_zero]
   repeat (first | go_big_quiet_step (fail) | quiet_step (fail))
   refine wpQuiet_nil ?_
   intro W1 hb1;have hlw:=qab HR.out
   have hG1:=qaa hb1 (by omega) HG.out
   have hD1:=qaa hb1 (by omega) HD.out
   have hR1:=qaa hb1 hlw HR.out;have fx:=frozen_of_row W1 B k _ _ hG1
   have cu:=qcT hG1 k (by omega)
   have r1:=qex hG1 k (m.getD k 0);rw [HS.out,HMK.out] at r1;have HG2:=hid r1
   have HD2:=hid (show (W1.setCell ⟨B,k,none⟩ (.int .i64 (x+y))).heap[B+1]?=some (.cells (ic b) 113) from by rw [heap_setCell_other _ _ _ _ (by simp <;> omega)];exact hD1)
   have HR2:=hid (show (W1.setCell ⟨B,k,none⟩ (.int .i64 (x+y))).heap[B+1+1]?=some (.cells izeros8 113) from by rw [heap_setCell_other _ _ _ _ (by simp <;> omega)];exact hR1)
   have hb2:Below B w (W1.setCell ⟨B,k,none⟩ (.int .i64 (x+y))):=(hb.trans (hb1.mono (by omega))).setCell (by simp) _
   clear r1 hb HR HG HD HS ka kb cx cy hG1 hD1 hR1 hlw hb1
   go_wp2_with fail
   go_roundw
   case rel=>exact ⟨k+1,by omega,by go_num,HG2.out,HD2.out,HR2.out,hb2⟩
   case measure=>simp [intOf];omega
  ·have hd:decide ((k:Int)<8)=false:=by simp;omega
   obtain rfl:k=8:=by omega
   rw [mixI_full a m 8 HL.out HML.out] at HG;have HI:=hid (sizeN m HML.out);have HO:=hid (qd6 m HML.out);have H1:=hid (ic_one m);clear HZ0
   go_wp2_with (first
    | (with_reducible refine wpList_load_row rfl 113 _ rfl B rfl 113 _ (0,0) _ HG.out Tryz.underlying113 rfl HI.out ?_)
    | (with_reducible refine wpList_store_row rfl 113 _ _ rfl (B+1+1) (ic m) rfl rfl 113 _ HR.out HI.out HO.out H1.out ?_))
   exact bodyPost_ret (v:=.agg (ic m)) (results_cell_row (by rfl) _ _ (B+1+1) 113 _ (0,0) _ rfl (setRow_heap _ _ _ _ _ _ HR.out) Tryz.underlying113 rfl HI.out) rfl ⟨by first | (with_reducible rfl) | rw [HM.out],by rw [HBB.out];exact below_setRow hb (by omega) _⟩
end
section
open Go.RowKit Go.Sort
theorem and_36 (y:Int):bits .and .i64 y 68719476735=y%68719476736:=by
 have h1:(BitVec.ofInt 64 68719476735).toNat=2^36-1:=by decide
 have key:(BitVec.ofInt 64 y &&& BitVec.ofInt 64 68719476735).toNat=(y%((2^64:Nat):Int)).toNat%2^36:=by
  rw [BitVec.toNat_and,BitVec.toNat_ofInt,h1,Nat.and_two_pow_sub_one_eq_mod]
 show IntKind.i64.wrap ((BitVec.ofInt 64 y &&& BitVec.ofInt 64 68719476735).toNat:Nat)=y%68719476736
 rw [key,IntKind.wrap_i64]
 omega
set_option maxHeartbeats 1000000 in
theorem carriedN_any (l:List Int) (w:World) (hl:l.length=8) (hlo:∀ j,j<8→-2305843009213693952≤l.getD j 0∧l.getD j 0≤2305843009213693952) :
  Calls Tryz.prog 175 #[.agg (ic l)] w fun e w'=>e=.returned (.agg (ic (limI 7 (vI l))))∧Below w.heap.size w w':=by
 obtain ⟨hz,hi⟩:=zero_of_info infoN
 have HG0:=hid (show ((w.alloc (.cells (ic l) 113)).alloc (.cells izeros8 113)).heap[w.heap.size]?=some (.cells (ic (carI 0 l)) 113) from qaj (o:=.cells izeros8 113) (qag w (.cells (ic l) 113)))
 have HR0:=hid (qaw w (.cells (ic l) 113) (.cells izeros8 113));have hb0:=qaP w (.cells (ic l) 113) (.cells izeros8 113);have HL:=hid hl
 have HB:=hid (fun k=>carI_bound l k hl hlo)
 have HF:=hid (carI_full 7 l hl);clear hi hl hlo
 go_enter Tryz.func175,Tryz.ntmps175
 go_wp2_with fail
 clear hz;generalize ((w.alloc _).alloc _)=W0 at *;generalize hBB:w.heap.size=B at *;have HBB:=hid hBB;clear hBB
 go_loopw [4] (fun i wr=>∃ k:Nat,k≤7∧i=.int .i64 (k:Int)∧wr.heap[B]?=some (.cells (ic (carI k l)) 113)∧wr.heap[B+1]?=some (.cells izeros8 113)∧Below B w wr) (fun i _=>7-(intOf i).toNat)
 case atStart=>exact ⟨0,by omega,rfl,HG0.out,HR0.out,hb0⟩
 case round=>
  clear HG0 HR0 hb0;obtain ⟨k,hk,rfl,hg,hr,hb⟩:=hrel;have HG:=hid hg;have HR:=hid hr;clear hg hr
  by_cases hlt:k<7
  ·have hd:decide ((k:Int)<7)=true:=by simp;omega
   have HS:=hid (carI_step k l (by rw [HL.out];omega))
   have hll:(carI k l).length=8:=by rw [carI_length,HL.out]
   have cx:=qcT HG.out k (by omega)
   have cy:=qcT HG.out (k+1) (by omega)
   have hbx:=HB.out k k;have hby:=HB.out k (k+1)
   have HXY:=hid (show (carI k l).getD k 0=(carI k l).getD k 0 from rfl)
   generalize hxx:(carI k l).getD k 0=x at *;generalize hyy:(carI k l).getD (k+1) 0=y at *;generalize carI k l=u at *
   have hw:wrap64 (y+x / 68719476736)=y+x / 68719476736:=by unfold wrap64;omega
   have hw2:IntKind.i64.wrap (y+x / 68719476736)=y+x / 68719476736:=by rw [IntKind.wrap_i64];omega
   have hand:=and_36 x
   have hk1:((k:Int)+1).toNat=k+1:=by omega
   have HU:=hid hll;have HX:=hid hxx;clear hxx hyy HXY
   go_wp2_with fail
   have ka:=cell_regrown cx;have kb:=cell_regrown cy
   refine qap 10 (by kernel_rfl) (by kernel_rfl) ?_
   simp only [take_succ_cons,List.take_zero,drop_succ_cons,List.drop_zero]
   repeat (first | go_big_quiet_step (fail) | quiet_step (fail))
   refine wpQuiet_nil ?_
   intro W1 hb1;have hlw:=qab HR.out
   have hG1:=qaa hb1 (by omega) HG.out
   have hR1:=qaa hb1 hlw HR.out;have fy:=frozen_of_row W1 B (k+1) _ _ hG1
   have cv:=qcT hG1 (k+1) (by omega)
   have r1:=qex hG1 (k+1) (y+x / 68719476736)
   have cu:=qcT r1 k (by rw [List.length_set];omega)
   have e1:(u.set (k+1) (y+x / 68719476736)).getD k 0=x:=by rw [List.getD_eq_getElem?_getD,List.getElem?_set_ne (by omega),← List.getD_eq_getElem?_getD];exact HX.out
   rw [e1] at cu;have fx:=frozen_of_row _ B k _ _ r1;have r2:=qex r1 k (x%68719476736);rw [HS.out] at r2;have HG2:=hid r2
   have HR2:=hid (show ((W1.setCell ⟨B,k+1,none⟩ (.int .i64 (y+x / 68719476736))).setCell ⟨B,k,none⟩ (.int .i64 (x%68719476736))).heap[B+1]?=some (.cells izeros8 113) from by rw [heap_setCell_other _ _ _ _ (by simp <;> omega),heap_setCell_other _ _ _ _ (by simp <;> omega)];exact hR1)
   have hb2:Below B w ((W1.setCell ⟨B,k+1,none⟩ (.int .i64 (y+x / 68719476736))).setCell ⟨B,k,none⟩ (.int .i64 (x%68719476736))):=((hb.trans (hb1.mono (by omega))).setCell (by simp) _).setCell (by simp) _
   clear r1 r2 e1 hb HR HG HS ka kb cx cy hG1 hR1 hlw hb1
   go_wp2_with fail
   go_roundw
   case rel=>exact ⟨k+1,by omega,by go_num,HG2.out,HR2.out,hb2⟩
   case measure=>simp [intOf];omega
  ·have hd:decide ((k:Int)<7)=false:=by simp;omega
   obtain rfl:k=7:=by omega
   rw [HF.out] at HG;have hml:=qaO 7 (vI l);generalize hm:limI 7 (vI l)=m at *;have HM:=hid hm;have HI:=hid (sizeN m hml);have HO:=hid (qd6 m hml);have H1:=hid (ic_one m);clear hm
   go_wp2_with (first
    | (with_reducible refine wpList_load_row rfl 113 _ rfl B rfl 113 _ (0,0) _ HG.out Tryz.underlying113 rfl HI.out ?_)
    | (with_reducible refine wpList_store_row rfl 113 _ _ rfl (B+1) (ic m) rfl rfl 113 _ HR.out HI.out HO.out H1.out ?_))
   exact bodyPost_ret (v:=.agg (ic m)) (results_cell_row (by rfl) _ _ (B+1) 113 _ (0,0) _ rfl (setRow_heap _ _ _ _ _ _ HR.out) Tryz.underlying113 rfl HI.out) rfl ⟨by first | (with_reducible rfl) | rw [HM.out],by rw [HBB.out];exact below_setRow hb (by omega) _⟩
end
section
open Go.RowKit Go.Sort
def OrdQ (w:World):Prop:=∃ T fr,w.heap[2]?=some (.cells (ic ordI) T fr)
theorem OrdQ.lt {w:World} (h:OrdQ w):2 < w.heap.size:=by
 obtain ⟨T,fr,h⟩:=h;exact qab h
theorem OrdQ.below {w w':World} {B:Nat} (h:OrdQ w) (hb:Below B w w') (hB:2 < B):OrdQ w':=by
 obtain ⟨T,fr,h⟩:=h;exact ⟨T,fr,(hb.block _ hB).trans h⟩
theorem OrdQ.step {w w':World} (h:OrdQ w) (hb:Below w.heap.size w w'):OrdQ w':=h.below hb h.lt
def nuC (X:Int):Array Value:=ic (limI 7 X)
theorem qdr (X:Int):(Tryz.prog.info? 113).map (·.size)=some (nuC X).size:=sizeN _ (qaO 7 X)
theorem qes (X:Int):izeros8.size=(nuC X).size:=qd6 _ (qaO 7 X)
theorem nuC_one (X:Int):(nuC X).all (·.oneCell')=true:=ic_one _
def topI (X:Int):Int:=X / 7237005577332262213973186563042994240829374041602535252466099000494570602496
theorem ord_prod (q:Int) (h:-512≤q∧q≤512) (j:Nat):-35253091565568≤ordI.getD j 0*q∧ordI.getD j 0*q≤35253091565568:=by
 obtain ⟨o,ho⟩:∃ o,ordI.getD j 0=o:=⟨_,rfl⟩;have hl:=ordI_low j;rw [ho] at hl ⊢;have e1:o*q≤o*512:=Int.mul_le_mul_of_nonneg_left h.2 hl.1;have e2:o*(-512)≤o*q:=Int.mul_le_mul_of_nonneg_left h.1 hl.1
 omega
set_option maxHeartbeats 2000000 in
theorem lessN_any (X:Int) (w:World) (hX:-512≤topI X∧topI X≤512) (hT:OrdQ w) :
  Calls Tryz.prog 176 #[.agg (nuC X)] w fun e w'=>e=.returned (.agg (nuC (lesI X)))∧Below w.heap.size w w':=by
 obtain ⟨hz,hi⟩:=zero_of_info infoN;have hTl:=hT.lt;have hb:=qaP w (.cells (nuC X) 113) (.cells izeros8 113);have HP:=hid (hT.step hb);have H2:=hid (qaj (o:=.cells izeros8 113) (qag w (.cells (nuC X) 113)));have H3:=hid (qaw w (.cells (nuC X) 113) (.cells izeros8 113));have Ix:=hid (qdr X);have Ip:=hid (sizeN ordI rfl);have Ir:=hid (qdr (lesI X));have Zr:=hid (qes (lesI X));have Or:=hid (nuC_one (lesI X));have h7:=limI_end X
 have C1:=hid (fun W=>qf6 ordI (-(topI X)) W rfl (fun j _=>by have:=ord_prod (-(topI X)) (by omega) j;omega))
 have C2:=hid (fun W=>plusN_any (limI 7 X) (tmI ordI (-(topI X))) W (qaO 7 X) (by rw [qc4];rfl) (fun j hj=>by
  have h2:=ord_prod (-(topI X)) (by omega) j
  rw [tmI_get]
  by_cases h:j<7
  ·have:=limI_low 7 X j h;omega
  ·obtain rfl:j=7:=by omega
   rw [h7]
   change -9223372036854775808≤topI X+_∧topI X+_<9223372036854775808
   omega))
 have C3:=hid (fun W=>carriedN_any (adI (limI 7 X) (tmI ordI (-(topI X)))) W (qeP _ _ 8 (qaO 7 X) (by rw [qc4];rfl)) (fun j hj=>by
  have h2:=ord_prod (-(topI X)) (by omega) j
  rw [adI_get _ _ _ (by rw [qaO];omega) (by rw [qc4];exact hj),tmI_get]
  by_cases h:j<7
  ·have:=limI_low 7 X j h;omega
  ·obtain rfl:j=7:=by omega
   rw [h7]
   change -2305843009213693952≤topI X+_∧topI X+_≤2305843009213693952
   omega))
 rw [show vI (adI (limI 7 X) (tmI ordI (-(topI X))))=lesI X from less_val X] at C3
 have cx:((w.alloc (.cells (nuC X) 113)).alloc (.cells izeros8 113)).cell? ⟨w.heap.size,7,none⟩=some (.int .i64 (topI X)):=by
  have:=qcT H2.out 7 (by rw [qaO];decide)
  rw [h7] at this;exact this
 have hneg:wrap64 (-(topI X)) = -(topI X):=by unfold wrap64;omega
 have hneg2:IntKind.i64.wrap (-(topI X)) = -(topI X):=by rw [IntKind.wrap_i64];omega
 have HG:=hid (show nuC X=ic (limI 7 X) from rfl)
 have HGr:=hid (show ic (limI 7 (lesI X))=nuC (lesI X) from rfl)
 rw [HGr.out] at C3;clear hi hX hT h7
 go_enter Tryz.func176,Tryz.ntmps176
 go_upto_region 1 with fail
 clear hz;generalize ((w.alloc _).alloc _)=W0 at *;generalize hBB:w.heap.size=B at *;have HBB:=hid hBB;clear hBB;generalize tmI ordI (-(topI X))=tq at *;generalize adI (limI 7 X) tq=sq at *;generalize hr:lesI X=r at *;have HRr:=hid hr;clear hr;obtain ⟨TP,fr,hP⟩:=HP.out;have HPr:=hid hP;clear HP hP;generalize ordI=P at *;rw [← HG.out] at C2;generalize topI X=q at *
 refine qam 8 11 [.val (.agg (nuC X)) [(1,.pointer (some ⟨B,0,none⟩))],.val (.agg (ic P)) [],
  .val (.pointer (some ⟨B,7,none⟩)) [(1,.pointer (some ⟨B,0,none⟩))],.val (.int .i64 q) [(5,.pointer (some ⟨B,7,none⟩))],.val (.int .i64 (-q)) [(6,.int .i64 q)],
  .val (.agg (ic tq)) [(4,.agg (ic P)),(7,.int .i64 (-q))],.val (.agg (ic sq)) [(3,.agg (nuC X)),(8,.agg (ic tq))],.val (.agg (nuC r)) [(9,.agg (ic sq))]]
  (by kernel_rfl) (by kernel_rfl) rfl ?_ ?_ ?_
 ·simp only [take_succ_cons,List.take_zero,qaL,qaK,HeadSpec.val,HeadSpec.fresh,and_true]
  refine ⟨?_,?_,?_,?_,?_,?_,?_,?_⟩
  ·intro a w hb h
   have e0:=h (1,.pointer (some ⟨B,0,none⟩)) (by simp)
   exact qae 113 (.tmp 1) rfl B e0 113 _ (0,0) _ (qaa hb (qab H2.out) H2.out) Tryz.underlying113 rfl Ix.out
  ·intro a w hb h
   exact qae 113 (.global 2) rfl 2 rfl TP _ fr _ (qaa hb (qab HPr.out) HPr.out) Tryz.underlying113 rfl Ip.out
  ·intro a w hb h
   have e0:=h (1,.pointer (some ⟨B,0,none⟩)) (by simp)
   simp only [getD_eq_getD_getElem?] at e0
   simp [go_sem,e0,qac]
  ·intro a w hb h
   have e0:=h (5,.pointer (some ⟨B,7,none⟩)) (by simp)
   simp only [getD_eq_getD_getElem?] at e0
   have cc:=(hb.cell (block_lt_of_cell cx)).trans cx
   simp [go_sem,e0,qac,cc]
  ·intro a w hb h
   have e0:=h (6,.int .i64 q) (by simp)
   simp only [getD_eq_getD_getElem?] at e0
   simp [go_sem,e0,qac,hneg,hneg2]
  ·intro a w hb h
   have e0:=h (4,.agg (ic P)) (by simp)
   have e1:=h (7,.int .i64 (-q)) (by simp)
   simp only [getD_eq_getD_getElem?] at e0 e1
   simp [go_sem,e0,e1,qac]
   exact C1.out w
  ·intro a w hb h
   have e0:=h (3,.agg (nuC X)) (by simp)
   have e1:=h (8,.agg (ic tq)) (by simp)
   simp only [getD_eq_getD_getElem?] at e0 e1
   simp [go_sem,e0,e1,qac]
   exact C2.out w
  ·intro a w hb h
   have e0:=h (9,.agg (ic sq)) (by simp)
   simp only [getD_eq_getD_getElem?] at e0
   simp [go_sem,e0,qac]
   exact C3.out w
 ·simp [qau,qav,qaJ,HeadSpec.val,HeadSpec.fresh,Act.put]
 ·simp only [take_succ_cons,List.take_zero,drop_succ_cons,List.drop_zero,qaH,HeadSpec.val,HeadSpec.fresh,Act.put,List.setIfInBounds_toArray,List.set_cons_succ,List.set_cons_zero]
  intro v1 hv1 hgs;have HN:=hid (qaa hv1 (qab H3.out) H3.out)
  have hb1:Below B w v1:=hb.trans (hv1.mono (by have:=qab H3.out;omega))
  have HNN:=hid (setRow_heap v1 (B+1) _ (nuC r) _ _ HN.out)
  have hb2:Below B w (v1.setRow (B+1) (nuC r)):=below_setRow hb1 (by omega) _
  clear H2 H3 hb1 hv1 hgs hb
  go_wp2_with (with_reducible refine wpList_store_row rfl 113 _ _ rfl (B+1) (nuC r) rfl rfl 113 _ HN.out Ir.out Zr.out Or.out ?_)
  exact bodyPost_ret (v:=.agg (nuC r)) (results_cell_row (by rfl) _ _ (B+1) 113 _ (0,0) _ rfl HNN.out Tryz.underlying113 rfl Ir.out) rfl ⟨by rw [HRr.out],by rw [HBB.out];exact hb2⟩
theorem top_fits (X:Int) (h0:0≤X) (h1:X<511*(lF:Int)):(-512≤topI X∧topI X≤512)∧(-512≤topI (lesI X)∧topI (lesI X)≤512):=by
 have h2:=lesI_small X h0 h1;have e:(lF:Int)=7237005577332262213973186563042994240857116359379907606001950938285454250989:=rfl;unfold topI;rw [e] at h1
 omega
set_option maxHeartbeats 2000000 in
theorem reducedN_any (l:List Int) (X:Nat) (w:World) (hl:l.length=8) (hlo:∀ j,j<8→-2305843009213693952≤l.getD j 0∧l.getD j 0≤2305843009213693952) (hX:vI l=(X:Int)) (h1:X<511*lF) (hT:OrdQ w) :
  Calls Tryz.prog 114 #[.agg (ic l)] w fun e w'=>e=.returned (.agg (nuC ((X%lF:Nat):Int)))∧Below w.heap.size w w':=by
 obtain ⟨hz,hi⟩:=zero_of_info infoN;have hb:=qaP w (.cells (ic l) 113) (.cells izeros8 113);have HP:=hid (hT.step hb);have H2:=hid (qaj (o:=.cells izeros8 113) (qag w (.cells (ic l) 113)));have H3:=hid (qaw w (.cells (ic l) 113) (.cells izeros8 113))
 obtain ⟨t1,t2⟩:=top_fits (X:Int) (by omega) (by omega)
 have Ix:=hid (sizeN l hl)
 have C1:=hid (fun W=>carriedN_any l W hl hlo)
 have C2:=hid (fun W=>lessN_any (X:Int) W t1)
 have C3:=hid (fun W=>lessN_any (lesI (X:Int)) W t2)
 rw [hX,show ic (limI 7 (X:Int))=nuC (X:Int) from rfl] at C1
 rw [lesI_two (X:Int) (by omega) (by omega),show (X:Int)%(lF:Int)=((X%lF:Nat):Int) by omega] at C3
 have HTl:=hid hT.lt;clear hi hX hT t1 t2 h1 hl hlo
 go_enter Tryz.func114,Tryz.ntmps114
 go_wp2_with (with_reducible refine wpList_load_row rfl 113 _ rfl w.heap.size rfl 113 _ (0,0) _ H2.out Tryz.underlying113 rfl Ix.out ?_)
 clear hz;generalize ((w.alloc _).alloc _)=W0 at *;generalize hBB:w.heap.size=B at *;have HBB:=hid hBB;clear hBB;have Ir:=hid (qdr ((X%lF:Nat):Int));have Zr:=hid (qes ((X%lF:Nat):Int));have Or:=hid (nuC_one ((X%lF:Nat):Int));generalize hx2:lesI (X:Int)=x2 at *;generalize hx3:((X%lF:Nat):Int)=x3 at *;have HX3:=hid hx3;clear hx2 hx3;generalize (X:Int)=x1 at *
 refine (C1.out W0).mono ?_
 rintro e W1 ⟨rfl,hb1⟩;have H31:=hid (qaa hb1 (qab H3.out) H3.out);have HP1:=hid (HP.out.step hb1)
 have hB1:Below B w W1:=hb.trans (hb1.mono (by have:=qab H3.out;omega))
 clear H2 H3 HP hb hb1 C1
 go_wp2_with fail
 refine (C2.out W1 HP1.out).mono ?_
 rintro e W2 ⟨rfl,hb2⟩;have H32:=hid (qaa hb2 (qab H31.out) H31.out);have HP2:=hid (HP1.out.step hb2)
 have hB2:Below B w W2:=hB1.trans (hb2.mono (by have:=qab H31.out;omega))
 clear H31 HP1 hB1 hb2 C2
 go_wp2_with fail
 refine (C3.out W2 HP2.out).mono ?_
 rintro e W3 ⟨rfl,hb3⟩;have H33:=hid (qaa hb3 (qab H32.out) H32.out)
 have hB3:Below B w W3:=hB2.trans (hb3.mono (by have:=qab H32.out;omega))
 clear H32 HP2 hB2 hb3 C3;have HNN:=hid (setRow_heap W3 (B+1) _ (nuC x3) _ _ H33.out)
 go_wp2_with (with_reducible refine wpList_store_row rfl 113 _ _ rfl (B+1) (nuC x3) rfl rfl 113 _ H33.out Ir.out Zr.out Or.out ?_)
 exact bodyPost_ret (v:=.agg (nuC x3)) (results_cell_row (by rfl) _ _ (B+1) 113 _ (0,0) _ rfl HNN.out Tryz.underlying113 rfl Ir.out) rfl ⟨by rw [HX3.out],by rw [HBB.out];exact below_setRow hB3 (by omega) _⟩
end
section
open Go.RowKit Go.Sort
theorem qeY (X:Nat) (hX:X<lF) (j:Nat):0≤(limI 7 (X:Int)).getD j 0∧(limI 7 (X:Int)).getD j 0<68719476736:=by
 by_cases h:j<7
 ·exact limI_low 7 _ j h
 ·by_cases h7:j=7
  ·subst h7
   rw [limI_end];have e:lF=7237005577332262213973186563042994240857116359379907606001950938285454250989:=rfl;rw [e] at hX
   omega
  ·rw [List.getD_eq_getElem?_getD,List.getElem?_eq_none (by rw [qaO];omega)]
   decide
theorem qft (x b:Int) (hx:0≤x∧x<68719476736) (hb:0≤b∧b≤256):0≤x*b∧x*b≤17592186044416:=by
 have e1:x*b≤x*256:=Int.mul_le_mul_of_nonneg_left hb.2 hx.1;have e2:0≤x*b:=Int.mul_nonneg hx.1 hb.1
 omega
theorem nuC_nought:izeros8=nuC ((0:Nat):Int):=by rw [nuC,show limI 7 ((0:Nat):Int)=List.replicate 8 0 by decide +kernel];rfl
set_option maxHeartbeats 4000000 in
theorem scaledN_any (A:Nat) (s:ByteArray) (w:World) (hA:A<lF) (hs:s.size≤1000) (hT:OrdQ w) :
  Calls Tryz.prog 112 #[.agg (nuC (A:Int)),.string s] w fun e w'=>e=.returned (.agg (nuC ((A*nV s.data.toList%lF:Nat):Int)))∧Below w.heap.size w w':=by
 obtain ⟨hz,hi⟩:=zero_of_info infoN;have hb0:=qbr w (.cells (nuC (A:Int)) 113) (.cells izeros8 113) (.cells izeros8 113);have HP:=hid (hT.step hb0);have H2:=hid (qaj (o:=.cells izeros8 113) (qaj (o:=.cells izeros8 113) (qag w (.cells (nuC (A:Int)) 113))));have H3:=hid (qaj (o:=.cells izeros8 113) (qaw w (.cells (nuC (A:Int)) 113) (.cells izeros8 113)));have H4:=hid (qbL w (.cells (nuC (A:Int)) 113) (.cells izeros8 113) (.cells izeros8 113));have IA:=hid (qdr (A:Int));have HAl:=hid hA
 have hsz:s.data.toList.length=s.size:=by simp
 have HSZ:=hid hsz
 have HST:Hid (izeros8=nuC ((A*nV (s.data.toList.drop s.size)%lF:Nat):Int)):=hid (by
  rw [List.drop_of_length_le (by omega),show nV []=0 from rfl,Nat.mul_zero,Nat.zero_mod]
  exact nuC_nought)
 have HQ:=hid hT.lt
 have hw1:wrap64 ((s.size:Int)-1)=(s.size:Int)-1:=by unfold wrap64;omega
 clear hi hT hA hsz
 go_enter Tryz.func112,Tryz.ntmps112
 go_wp2_with fail
 clear hz;generalize (((w.alloc _).alloc _).alloc _)=W0 at *;generalize hBB:w.heap.size=B at *;have HBB:=hid hBB;clear hBB
 go_loopw [6] (fun iv wr=>∃ k:Nat,k≤s.size∧iv=.int .i64 ((k:Int)-1)∧wr.heap[B]?=some (.cells (nuC (A:Int)) 113)∧wr.heap[B+1]?=some (.cells izeros8 113)∧wr.heap[B+1+1]?=some (.cells (nuC ((A*nV (s.data.toList.drop k)%lF:Nat):Int)) 113)∧OrdQ wr∧Below B w wr) (fun iv _=>(intOf iv+1).toNat)
 case atStart=>exact ⟨s.size,Nat.le_refl _,rfl,H2.out,H3.out,by rw [← HST.out];exact H4.out,HP.out,hb0⟩
 case round=>
  clear H2 H3 H4 hb0 HP HST;obtain ⟨k,hk,rfl,h2,h3,h4,hp,hb⟩:=hrel;have H2:=hid h2;have H3:=hid h3;have H4:=hid h4;have HP:=hid hp;clear h2 h3 h4 hp
  by_cases hk0:k=0
  ·subst hk0
   have hd:decide ((0:Int)≤((0:Nat):Int)-1)=false:=by decide
   rw [List.drop_zero] at H4;generalize hr:((A*nV s.data.toList%lF:Nat):Int)=r at *;have HRr:=hid hr;clear hr;have Ir:=hid (qdr r);have Zr:=hid (qes r);have Or:=hid (nuC_one r)
   go_wp2_with (first
    | (with_reducible refine wpList_load_row rfl 113 _ rfl (B+1+1) rfl 113 _ (0,0) _ H4.out Tryz.underlying113 rfl Ir.out ?_)
    | (with_reducible refine wpList_store_row rfl 113 _ _ rfl (B+1) (nuC r) rfl rfl 113 _ H3.out Ir.out Zr.out Or.out ?_))
   exact bodyPost_ret (v:=.agg (nuC r)) (results_cell_row (by rfl) _ _ (B+1) 113 _ (0,0) _ rfl (setRow_heap _ _ _ _ _ _ H3.out) Tryz.underlying113 rfl Ir.out) rfl ⟨by rw [HRr.out],by rw [HBB.out];exact below_setRow hb (by omega) _⟩
  ·obtain ⟨t,rfl⟩:∃ t,k=t+1:=⟨k-1,by omega⟩
   have hcast:((t+1:Nat):Int)-1=(t:Int):=by omega
   rw [hcast]
   have hd:decide ((0:Int)≤(t:Int))=true:=by simp
   have hin:t<s.size:=by omega
   have hgb:s.data.toList.getD t 0=s[t]:=by rw [List.getD_eq_getElem?_getD,Array.getElem?_toList];simp [hin];rfl
   have hdr:=nV_drop s.data.toList t (by rw [HSZ.out];exact hin)
   rw [hgb] at hdr;have hS:A*nV (s.data.toList.drop (t+1))%lF<lF:=Nat.mod_lt _ lF_pos;have hmore:=nV_more A (nV (s.data.toList.drop (t+1))) s[t].toNat;rw [← hdr] at hmore;have hb8:=UInt8.toNat_lt s[t];have HB8:=hid hb8;generalize hSS:A*nV (s.data.toList.drop (t+1))%lF=S at *;generalize hRR:A*nV (s.data.toList.drop t)%lF=R at *;have HRR:=hid hRR;clear hRR;generalize hbb:s[t].toNat=b at *
   have hwb:IntKind.i64.wrap (b:Int)=(b:Int):=by rw [IntKind.wrap_i64];omega
   have hA:=HAl.out
   have hrb:256*S+b*A<511*lF:=by
    have:b*A≤255*A:=Nat.mul_le_mul_right _ (by omega)
    omega
   have C1:=hid (fun W=>qf6 (limI 7 (S:Int)) 256 W (qaO 7 _) (fun j hj=>by have:=qft _ 256 (qeY S hS j) (by omega);omega))
   have C2:=hid (fun W=>qf6 (limI 7 (A:Int)) (b:Int) W (qaO 7 _) (fun j hj=>by have:=qft _ (b:Int) (qeY A hA j) (by omega);omega))
   have hbnd:∀ j,j<8→0≤(tmI (limI 7 (S:Int)) 256).getD j 0+(tmI (limI 7 (A:Int)) (b:Int)).getD j 0∧(tmI (limI 7 (S:Int)) 256).getD j 0+(tmI (limI 7 (A:Int)) (b:Int)).getD j 0≤35184372088832:=fun j hj=>by
    have h1:=qft _ 256 (qeY S hS j) (by omega)
    have h2:=qft _ (b:Int) (qeY A hA j) (by omega)
    rw [tmI_get,tmI_get]
    omega
   have l1:(tmI (limI 7 (S:Int)) 256).length=8:=by rw [qc4,qaO]
   have l2:(tmI (limI 7 (A:Int)) (b:Int)).length=8:=by rw [qc4,qaO]
   have C3:=hid (fun W=>plusN_any (tmI (limI 7 (S:Int)) 256) (tmI (limI 7 (A:Int)) (b:Int)) W l1 l2 (fun j hj=>by have:=hbnd j hj;omega))
   have C4:=hid (fun W=>reducedN_any (adI (tmI (limI 7 (S:Int)) 256) (tmI (limI 7 (A:Int)) (b:Int))) (256*S+b*A) W (qeP _ _ 8 l1 l2) (fun j hj=>by
    have:=hbnd j hj
    rw [adI_get _ _ _ (by omega) (by omega)]
    omega) (by
    rw [adI_val _ _ (by rw [l1,l2]),tmI_val,tmI_val,qeq,qeq]
    have:((256*S+b*A:Nat):Int)=256*(S:Int)+(b:Int)*(A:Int):=by simp
    rw [this,Int.mul_comm (A:Int),Int.mul_comm (S:Int)]) hrb)
   rw [hmore] at C4;have IS:=hid (qdr (S:Int));have IR:=hid (qdr (R:Int));have ZR:Hid ((nuC (S:Int)).size=(nuC (R:Int)).size):=hid ((qes _).symm.trans (qes _));have OR:=hid (nuC_one (R:Int));have e1:ic (limI 7 (S:Int))=nuC (S:Int):=rfl;have e2:ic (limI 7 (A:Int))=nuC (A:Int):=rfl;rw [e1] at C1;rw [e2] at C2;clear hmore hrb hbnd l1 l2 e1 e2 hdr hgb hS hA hcast;generalize tmI (limI 7 (S:Int)) 256=t1 at *;generalize tmI (limI 7 (A:Int)) (b:Int)=t2 at *;generalize adI t1 t2=t3 at *;obtain ⟨Bs,hBs⟩:∃ x:Int,x=(b:Int):=⟨_,rfl⟩
   go_wp2_with fail
   refine qam 10 25 [.val (.agg (nuC (S:Int))) [(5,.pointer (some ⟨B+1+1,0,none⟩))],.val (.agg (ic t1)) [(14,.agg (nuC (S:Int)))],.val (.agg (nuC (A:Int))) [(2,.pointer (some ⟨B,0,none⟩))],
    .val (.string s) [(1,.string s)],.val (.int .i64 (t:Int)) [(6,.int .i64 (t:Int))],.val (.int .u8 (b:Int)) [(17,.string s),(18,.int .i64 (t:Int))],.val (.int .i64 (b:Int)) [(19,.int .u8 (b:Int))],
    .val (.agg (ic t2)) [(16,.agg (nuC (A:Int))),(20,.int .i64 (b:Int))],.val (.agg (ic t3)) [(15,.agg (ic t1)),(21,.agg (ic t2))],.val (.agg (nuC (R:Int))) [(22,.agg (ic t3))]]
    (by kernel_rfl) (by kernel_rfl) rfl ?_ ?_ ?_
   ·simp only [take_succ_cons,List.take_zero,qaL,qaK,HeadSpec.val,HeadSpec.fresh,and_true]
    refine ⟨?_,?_,?_,?_,?_,?_,?_,?_,?_,?_⟩
    ·intro a w hb h
     have e0:=h (5,.pointer (some ⟨B+1+1,0,none⟩)) (by simp)
     exact qae 113 (.tmp 5) rfl (B+1+1) e0 113 _ (0,0) _ (qaa hb (qab H4.out) H4.out) Tryz.underlying113 rfl IS.out
    ·intro a w hb h
     have e0:=h (14,.agg (nuC (S:Int))) (by simp)
     simp only [getD_eq_getD_getElem?] at e0
     simp [go_sem,e0,qac]
     exact C1.out w
    ·intro a w hb h
     have e0:=h (2,.pointer (some ⟨B,0,none⟩)) (by simp)
     exact qae 113 (.tmp 2) rfl B e0 113 _ (0,0) _ (qaa hb (qab H2.out) H2.out) Tryz.underlying113 rfl IA.out
    ·intro a w hb h
     have e0:=h (1,.string s) (by simp)
     simp only [getD_eq_getD_getElem?] at e0
     simp [go_sem,e0,qac]
    ·intro a w hb h
     have e0:=h (6,.int .i64 (t:Int)) (by simp)
     simp only [getD_eq_getD_getElem?] at e0
     simp [go_sem,e0,qac]
    ·intro a w hb h
     have e0:=h (17,.string s) (by simp)
     have e1:=h (18,.int .i64 (t:Int)) (by simp)
     simp only [getD_eq_getD_getElem?] at e0 e1
     simp [go_sem,e0,e1,qac,hin,hbb]
    ·intro a w hb h
     have e0:=h (19,.int .u8 (b:Int)) (by simp)
     simp only [getD_eq_getD_getElem?] at e0
     simp [go_sem,e0,qac,hwb]
    ·intro a w hb h
     have e0:=h (16,.agg (nuC (A:Int))) (by simp)
     have e1:=h (20,.int .i64 (b:Int)) (by simp)
     simp only [getD_eq_getD_getElem?] at e0 e1
     simp [go_sem,e0,e1,qac]
     exact C2.out w
    ·intro a w hb h
     have e0:=h (15,.agg (ic t1)) (by simp)
     have e1:=h (21,.agg (ic t2)) (by simp)
     simp only [getD_eq_getD_getElem?] at e0 e1
     simp [go_sem,e0,e1,qac]
     exact C3.out w
    ·intro a w hb h
     have e0:=h (22,.agg (ic t3)) (by simp)
     simp only [getD_eq_getD_getElem?] at e0
     simp [go_sem,e0,qac]
     exact C4.out w (HP.out.step hb)
   ·simp [qau,qav,qaJ,HeadSpec.val,HeadSpec.fresh,Act.put]
   ·simp only [take_succ_cons,List.take_zero,drop_succ_cons,List.drop_zero,qaH,HeadSpec.val,HeadSpec.fresh,Act.put,List.setIfInBounds_toArray,List.set_cons_succ,List.set_cons_zero]
    intro v1 hv1 hgs;have hl4:=qab H4.out;have H2b:=hid (qaa hv1 (qab H2.out) H2.out);have H3b:=hid (qaa hv1 (qab H3.out) H3.out);have H4b:=hid (qaa hv1 hl4 H4.out);have HPb:=HP.out.step hv1
    have hb1:Below B w v1:=hb.trans (hv1.mono (by omega))
    have H4c:=hid (setRow_heap v1 (B+1+1) _ (nuC (R:Int)) _ _ H4b.out)
    have H2c:Hid ((v1.setRow (B+1+1) (nuC (R:Int))).heap[B]?=some (.cells (nuC (A:Int)) 113)):=hid (by rw [setRow_other _ _ _ _ (by omega)];exact H2b.out)
    have H3c:Hid ((v1.setRow (B+1+1) (nuC (R:Int))).heap[B+1]?=some (.cells izeros8 113)):=hid (by rw [setRow_other _ _ _ _ (by omega)];exact H3b.out)
    have hb2:Below B w (v1.setRow (B+1+1) (nuC (R:Int))):=below_setRow hb1 (by omega) _
    have HPc:=hid (HPb.below (below_setRow (Below.refl B v1) (show B≤B+1+1 by omega) (nuC (R:Int))) HQ.out)
    clear H2 H3 H4 HP hb1 hv1 hgs hb H2b H3b HPb hl4
    go_wp2_with (with_reducible refine wpList_store_row rfl 113 _ _ rfl (B+1+1) (nuC (R:Int)) rfl rfl 113 _ H4b.out IR.out ZR.out OR.out ?_)
    go_roundw
    case rel=>exact ⟨t,by omega,by go_num,H2c.out,H3c.out,by rw [HRR.out];exact H4c.out,HPc.out,hb2⟩
    case measure=>simp [intOf] <;> omega
end
section
open Go.RowKit Go.Sort
theorem build_unit (w:World):(Instr.build 113 #[(0,.int .i64 1)]).run Tryz.prog w=.ok (.agg (nuC ((1:Nat):Int))) w:=by
 rw [nuC,show limI 7 ((1:Nat):Int)=[1,0,0,0,0,0,0,0] by decide +kernel]
 exact run_build w 113 _ _ (by kernel_rfl)
theorem wpList_build_unit {ops:Array Oper} {rest:List Oper} {o:Oper} {a:Act} {w:World} {Q:Exit→Act→World→Prop} (hg:o.guard=none) (x:Operand) (ho:o.op=.build 113 #[(0,x)]) (hx:a.eval x=.int .i64 1)
  (h:wpList Tryz.prog ops Q rest (a.put o.dst (.agg (nuC ((1:Nat):Int)))) w):wpList Tryz.prog ops Q (o :: rest) a w:=
 wpList_plain hg fun _ hK=>qdJ 113 #[(0,x)] ho (nuC ((1:Nat):Int)) (by
  have e:(#[(0,x)]:Array (Nat×Operand)).map (fun (i,x)=>(i,a.eval x))=#[(0,a.eval x)]:=by simp
  rw [e,hx];exact build_unit w) (hK _ _ h)
theorem lF_big:1<lF:=by decide
set_option maxHeartbeats 2000000 in
theorem qfb (s:ByteArray) (w:World) (hs:s.size≤1000) (hT:OrdQ w) :
  Calls Tryz.prog 111 #[.string s] w fun e w'=>e=.returned (.agg (nuC ((nV s.data.toList%lF:Nat):Int)))∧Below w.heap.size w w':=by
 obtain ⟨hz,hi⟩:=zero_of_info infoN;have hb:=qah w (.cells izeros8 113);have HP:=hid (hT.step hb);have H2:=hid (qag w (.cells izeros8 113))
 have C1:=hid (fun W=>scaledN_any 1 s W lF_big hs)
 rw [Nat.one_mul] at C1;have Ir:=hid (qdr ((nV s.data.toList%lF:Nat):Int));have Zr:=hid (qes ((nV s.data.toList%lF:Nat):Int));have Or:=hid (nuC_one ((nV s.data.toList%lF:Nat):Int));clear hi hT
 go_enter Tryz.func111,Tryz.ntmps111
 go_upto_region 1 with fail
 clear hz;generalize (w.alloc _)=W0 at *;generalize hBB:w.heap.size=B at *;have HBB:=hid hBB;clear hBB;generalize hr:((nV s.data.toList%lF:Nat):Int)=r at *;have HRr:=hid hr;clear hr
 go_wp2_with (with_reducible refine wpList_build_unit rfl _ rfl rfl ?_)
 refine (C1.out W0 HP.out).mono ?_
 rintro e W1 ⟨rfl,hb1⟩;have H21:=hid (qaa hb1 (qab H2.out) H2.out)
 have hB1:Below B w W1:=hb.trans (hb1.mono (by have:=qab H2.out;omega))
 clear H2 HP hb hb1 C1
 go_wp2_with (with_reducible refine wpList_store_row rfl 113 _ _ rfl B (nuC r) rfl rfl 113 _ H21.out Ir.out Zr.out Or.out ?_)
 exact bodyPost_ret (v:=.agg (nuC r)) (results_cell_row (by rfl) _ _ B 113 _ (0,0) _ rfl (setRow_heap _ _ _ _ _ _ H21.out) Tryz.underlying113 rfl Ir.out) rfl ⟨by rw [HRr.out],by rw [HBB.out];exact below_setRow hB1 (Nat.le_refl _) _⟩
theorem low_wrap (z p:Nat):IntKind.i64.wrap ((z%18446744073709551616+p:Nat):Int)%256=(((p+z)%256:Nat):Int):=by
 rw [IntKind.wrap_i64]
 omega
theorem nat_wrap (z:Nat):(BitVec.ofInt 64 (IntKind.i64.wrap (z:Int))).toNat=z%18446744073709551616:=by
 rw [BitVec.toNat_ofInt,IntKind.wrap_i64]
 omega
theorem shl_part (q s N t:Nat) (hN:2^s*t=N):∃ u,q*2^s%N=2^s*u:=⟨q%t,by rw [← hN,Nat.mul_comm q,Nat.mul_mod_mul_left]⟩
theorem pow_parts (s:Nat) (hs:s≤64):2^s*2^(64-s)=18446744073709551616:=by
 rw [← Nat.pow_add,show s+(64-s)=64 by omega]
theorem or_low (p q s:Nat) (hp:p<2^s) (hs:s≤36) (h36:p<68719476736):bits .or .i64 (p:Int) (IntKind.i64.wrap ((q:Int)*2^s))%256=(((p+q*2^s)%256:Nat):Int):=by
 obtain ⟨u,hu⟩:=shl_part q s 18446744073709551616 _ (pow_parts s (by omega))
 have e1:(BitVec.ofInt 64 (p:Int)).toNat=p:=by rw [BitVec.toNat_ofInt];omega
 have e3:((q:Int)*2^s)=((q*2^s:Nat):Int):=by simp
 rw [e3];generalize q*2^s=z at *;have e2:=nat_wrap z
 show IntKind.i64.wrap (((BitVec.ofInt 64 (p:Int) ||| BitVec.ofInt 64 (IntKind.i64.wrap (z:Int))).toNat:Nat):Int)%256=_
 rw [BitVec.toNat_or,e1,e2,hu,Nat.or_comm,← Nat.two_pow_add_eq_or_of_lt hp,← hu];exact low_wrap z p
theorem limb_pow (i:Nat):(68719476736:Int)^i=((2^(36*i):Nat):Int):=by rw [Nat.pow_mul];simp
theorem limI_nat (X i:Nat) (h:i<7):(limI 7 (X:Int)).getD i 0=((X / 2^(36*i)%68719476736:Nat):Int):=by rw [limI_get 7 _ i h,limb_pow];simp
theorem limI_nat7 (X:Nat):(limI 7 (X:Int)).getD 7 0=((X / 2^252:Nat):Int):=by rw [limI_top,limb_pow];simp
theorem byte_at (X k:Nat) (hk:k<32):∃ p q:Nat,(limI 7 (X:Int)).getD (8*k / 36) 0=(p:Int)∧(limI 7 (X:Int)).getD (8*k / 36+1) 0=(q:Int)∧p<68719476736∧(p / 2^(8*k%36)+q*2^(36-8*k%36))%256=X / 256^k%256:=by
 have hi:8*k / 36<7:=by omega
 refine ⟨X / 2^(36*(8*k / 36))%68719476736,if 8*k / 36+1<7 then X / 2^(36*(8*k / 36+1))%68719476736 else X / 2^252,limI_nat X _ hi,?_,Nat.mod_lt _ (by decide),?_⟩
 ·split
  ·rename_i h;exact limI_nat X _ h
  ·rename_i h
   rw [show 8*k / 36+1=7 by omega]
   exact limI_nat7 X
 ·have hq:X / 2^(36*(8*k / 36+1))=X / 2^(36*(8*k / 36)) / 68719476736:=by rw [Nat.div_div_eq_div_mul,show 36*(8*k / 36+1)=36*(8*k / 36)+36 by omega,Nat.pow_add]
  have hX:X / 256^k=X / 2^(36*(8*k / 36)) / 2^(8*k%36):=by
   rw [Nat.div_div_eq_div_mul,← Nat.pow_add,show 36*(8*k / 36)+8*k%36=8*k by omega,Nat.pow_mul]
  rw [hX]
  refine limb36 _ _ (8*k%36) (by omega) ?_
  split
  ·rename_i h
   rw [hq]
   omega
  ·rename_i h
   rw [← hq,show 8*k / 36+1=7 by omega]
end
section
open Go.RowKit Go.Sort
theorem i64_wrap64 (x:Int):IntKind.i64.wrap x=wrap64 x:=by
 rw [IntKind.wrap_i64];unfold wrap64
 omega
set_option maxHeartbeats 2000000 in
theorem bytesN_any (X:Nat) (w:World) :
  Calls Tryz.prog 115 #[.agg (nuC (X:Int))] w fun e w'=>e=.returned (.string ⟨(leF X 32).toArray⟩)∧Below w.heap.size w w':=by
 obtain ⟨hz,hi⟩:=zero_of_info infoB32;have HG0:=hid (qaj (o:=.cells qdL 153) (qag w (.cells (nuC (X:Int)) 113)));have HO0:=hid (qaw w (.cells (nuC (X:Int)) 113) (.cells qdL 153));have hb0:=qaP w (.cells (nuC (X:Int)) 113) (.cells qdL 153);clear hi
 go_enter Tryz.func115,Tryz.ntmps115
 go_wp2_with fail
 clear hz;generalize ((w.alloc _).alloc _)=W0 at *;generalize hBB:w.heap.size=B at *;have HBB:=hid hBB;clear hBB
 go_loopw [7] (fun iv wr=>∃ k:Nat,k≤32∧iv=.int .i64 (k:Int)∧wr.heap[B]?=some (.cells (nuC (X:Int)) 113)∧wr.heap[B+1]?=some (.cells (qaZ (outF X k)) 153)∧Below B w wr) (fun iv _=>32-(intOf iv).toNat)
 case atStart=>exact ⟨0,by omega,rfl,HG0.out,HO0.out,hb0⟩
 case round=>
  clear HG0 HO0 hb0;obtain ⟨k,hk,rfl,hg,ho,hb⟩:=hrel;have HG:=hid hg;have HO:=hid ho;clear hg ho
  by_cases hlt:k<32
  ·have hd:decide ((k:Int)<32)=true:=by simp;omega
   obtain ⟨p,q,hp,hq,hp36,hv⟩:=byte_at X k hlt
   have cx:=qcT HG.out (8*k / 36) (by rw [qaO];omega)
   have cy:=qcT HG.out (8*k / 36+1) (by rw [qaO];omega)
   rw [hp] at cx;rw [hq] at cy;have hs:=outF_set X k hlt
   have hb8:(UInt8.ofNat (X / 256^k)).toNat=X / 256^k%256:=by rw [UInt8.toNat_ofNat']
   rw [← hb8] at hv;generalize UInt8.ofNat (X / 256^k)=b8 at *
   have hat:8*k%36≤32:=by omega
   have hdv:p / 2^(8*k%36)<2^(36-8*k%36):=by
    rw [Nat.div_lt_iff_lt_mul (Nat.pow_pos (by decide)),← Nat.pow_add,show 36-8*k%36+8*k%36=36 by omega]
    exact hp36
   have hor:=or_low (p / 2^(8*k%36)) q (36-8*k%36) hdv (by omega) (Nat.lt_of_le_of_lt (Nat.div_le_self _ _) hp36)
   rw [hv] at hor
   have hcast:((p / 2^(8*k%36):Nat):Int)=(p:Int) / 2^(8*k%36):=by simp
   rw [hcast,show IntKind.i64.wrap ((q:Int)*2^(36-8*k%36))=wrap64 ((q:Int)*2^(36-8*k%36)) from i64_wrap64 _] at hor
   have e1:(8*(k:Int) / 36).toNat=8*k / 36:=by omega
   have e2:(8*(k:Int) / 36+1).toNat=8*k / 36+1:=by omega
   have e3:(8*(k:Int)%36).toNat=8*k%36:=by omega
   have e4:(36-8*(k:Int)%36).toNat=36-8*k%36:=by omega
   clear hcast hdv hv hb8 hp hq
   go_wp2_with fail
   have ka:=cell_regrown cx;have kb:=cell_regrown cy
   refine qap 16 (by kernel_rfl) (by kernel_rfl) ?_
   simp only [take_succ_cons,List.take_zero,drop_succ_cons,List.drop_zero]
   repeat (first | go_big_quiet_step (fail) | quiet_step (fail))
   refine wpQuiet_nil ?_
   intro W1 hb1;have hlw:=qab HO.out
   have hG1:=qaa hb1 (by omega) HG.out
   have hO1:=qaa hb1 hlw HO.out;have r1:=bheap_set hO1 k b8;rw [hs] at r1
   have co:=bcell_at hO1 k (by rw [outF_length _ _ (by omega)];exact hlt)
   have fo:=frozen_of_row W1 (B+1) k _ _ hO1;have HO2:=hid r1
   have HG2:=hid (show (W1.setCell ⟨B+1,k,none⟩ (.int .u8 (b8.toNat:Int))).heap[B]?=some (.cells (nuC (X:Int)) 113) from by rw [heap_setCell_other _ _ _ _ (by simp)];exact hG1)
   have hb2:Below B w (W1.setCell ⟨B+1,k,none⟩ (.int .u8 (b8.toNat:Int))):=(hb.trans (hb1.mono (by omega))).setCell (by simp) _
   clear r1 hb hb1 HG HO hs hG1 hO1 hlw ka kb cx cy
   go_wp2_with fail
   go_roundw
   case rel=>exact ⟨k+1,by omega,by go_num,HG2.out,HO2.out,hb2⟩
   case measure=>simp [intOf];omega
  ·have hd:decide ((k:Int)<32)=false:=by simp;omega
   obtain rfl:k=32:=by omega
   rw [outF_full] at HO;have hl:=qa2 X 32;have hc:=qbl wr (B+1) 32 (leF X 32) (qch HO.out)
   have sl:=qcQ 153 32 (B+1) (by kernel_rfl) (by kernel_rfl) (by kernel_rfl) (by omega)
   rw [hl] at hc;generalize hrow:leF X 32=row at *;have HROW:=hid hrow;clear hrow
   go_wp2_with fail
   go_ret
   exact ⟨by rw [HROW.out];rfl,by rw [HBB.out];exact hb⟩
end
section
open Go.RowKit Go.Sort
set_option maxHeartbeats 1000000 in
theorem wide_any (s:ByteArray) (w:World) (hT:OrdQ w) :
  Calls Tryz.prog 110 #[.string s] w fun e w'=>e=.returned (.tuple #[.string (qc5 s),.int .i64 (qdA s)])∧Below w.heap.size w w':=by
 by_cases h:s.size=64
 ·have hd:((s.size:Int) != 64)=false:=by simp [h]
  have C1:=hid (fun W hW=>qfb s W (by omega) hW)
  have C2:=hid (fun W=>bytesN_any (nV s.data.toList%lF) W)
  have HX:Hid (qc5 s=⟨(leF (nV s.data.toList%lF) 32).toArray⟩∧qdA s=0):=hid (by rw [qc5,qdA,if_pos h,if_pos h];exact ⟨rfl,rfl⟩)
  have HT:=hid hT;generalize nV s.data.toList%lF=x at *;clear h hT
  go_enter Tryz.func110,Tryz.ntmps110
  go_wp2_with fail
  refine (C1.out w HT.out).mono ?_
  rintro e W1 ⟨rfl,b1⟩
  go_wp2_with fail
  refine (C2.out W1).mono ?_
  rintro e W2 ⟨rfl,b2⟩;have b2:=b1.trans (b2.mono b1.size)
  go_wp2_with fail
  go_ret2
  exact ⟨by rw [HX.out.1,HX.out.2];rfl,b2⟩
 ·have hd:((s.size:Int) != 64)=true:=by simp;omega
  have HX:Hid (qc5 s=⟨#[]⟩∧qdA s=1):=hid (by rw [qc5,qdA,if_neg h,if_neg h];exact ⟨rfl,rfl⟩)
  clear h
  go_enter Tryz.func110,Tryz.ntmps110
  go_wp2_with fail
  go_ret2
  exact ⟨by rw [HX.out.1,HX.out.2];rfl,Below.refl _ _⟩
set_option maxHeartbeats 1000000 in
theorem mulAddOk_any (a b c:ByteArray) (w:World) (ha:a.size=32) (hb:b.size=32) (hc:c.size=32) (hT:OrdQ w) :
  Calls Tryz.prog 57 #[.string a,.string b,.string c] w fun e w'=>e=.returned (.tuple #[.string (txtN ((nV a.data.toList*nV b.data.toList+nV c.data.toList)%lF)),.int .i64 0])∧Below w.heap.size w w':=by
 have d1:((a.size:Int) != 32)=false:=by simp [ha]
 have d2:((b.size:Int) != 32)=false:=by simp [hb]
 have d3:((c.size:Int) != 32)=false:=by simp [hc]
 have hmod:=ma_mod (nV a.data.toList) (nV b.data.toList) (nV c.data.toList);have hB:nV b.data.toList%lF<lF:=Nat.mod_lt _ lF_pos;have hC:nV c.data.toList%lF<lF:=Nat.mod_lt _ lF_pos;have hS:nV b.data.toList%lF*nV a.data.toList%lF<lF:=Nat.mod_lt _ lF_pos
 have C1:=hid (fun W hW=>qfb b W (by omega) hW)
 have C2:=hid (fun W hW=>scaledN_any (nV b.data.toList%lF) a W hB (by omega) hW)
 have C3:=hid (fun W hW=>qfb c W (by omega) hW)
 generalize nV b.data.toList%lF*nV a.data.toList%lF=S at *;generalize nV c.data.toList%lF=C at *
 have hbnd:∀ j,j<8→0≤(limI 7 (S:Int)).getD j 0+(limI 7 (C:Int)).getD j 0∧(limI 7 (S:Int)).getD j 0+(limI 7 (C:Int)).getD j 0≤137438953472:=fun j hj=>by
  have h1:=qeY S hS j;have h2:=qeY C hC j
  omega
 have C4:=hid (fun W=>plusN_any (limI 7 (S:Int)) (limI 7 (C:Int)) W (qaO 7 _) (qaO 7 _) (fun j hj=>by have:=hbnd j hj;omega))
 have C5:=hid (fun W hW=>reducedN_any (adI (limI 7 (S:Int)) (limI 7 (C:Int))) (S+C) W (qeP _ _ 8 (qaO 7 _) (qaO 7 _)) (fun j hj=>by
  have:=hbnd j hj
  rw [adI_get _ _ _ (by rw [qaO];omega) (by rw [qaO];omega)]
  omega) (by rw [adI_val _ _ (by rw [qaO,qaO]),qeq,qeq];simp) (by omega) hW)
 have C6:=hid (fun W=>bytesN_any ((S+C)%lF) W)
 rw [show ic (limI 7 (S:Int))=nuC (S:Int) from rfl,show ic (limI 7 (C:Int))=nuC (C:Int) from rfl] at C4
 generalize adI (limI 7 (S:Int)) (limI 7 (C:Int))=t at *;rw [hmod] at C5 C6;generalize nV b.data.toList%lF=B at *;generalize hr:(nV a.data.toList*nV b.data.toList+nV c.data.toList)%lF=r at *;have HRr:=hid hr;have HT:=hid hT;clear hr hmod hB hC hS hbnd hT ha hb hc
 go_enter Tryz.func57,Tryz.ntmps57
 go_wp2_with fail
 refine (C1.out w HT.out).mono ?_
 rintro e W1 ⟨rfl,bk⟩;have hb:=bk;have HP:=hid (HT.out.step bk);clear bk HT
 go_wp2_with fail
 refine (C2.out W1 HP.out).mono ?_
 rintro e W2 ⟨rfl,bk⟩;replace hb:=hb.trans (bk.mono hb.size);replace HP:=hid (HP.out.step bk);clear bk
 go_wp2_with fail
 refine (C3.out W2 HP.out).mono ?_
 rintro e W3 ⟨rfl,bk⟩;replace hb:=hb.trans (bk.mono hb.size);replace HP:=hid (HP.out.step bk);clear bk
 go_wp2_with fail
 refine (C4.out W3).mono ?_
 rintro e W4 ⟨rfl,bk⟩;replace hb:=hb.trans (bk.mono hb.size);replace HP:=hid (HP.out.step bk);clear bk
 go_wp2_with fail
 refine (C5.out W4 HP.out).mono ?_
 rintro e W5 ⟨rfl,bk⟩;replace hb:=hb.trans (bk.mono hb.size);clear bk HP
 go_wp2_with fail
 refine (C6.out W5).mono ?_
 rintro e W6 ⟨rfl,bk⟩;replace hb:=hb.trans (bk.mono hb.size);clear bk
 go_wp2_with fail
 go_ret2
 exact ⟨by first | rfl | (rw [HRr.out];rfl),hb⟩
set_option maxHeartbeats 1000000 in
theorem mulAddBad_any (a b c:ByteArray) (w:World) (h:¬ okM a b c) :
  Calls Tryz.prog 57 #[.string a,.string b,.string c] w fun e w'=>e=.returned (.tuple #[.string ⟨#[]⟩,.int .i64 1])∧w'=w:=by
 by_cases ha:a.size=32
 ·have d1:((a.size:Int) != 32)=false:=by simp [ha]
  by_cases hb:b.size=32
  ·have hc:c.size≠32:=fun hc=>h ⟨ha,hb,hc⟩
   have d2:((b.size:Int) != 32)=false:=by simp [hb]
   have d3:((c.size:Int) != 32)=true:=by simp;omega
   clear h ha hb hc
   go_enter Tryz.func57,Tryz.ntmps57
   go_wp2_with fail
   go_ret2
   exact ⟨rfl,rfl⟩
  ·have d2:((b.size:Int) != 32)=true:=by simp;omega
   clear h ha hb
   go_enter Tryz.func57,Tryz.ntmps57
   go_wp2_with fail
   go_ret2
   exact ⟨rfl,rfl⟩
 ·have d1:((a.size:Int) != 32)=true:=by simp;omega
  clear h ha
  go_enter Tryz.func57,Tryz.ntmps57
  go_wp2_with fail
  go_ret2
  exact ⟨rfl,rfl⟩
theorem mulAdd_any (a b c:ByteArray) (w:World) (hT:OrdQ w) :
  Calls Tryz.prog 57 #[.string a,.string b,.string c] w fun e w'=>e=.returned (.tuple #[.string (maX a b c),.int .i64 (maE a b c)])∧Below w.heap.size w w':=by
 by_cases h:okM a b c
 ·rw [maX,maE,if_pos h,if_pos h]
  exact mulAddOk_any a b c w h.1 h.2.1 h.2.2 hT
 ·rw [maX,maE,if_neg h,if_neg h]
  exact (mulAddBad_any a b c w h).mono fun e w' ⟨h1,h2⟩=>⟨h1,h2▸Below.refl _ _⟩
end
end Go.Proofs.YteomfleofeeofaaGreatDoor
