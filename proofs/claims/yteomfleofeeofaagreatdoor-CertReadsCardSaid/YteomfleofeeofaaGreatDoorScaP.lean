/- The program's sums and products of limbs, and the carries. -/
import Derived.Test.YteomfleofeeofaaGreatDoorScaA
import Derived.Test.YteomfleofeeofaaGreatDoorFldP
namespace Go.Proofs.YteomfleofeeofaaGreatDoor
open Go.Lib (hid)
open _root_.List (take_succ_cons drop_succ_cons)
set_option maxHeartbeats 16000000
open Go.Proofs.Tryz
set_option maxRecDepth 100000
set_option linter.unusedSimpArgs false
set_option linter.unusedVariables false
section
open Go.RowKit Go.Sort
def ic(l:List Int):Array Value:=(l.map fun x:Int=>Value.int .i64 x).toArray
theorem ic_size(l:List Int):(ic l).size=l.length:=by simp[ic]
theorem ic_get(l:List Int)(j:Nat)(h:j<l.length):(ic l)[j]?=some (.int .i64 (l.getD j 0)):=by simp[ic,h]
theorem ic_set(l:List Int)(j:Nat)(x:Int):(ic l).setIfInBounds j (.int .i64 x)=ic (l.set j x):=by simp[ic,List.map_set]
theorem ic_one(l:List Int):(ic l).all (·.oneCell')=true:=by
 rw[Array.all_eq_true];intro i hi;simp[ic,Value.oneCell']
theorem qdj{W:World}{B:Nat}{l:List Int}{T:TypeId}{fr:Nat×Nat}(h:W.heap[B]?=some (.cells (ic l) T fr))(j:Nat)(hj:j<l.length):W.cell? ⟨B,j,none⟩=some (.int .i64 (l.getD j 0)):=by rw[jco W _ _ _ _ _ h];exact ic_get l j hj
theorem qfj{W:World}{B:Nat}{l:List Int}{T:TypeId}(h:W.heap[B]?=some (.cells (ic l) T))(j:Nat)(x:Int):(W.setCell ⟨B,j,none⟩ (.int .i64 x)).heap[B]?=some (.cells (ic (l.set j x)) T):=by rw[← ic_set];exact Go.heap_setCell_same _ _ _ _ _ _ h
def izeros8:Array Value:=ic (List.replicate 8 0)
theorem infoN:(Tryz.prog.info? 113).map (fun i=>(i.zero,i.size))=some (some (.agg izeros8),8):=by kernel_rfl
theorem sizeN(l:List Int)(h:l.length=8):(Tryz.prog.info? 113).map (·.size)=some (ic l).size:=by rw[ic_size,h];exact (jzi infoN).2
theorem qeE(l:List Int)(h:l.length=8):izeros8.size=(ic l).size:=by rw[ic_size,h];exact ic_size _
theorem qgR(l:List Int)(v:Int)(w:World)(hl:l.length=8)(z7:∀ j,j<8→-9223372036854775808≤l.getD j 0*v∧l.getD j 0*v<9223372036854775808):Rt 174 #[.agg (ic l),.int .i64 v] w (.agg (ic (tmI l v))):=by
 unfold Rt;obtain⟨hz,hi⟩:=jzi infoN;have z2:=hid (qah (o:=.cells izeros8 113) (qad w (.cells (ic l) 113)));have z3:=hid (qaz w (.cells (ic l) 113) (.cells izeros8 113));have z6:=qaL w (.cells (ic l) 113) (.cells izeros8 113);obtain⟨m,hm⟩:∃ m,m=tmI l v:=⟨_,rfl⟩;have HM:=hid hm;have z9:m.length=8:=by rw[hm,qdv,hl]
 have zd:=hid (fun j=>show m.getD j 0=l.getD j 0*v by rw[hm,tmI_get]);have HL:=hid hl;have z0:=hid z9;have zc:=hid z7;have z4:=hid (mixI_zero l m);clear hi hm hl z9 z7;go_enter func174,ntmps174;go_wp2_with fail;clear hz;generalize ((w.alloc _).alloc _)=W0 at *;generalize z5:w.heap.size=B at *;have za:=hid z5;clear z5
 go_loopw [6] (fun i wr=>∃ k:Nat,k≤8∧i=.int .i64 (k:Int)∧wr.heap[B]?=some (.cells (ic (mixI l m k)) 113)∧wr.heap[B+1]?=some (.cells izeros8 113)∧Below B w wr) (fun i _=>8-(intOf i).toNat)
 case atStart=>exact⟨0,by omega,rfl,by rw[z4.out];exact z2.out,z3.out,z6⟩
 case round=>
  clear z2 z3 z6;obtain⟨k,hk,rfl,hg,hr,hb⟩:=hrel;have HG:=hid hg;have HR:=hid hr;clear hg hr;by_cases z1:k<8
  ·have hd:decide ((k:Int)<8)=true:=by simp;omega
   have HS:=hid (mixI_set l m k 8 HL.out z0.out z1);have hll:=mixI_length l m k 8 HL.out z0.out (by omega);have cx:=qdj HG.out k (by omega);rw[mixI_get l m k 8 HL.out z0.out z1]at cx;have hbd:=zc.out k z1;have z8:=zd.out k;have fx:=jfr wr B k _ _ HG.out;have r1:=qfj HG.out k (m.getD k 0);rw[HS.out]at r1;generalize l.getD k 0=x at *;generalize mixI l m k=u at *;rw[z8]at r1;have zb:=hid r1;have ze:=hid (show (wr.setCell ⟨B,k,none⟩ (.int .i64 (x*v))).heap[B+1]?=some (.cells izeros8 113) from by rw[jso _ _ _ _ (by simp<;>omega)];exact HR.out);have zf:Below B w (wr.setCell ⟨B,k,none⟩ (.int .i64 (x*v))):=hb.setCell (by simp) _;have hw:wrap64 (x*v)=x*v:=by unfold wrap64;omega
   clear r1 hb HR HG HS z8;go_wp2_with fail;go_roundw
   case rel=>exact⟨k+1,by omega,by go_num,zb.out,ze.out,zf⟩
   case measure=>simp[intOf];omega
  ·have hd:decide ((k:Int)<8)=false:=by simp;omega
   obtain rfl:k=8:=by omega
   rw[mixI_full l m 8 HL.out z0.out]at HG;have HI:=hid (sizeN m z0.out);have HO:=hid (qeE m z0.out);have H1:=hid (ic_one m);clear z4;go_wp2_with (first
    | (with_reducible refine jlw rfl 113 _ rfl B rfl 113 _ (0,0) _ HG.out underlying113 rfl HI.out ?_)
    | (with_reducible refine jsr rfl 113 _ _ rfl (B+1) (ic m) rfl rfl 113 _ HR.out HI.out HO.out H1.out ?_))
   exact jpr (v:=.agg (ic m)) (jrc (by rfl) _ _ (B+1) 113 _ (0,0) _ rfl (jsh _ _ _ _ _ _ HR.out) underlying113 rfl HI.out) rfl ⟨by first|(with_reducible rfl)|rw[HM.out],by rw[za.out];exact jbr hb (by omega) _⟩
theorem plusN_any(a b:List Int)(w:World)(ha:a.length=8)(hb:b.length=8)(zd:∀ j,j<8→-9223372036854775808≤a.getD j 0+b.getD j 0∧a.getD j 0+b.getD j 0<9223372036854775808):Rt 113 #[.agg (ic a),.agg (ic b)] w (.agg (ic (adI a b))):=by
 unfold Rt;obtain⟨hz,hi⟩:=jzi infoN;have z5:=hid (qah (o:=.cells izeros8 113) (qah (o:=.cells (ic b) 113) (qad w (.cells (ic a) 113))));have z4:=hid (qah (o:=.cells izeros8 113) (qaz w (.cells (ic a) 113) (.cells (ic b) 113)));have z6:=hid (qby w (.cells (ic a) 113) (.cells (ic b) 113) (.cells izeros8 113));have zb:=qbd w (.cells (ic a) 113) (.cells (ic b) 113) (.cells izeros8 113);obtain⟨m,hm⟩:∃ m,m=adI a b:=⟨_,rfl⟩;have HM:=hid hm;have zf:m.length=8:=by rw[hm,qgA a b 8 ha hb]
 have zl:=hid (fun j (hj:j<8)=>show m.getD j 0=a.getD j 0+b.getD j 0 by rw[hm,adI_get a b j (by omega) (by omega)]);have HL:=hid ha;have zj:=hid hb;have z0:=hid zf;have zk:=hid zd;have z7:=hid (mixI_zero a m);clear hi hm ha hb zf zd;go_enter func113,ntmps113;go_wp2_with fail;clear hz;generalize (((w.alloc _).alloc _).alloc _)=W0 at *;generalize z8:w.heap.size=B at *;have zg:=hid z8;clear z8
 go_loopw [6] (fun i wr=>∃ k:Nat,k≤8∧i=.int .i64 (k:Int)∧wr.heap[B]?=some (.cells (ic (mixI a m k)) 113)∧wr.heap[B+1]?=some (.cells (ic b) 113)∧wr.heap[B+1+1]?=some (.cells izeros8 113)∧Below B w wr) (fun i _=>8-(intOf i).toNat)
 case atStart=>exact⟨0,by omega,rfl,by rw[z7.out];exact z5.out,z4.out,z6.out,zb⟩
 case round=>
  clear z5 z4 z6 zb;obtain⟨k,hk,rfl,hg,zc,hr,hb⟩:=hrel;have HG:=hid hg;have HD:=hid zc;have HR:=hid hr;clear hg hr zc;by_cases z2:k<8
  ·have hd:decide ((k:Int)<8)=true:=by simp;omega
   have HS:=hid (mixI_set a m k 8 HL.out z0.out z2);have hll:=mixI_length a m k 8 HL.out z0.out (by omega);have cx:=qdj HG.out k (by omega);rw[mixI_get a m k 8 HL.out z0.out z2]at cx;have cy:=qdj HD.out k (by rw[zj.out];exact z2);have hbd:=zk.out k z2;have zm:=hid (zl.out k z2);generalize a.getD k 0=x at *;generalize b.getD k 0=y at *;generalize mixI a m k=u at *;have hw:wrap64 (x+y)=x+y:=by unfold wrap64;omega
   have hw2:IntKind.i64.wrap (x+y)=x+y:=by rw[IntKind.wrap_i64];omega
   go_wp2_with fail;have ka:=jcr cx;have kb:=jcr cy;refine qak 8 (by kernel_rfl) (by kernel_rfl) ?_;simp only[zks]
   repeat (first|go_big_quiet_step (fail)|quiet_step (fail))
   refine jqn ?_;intro W1 z1;have ze:=qac HR.out;have z3:=qap z1 (by omega) HG.out;have z9:=qap z1 (by omega) HD.out;have za:=qap z1 ze HR.out;have fx:=jfr W1 B k _ _ z3;have cu:=qdj z3 k (by omega);have r1:=qfj z3 k (m.getD k 0);rw[HS.out,zm.out]at r1;have zi:=hid r1;have zh:=hid (show (W1.setCell ⟨B,k,none⟩ (.int .i64 (x+y))).heap[B+1]?=some (.cells (ic b) 113) from by rw[jso _ _ _ _ (by simp<;>omega)];exact z9);have zn:=hid (show (W1.setCell ⟨B,k,none⟩ (.int .i64 (x+y))).heap[B+1+1]?=some (.cells izeros8 113) from by rw[jso _ _ _ _ (by simp<;>omega)];exact za);have zo:Below B w (W1.setCell ⟨B,k,none⟩ (.int .i64 (x+y))):=(hb.trans (z1.mono (by omega))).setCell (by simp) _;clear r1 hb HR HG HD HS ka kb cx cy z3 z9 za ze z1;go_wp2_with fail;go_roundw
   case rel=>exact⟨k+1,by omega,by go_num,zi.out,zh.out,zn.out,zo⟩
   case measure=>simp[intOf];omega
  ·have hd:decide ((k:Int)<8)=false:=by simp;omega
   obtain rfl:k=8:=by omega
   rw[mixI_full a m 8 HL.out z0.out]at HG;have HI:=hid (sizeN m z0.out);have HO:=hid (qeE m z0.out);have H1:=hid (ic_one m);clear z7;go_wp2_with (first
    | (with_reducible refine jlw rfl 113 _ rfl B rfl 113 _ (0,0) _ HG.out underlying113 rfl HI.out ?_)
    | (with_reducible refine jsr rfl 113 _ _ rfl (B+1+1) (ic m) rfl rfl 113 _ HR.out HI.out HO.out H1.out ?_))
   exact jpr (v:=.agg (ic m)) (jrc (by rfl) _ _ (B+1+1) 113 _ (0,0) _ rfl (jsh _ _ _ _ _ _ HR.out) underlying113 rfl HI.out) rfl ⟨by first|(with_reducible rfl)|rw[HM.out],by rw[zg.out];exact jbr hb (by omega) _⟩
theorem and_36(y:Int):bits .and .i64 y 68719476735=y%68719476736:=by
 have h1:(BitVec.ofInt 64 68719476735).toNat=2^36-1:=by decide
 have key:(BitVec.ofInt 64 y &&& BitVec.ofInt 64 68719476735).toNat=(y%((2^64:Nat):Int)).toNat%2^36:=by
  rw[BitVec.toNat_and,BitVec.toNat_ofInt,h1,Nat.and_two_pow_sub_one_eq_mod]
 show IntKind.i64.wrap ((BitVec.ofInt 64 y &&& BitVec.ofInt 64 68719476735).toNat:Nat)=y%68719476736;rw[key,IntKind.wrap_i64];omega
theorem carriedN_any(l:List Int)(w:World)(hl:l.length=8)(z7:∀ j,j<8→-2305843009213693952≤l.getD j 0∧l.getD j 0≤2305843009213693952):Rt 175 #[.agg (ic l)] w (.agg (ic (limI 7 (vI l)))):=by
 unfold Rt;obtain⟨hz,hi⟩:=jzi infoN;have z2:=hid (show ((w.alloc (.cells (ic l) 113)).alloc (.cells izeros8 113)).heap[w.heap.size]?=some (.cells (ic (carI 0 l)) 113) from qah (o:=.cells izeros8 113) (qad w (.cells (ic l) 113)));have z3:=hid (qaz w (.cells (ic l) 113) (.cells izeros8 113));have z6:=qaL w (.cells (ic l) 113) (.cells izeros8 113);have HL:=hid hl;have HB:=hid (fun k=>carI_bound l k hl z7);have HF:=hid (carI_full 7 l hl);clear hi hl z7;go_enter func175,ntmps175;go_wp2_with fail;clear hz;generalize ((w.alloc _).alloc _)=W0 at *;generalize z4:w.heap.size=B at *;have zb:=hid z4;clear z4
 go_loopw [4] (fun i wr=>∃ k:Nat,k≤7∧i=.int .i64 (k:Int)∧wr.heap[B]?=some (.cells (ic (carI k l)) 113)∧wr.heap[B+1]?=some (.cells izeros8 113)∧Below B w wr) (fun i _=>7-(intOf i).toNat)
 case atStart=>exact⟨0,by omega,rfl,z2.out,z3.out,z6⟩
 case round=>
  clear z2 z3 z6;obtain⟨k,hk,rfl,hg,hr,hb⟩:=hrel;have HG:=hid hg;have HR:=hid hr;clear hg hr;by_cases hlt:k<7
  ·have hd:decide ((k:Int)<7)=true:=by simp;omega
   have HS:=hid (carI_step k l (by rw[HL.out];omega));have zg:(carI k l).length=8:=by rw[carI_length,HL.out]
   have cx:=qdj HG.out k (by omega);have cy:=qdj HG.out (k+1) (by omega);have hbx:=HB.out k k;have hby:=HB.out k (k+1);have ze:=hid (show (carI k l).getD k 0=(carI k l).getD k 0 from rfl);generalize za:(carI k l).getD k 0=x at *;generalize zh:(carI k l).getD (k+1) 0=y at *;generalize carI k l=u at *;have hw:wrap64 (y+x/68719476736)=y+x/68719476736:=by unfold wrap64;omega
   have hw2:IntKind.i64.wrap (y+x/68719476736)=y+x/68719476736:=by rw[IntKind.wrap_i64];omega
   have hand:=and_36 x;have hk1:((k:Int)+1).toNat=k+1:=by omega
   have HU:=hid zg;have HX:=hid za;clear za zh ze;go_wp2_with fail;have ka:=jcr cx;have kb:=jcr cy;refine qak 10 (by kernel_rfl) (by kernel_rfl) ?_;simp only[zks]
   repeat (first|go_big_quiet_step (fail)|quiet_step (fail))
   refine jqn ?_;intro W1 z1;have z8:=qac HR.out;have z0:=qap z1 (by omega) HG.out;have z5:=qap z1 z8 HR.out;have fy:=jfr W1 B (k+1) _ _ z0;have cv:=qdj z0 (k+1) (by omega);have r1:=qfj z0 (k+1) (y+x/68719476736);have cu:=qdj r1 k (by rw[List.length_set];omega);have e1:(u.set (k+1) (y+x/68719476736)).getD k 0=x:=by rw[List.getD_eq_getElem?_getD,List.getElem?_set_ne (by omega),← List.getD_eq_getElem?_getD];exact HX.out
   rw[e1]at cu;have fx:=jfr _ B k _ _ r1;have r2:=qfj r1 k (x%68719476736);rw[HS.out]at r2;have zc:=hid r2;have zd:=hid (show ((W1.setCell ⟨B,k+1,none⟩ (.int .i64 (y+x/68719476736))).setCell ⟨B,k,none⟩ (.int .i64 (x%68719476736))).heap[B+1]?=some (.cells izeros8 113) from by rw[jso _ _ _ _ (by simp<;>omega),jso _ _ _ _ (by simp<;>omega)];exact z5);have zf:Below B w ((W1.setCell ⟨B,k+1,none⟩ (.int .i64 (y+x/68719476736))).setCell ⟨B,k,none⟩ (.int .i64 (x%68719476736))):=((hb.trans (z1.mono (by omega))).setCell (by simp) _).setCell (by simp) _;clear r1 r2 e1 hb HR HG HS ka kb cx cy z0 z5 z8 z1;go_wp2_with fail;go_roundw
   case rel=>exact⟨k+1,by omega,by go_num,zc.out,zd.out,zf⟩
   case measure=>simp[intOf];omega
  ·have hd:decide ((k:Int)<7)=false:=by simp;omega
   obtain rfl:k=7:=by omega
   rw[HF.out]at HG;have z9:=qbq 7 (vI l);generalize hm:limI 7 (vI l)=m at *;have HM:=hid hm;have HI:=hid (sizeN m z9);have HO:=hid (qeE m z9);have H1:=hid (ic_one m);clear hm;go_wp2_with (first
    | (with_reducible refine jlw rfl 113 _ rfl B rfl 113 _ (0,0) _ HG.out underlying113 rfl HI.out ?_)
    | (with_reducible refine jsr rfl 113 _ _ rfl (B+1) (ic m) rfl rfl 113 _ HR.out HI.out HO.out H1.out ?_))
   exact jpr (v:=.agg (ic m)) (jrc (by rfl) _ _ (B+1) 113 _ (0,0) _ rfl (jsh _ _ _ _ _ _ HR.out) underlying113 rfl HI.out) rfl ⟨by first|(with_reducible rfl)|rw[HM.out],by rw[zb.out];exact jbr hb (by omega) _⟩
def OrdQ(w:World):Prop:=∃ T fr,w.heap[2]?=some (.cells (ic ordI) T fr)
theorem OrdQ.lt{w:World}(h:OrdQ w):2 < w.heap.size:=by
 obtain⟨T,fr,h⟩:=h;exact qac h
theorem OrdQ.below{w w':World}{B:Nat}(h:OrdQ w)(hb:Below B w w')(hB:2 < B):OrdQ w':=by
 obtain⟨T,fr,h⟩:=h;exact⟨T,fr,(hb.block _ hB).trans h⟩
theorem OrdQ.step{w w':World}(h:OrdQ w)(hb:Below w.heap.size w w'):OrdQ w':=h.below hb h.lt
def nuC(X:Int):Array Value:=ic (limI 7 X)
theorem qdP(X:Int):(Tryz.prog.info? 113).map (·.size)=some (nuC X).size:=sizeN _ (qbq 7 X)
theorem qe7(X:Int):izeros8.size=(nuC X).size:=qeE _ (qbq 7 X)
theorem nuC_one(X:Int):(nuC X).all (·.oneCell')=true:=ic_one _
def topI(X:Int):Int:=X/7237005577332262213973186563042994240829374041602535252466099000494570602496
theorem ord_prod(q:Int)(h:-512≤q∧q≤512)(j:Nat):-35253091565568≤ordI.getD j 0*q∧ordI.getD j 0*q≤35253091565568:=by
 obtain⟨o,ho⟩:∃ o,ordI.getD j 0=o:=⟨_,rfl⟩;have hl:=ordI_low j;rw[ho]at hl ⊢;have e1:o*q≤o*512:=Int.mul_le_mul_of_nonneg_left h.2 hl.1;have e2:o*(-512)≤o*q:=Int.mul_le_mul_of_nonneg_left h.1 hl.1;omega
theorem lessN_any(X:Int)(w:World)(hX:-512≤topI X∧topI X≤512)(hT:OrdQ w):Rt 176 #[.agg (nuC X)] w (.agg (nuC (lesI X))):=by
 unfold Rt;obtain⟨hz,hi⟩:=jzi infoN;have hTl:=hT.lt;have hb:=qaL w (.cells (nuC X) 113) (.cells izeros8 113);have HP:=hid (hT.step hb);have H2:=hid (qah (o:=.cells izeros8 113) (qad w (.cells (nuC X) 113)));have H3:=hid (qaz w (.cells (nuC X) 113) (.cells izeros8 113));have Ix:=hid (qdP X);have Ip:=hid (sizeN ordI rfl);have Ir:=hid (qdP (lesI X));have Zr:=hid (qe7 (lesI X));have Or:=hid (nuC_one (lesI X));have h7:=limI_end X;have C1:=hid (fun W=>qgR ordI (-(topI X)) W rfl (fun j _=>by have:=ord_prod (-(topI X)) (by omega) j;omega));have C2:=hid (fun W=>plusN_any (limI 7 X) (tmI ordI (-(topI X))) W (qbq 7 X) (by rw[qdv];rfl) (fun j hj=>by
  have h2:=ord_prod (-(topI X)) (by omega) j;rw[tmI_get];by_cases h:j<7
  ·have:=limI_low 7 X j h;omega
  ·obtain rfl:j=7:=by omega
   rw[h7]
   change -9223372036854775808≤topI X+_∧topI X+_<9223372036854775808
   omega))
 have C3:=hid (fun W=>carriedN_any (adI (limI 7 X) (tmI ordI (-(topI X)))) W (qgA _ _ 8 (qbq 7 X) (by rw[qdv];rfl)) (fun j hj=>by
  have h2:=ord_prod (-(topI X)) (by omega) j;rw[adI_get _ _ _ (by rw[qbq];omega) (by rw[qdv];exact hj),tmI_get];by_cases h:j<7
  ·have:=limI_low 7 X j h;omega
  ·obtain rfl:j=7:=by omega
   rw[h7]
   change -2305843009213693952≤topI X+_∧topI X+_≤2305843009213693952
   omega))
 rw[show vI (adI (limI 7 X) (tmI ordI (-(topI X))))=lesI X from less_val X]at C3;have cx:((w.alloc (.cells (nuC X) 113)).alloc (.cells izeros8 113)).cell? ⟨w.heap.size,7,none⟩=some (.int .i64 (topI X)):=by
  have:=qdj H2.out 7 (by rw[qbq];decide);rw[h7]at this;exact this
 have z1:wrap64 (-(topI X)) = -(topI X):=by unfold wrap64;omega
 have z0:IntKind.i64.wrap (-(topI X)) = -(topI X):=by rw[IntKind.wrap_i64];omega
 have HG:=hid (show nuC X=ic (limI 7 X) from rfl);have z6:=hid (show ic (limI 7 (lesI X))=nuC (lesI X) from rfl);rw[z6.out]at C3;clear hi hX hT h7;go_enter func176,ntmps176;go_upto_region 1 with fail;clear hz;generalize ((w.alloc _).alloc _)=W0 at *;generalize z3:w.heap.size=B at *;have z5:=hid z3;clear z3;generalize tmI ordI (-(topI X))=tq at *;generalize adI (limI 7 X) tq=sq at *;generalize hr:lesI X=r at *;have z9:=hid hr;clear hr;obtain⟨TP,fr,hP⟩:=HP.out;have z8:=hid hP;clear HP hP;generalize ordI=P at *;rw[← HG.out]at C2;generalize topI X=q at *;refine qao 8 11 [.val (.agg (nuC X)) [(1,.pointer (some ⟨B,0,none⟩))],.val (.agg (ic P)) [],
  .val (.pointer (some ⟨B,7,none⟩)) [(1,.pointer (some ⟨B,0,none⟩))],.val (.int .i64 q) [(5,.pointer (some ⟨B,7,none⟩))],.val (.int .i64 (-q)) [(6,.int .i64 q)],
  .val (.agg (ic tq)) [(4,.agg (ic P)),(7,.int .i64 (-q))],.val (.agg (ic sq)) [(3,.agg (nuC X)),(8,.agg (ic tq))],.val (.agg (nuC r)) [(9,.agg (ic sq))]]
  (by kernel_rfl) (by kernel_rfl) rfl ?_ ?_ ?_
 ·simp only[take_succ_cons,List.take_zero,qaO,qaP,HeadSpec.val,HeadSpec.fresh,and_true];refine⟨?_,?_,?_,?_,?_,?_,?_,?_⟩
  ·intro a w hb h;exact qab 113 (.tmp 1) rfl B (sd0 h) 113 _ (0,0) _ (hkq H2 hb) underlying113 rfl Ix.out
  ·intro a w hb h;exact qab 113 (.global 2) rfl 2 rfl TP _ fr _ (hkq z8 hb) underlying113 rfl Ip.out
  ·intro a w hb h;simp[go_sem,rd0 h,qaa]
  ·intro a w hb h;have cc:=(hb.cell (jbc cx)).trans cx;simp[go_sem,rd0 h,qaa,cc]
  ·intro a w hb h;simp[go_sem,rd0 h,qaa,z1,z0]
  ·intro a w hb h;simp[go_sem,rd0 h,rd1 h,qaa];exact C1.out w
  ·intro a w hb h;simp[go_sem,rd0 h,rd1 h,qaa];exact C2.out w
  ·intro a w hb h;simp[go_sem,rd0 h,qaa];exact C3.out w
 ·simp[qay,qax,qaK,HeadSpec.val,HeadSpec.fresh,Act.put]
 ·simp only[zks,qaN,HeadSpec.val,HeadSpec.fresh,Act.put,List.setIfInBounds_toArray,List.set_cons_succ,List.set_cons_zero];intro v1 z2 zb;have HN:=hkp H3 z2;have z4:Below B w v1:=hb.trans (z2.mono (by have:=qac H3.out;omega));have z7:=hid (jsh v1 (B+1) _ (nuC r) _ _ HN.out);have za:Below B w (v1.setRow (B+1) (nuC r)):=jbr z4 (by omega) _;clear H2 H3 z4 z2 zb hb;go_wp2_with (with_reducible refine jsr rfl 113 _ _ rfl (B+1) (nuC r) rfl rfl 113 _ HN.out Ir.out Zr.out Or.out ?_);exact jpr (v:=.agg (nuC r)) (jrc (by rfl) _ _ (B+1) 113 _ (0,0) _ rfl z7.out underlying113 rfl Ir.out) rfl ⟨by rw[z9.out],by rw[z5.out];exact za⟩
theorem top_fits(X:Int)(h0:0≤X)(h1:X<511*(lF:Int)):(-512≤topI X∧topI X≤512)∧(-512≤topI (lesI X)∧topI (lesI X)≤512):=by
 have h2:=lesI_small X h0 h1;have e:(lF:Int)=7237005577332262213973186563042994240857116359379907606001950938285454250989:=rfl;unfold topI;rw[e]at h1;omega
theorem reducedN_any(l:List Int)(X:Nat)(w:World)(hl:l.length=8)(zb:∀ j,j<8→-2305843009213693952≤l.getD j 0∧l.getD j 0≤2305843009213693952)(hX:vI l=(X:Int))(h1:X<511*lF)(hT:OrdQ w):Rt 114 #[.agg (ic l)] w (.agg (nuC ((X%lF:Nat):Int))):=by
 unfold Rt;obtain⟨hz,hi⟩:=jzi infoN;have hb:=qaL w (.cells (ic l) 113) (.cells izeros8 113);have HP:=hid (hT.step hb);have H2:=hid (qah (o:=.cells izeros8 113) (qad w (.cells (ic l) 113)));have H3:=hid (qaz w (.cells (ic l) 113) (.cells izeros8 113));obtain⟨t1,t2⟩:=top_fits (X:Int) (by omega) (by omega);have Ix:=hid (sizeN l hl);have C1:=hid (fun W=>carriedN_any l W hl zb);have C2:=hid (fun W=>lessN_any (X:Int) W t1);have C3:=hid (fun W=>lessN_any (lesI (X:Int)) W t2);rw[hX,show ic (limI 7 (X:Int))=nuC (X:Int) from rfl]at C1;rw[lesI_two (X:Int) (by omega) (by omega),show (X:Int)%(lF:Int)=((X%lF:Nat):Int) by omega]at C3;have HTl:=hid hT.lt;clear hi hX hT t1 t2 h1 hl zb;go_enter func114,ntmps114;go_wp2_with (with_reducible refine jlw rfl 113 _ rfl w.heap.size rfl 113 _ (0,0) _ H2.out underlying113 rfl Ix.out ?_);clear hz;generalize ((w.alloc _).alloc _)=W0 at *;generalize za:w.heap.size=B at *;have zd:=hid za;clear za;have Ir:=hid (qdP ((X%lF:Nat):Int));have Zr:=hid (qe7 ((X%lF:Nat):Int));have Or:=hid (nuC_one ((X%lF:Nat):Int));generalize zh:lesI (X:Int)=x2 at *;generalize zc:((X%lF:Nat):Int)=x3 at *;have zf:=hid zc;clear zh zc;generalize (X:Int)=x1 at *;refine (C1.out W0).mono ?_;rintro e W1⟨rfl,z0⟩;have z2:=hkp H3 z0;have z4:=hid (HP.out.step z0)
 have z8:Below B w W1:=hb.trans (z0.mono (by have:=qac H3.out;omega));clear H2 H3 HP hb z0 C1;go_wp2_with fail;refine (C2.out W1 z4.out).mono ?_;rintro e W2⟨rfl,z1⟩;have z3:=hkp z2 z1;have z7:=hid (z4.out.step z1);have z9:Below B w W2:=z8.trans (z1.mono (by have:=qac z2.out;omega));clear z2 z4 z8 z1 C2;go_wp2_with fail;refine (C3.out W2 z7.out).mono ?_;rintro e W3⟨rfl,z5⟩;have z6:=hkp z3 z5;have zg:Below B w W3:=z9.trans (z5.mono (by have:=qac z3.out;omega));clear z3 z7 z9 z5 C3;have ze:=hid (jsh W3 (B+1) _ (nuC x3) _ _ z6.out);go_wp2_with (with_reducible refine jsr rfl 113 _ _ rfl (B+1) (nuC x3) rfl rfl 113 _ z6.out Ir.out Zr.out Or.out ?_);exact jpr (v:=.agg (nuC x3)) (jrc (by rfl) _ _ (B+1) 113 _ (0,0) _ rfl ze.out underlying113 rfl Ir.out) rfl ⟨by rw[zf.out],by rw[zd.out];exact jbr zg (by omega) _⟩
theorem nuC_low(X:Nat)(hX:X<lF)(j:Nat):0≤(limI 7 (X:Int)).getD j 0∧(limI 7 (X:Int)).getD j 0<68719476736:=by
 by_cases h:j<7
 ·exact limI_low 7 _ j h
 ·by_cases h7:j=7
  ·subst h7;rw[limI_end];have e:lF=7237005577332262213973186563042994240857116359379907606001950938285454250989:=rfl;rw[e]at hX;omega
  ·rw[List.getD_eq_getElem?_getD,List.getElem?_eq_none (by rw[qbq];omega)];decide
theorem qf6(x b:Int)(hx:0≤x∧x<68719476736)(hb:0≤b∧b≤256):0≤x*b∧x*b≤17592186044416:=by
 have e1:x*b≤x*256:=Int.mul_le_mul_of_nonneg_left hb.2 hx.1;have e2:0≤x*b:=Int.mul_nonneg hx.1 hb.1;omega
theorem nuC_nought:izeros8=nuC ((0:Nat):Int):=by rw[nuC,show limI 7 ((0:Nat):Int)=List.replicate 8 0 by decide +kernel];rfl
theorem scaledN_any(A:Nat)(s:ByteArray)(w:World)(hA:A<lF)(hs:s.size≤1000)(hT:OrdQ w):Rt 112 #[.agg (nuC (A:Int)),.string s] w (.agg (nuC ((A*nV s.data.toList%lF:Nat):Int))):=by
 unfold Rt;obtain⟨hz,hi⟩:=jzi infoN;have z4:=qbd w (.cells (nuC (A:Int)) 113) (.cells izeros8 113) (.cells izeros8 113);have HP:=hid (hT.step z4);have H2:=hid (qah (o:=.cells izeros8 113) (qah (o:=.cells izeros8 113) (qad w (.cells (nuC (A:Int)) 113))));have H3:=hid (qah (o:=.cells izeros8 113) (qaz w (.cells (nuC (A:Int)) 113) (.cells izeros8 113)));have H4:=hid (qby w (.cells (nuC (A:Int)) 113) (.cells izeros8 113) (.cells izeros8 113));have IA:=hid (qdP (A:Int));have zm:=hid hA;have zi:s.data.toList.length=s.size:=by simp
 have zr:=hid zi;have zb:Hid (izeros8=nuC ((A*nV (s.data.toList.drop s.size)%lF:Nat):Int)):=hid (by
  rw[List.drop_of_length_le (by omega),show nV []=0 from rfl,Nat.mul_zero,Nat.zero_mod];exact nuC_nought)
 have HQ:=hid hT.lt;have hw1:wrap64 ((s.size:Int)-1)=(s.size:Int)-1:=by unfold wrap64;omega
 clear hi hT hA zi;go_enter func112,ntmps112;go_wp2_with fail;clear hz;generalize (((w.alloc _).alloc _).alloc _)=W0 at *;generalize zc:w.heap.size=B at *;have zn:=hid zc;clear zc
 go_loopw [6] (fun iv wr=>∃ k:Nat,k≤s.size∧iv=.int .i64 ((k:Int)-1)∧wr.heap[B]?=some (.cells (nuC (A:Int)) 113)∧wr.heap[B+1]?=some (.cells izeros8 113)∧wr.heap[B+1+1]?=some (.cells (nuC ((A*nV (s.data.toList.drop k)%lF:Nat):Int)) 113)∧OrdQ wr∧Below B w wr) (fun iv _=>(intOf iv+1).toNat)
 case atStart=>exact⟨s.size,jlr _,rfl,H2.out,H3.out,by rw[← zb.out];exact H4.out,HP.out,z4⟩
 case round=>
  clear H2 H3 H4 z4 HP zb;obtain⟨k,hk,rfl,h2,h3,h4,hp,hb⟩:=hrel;have H2:=hid h2;have H3:=hid h3;have H4:=hid h4;have HP:=hid hp;clear h2 h3 h4 hp;by_cases zw:k=0
  ·subst zw;have hd:decide ((0:Int)≤((0:Nat):Int)-1)=false:=by decide
   rw[List.drop_zero]at H4;generalize hr:((A*nV s.data.toList%lF:Nat):Int)=r at *;have zq:=hid hr;clear hr;have Ir:=hid (qdP r);have Zr:=hid (qe7 r);have Or:=hid (nuC_one r);go_wp2_with (first
    | (with_reducible refine jlw rfl 113 _ rfl (B+1+1) rfl 113 _ (0,0) _ H4.out underlying113 rfl Ir.out ?_)
    | (with_reducible refine jsr rfl 113 _ _ rfl (B+1) (nuC r) rfl rfl 113 _ H3.out Ir.out Zr.out Or.out ?_))
   exact jpr (v:=.agg (nuC r)) (jrc (by rfl) _ _ (B+1) 113 _ (0,0) _ rfl (jsh _ _ _ _ _ _ H3.out) underlying113 rfl Ir.out) rfl ⟨by rw[zq.out],by rw[zn.out];exact jbr hb (by omega) _⟩
  ·obtain⟨t,rfl⟩:∃ t,k=t+1:=⟨k-1,by omega⟩;have z1:((t+1:Nat):Int)-1=(t:Int):=by omega
   rw[z1];have hd:decide ((0:Int)≤(t:Int))=true:=by simp
   have z6:t<s.size:=by omega
   have zf:s.data.toList.getD t 0=s[t]:=by rw[List.getD_eq_getElem?_getD,Array.getElem?_toList];simp[z6];rfl
   have z5:=nV_drop s.data.toList t (by rw[zr.out];exact z6);rw[zf]at z5;have hS:A*nV (s.data.toList.drop (t+1))%lF<lF:=Nat.mod_lt _ lF_pos;have z0:=nV_more A (nV (s.data.toList.drop (t+1))) s[t].toNat;rw[← z5]at z0;have zt:=UInt8.toNat_lt s[t];have HB8:=hid zt;generalize hSS:A*nV (s.data.toList.drop (t+1))%lF=S at *;generalize zd:A*nV (s.data.toList.drop t)%lF=R at *;have zp:=hid zd;clear zd;generalize zu:s[t].toNat=b at *;have zx:IntKind.i64.wrap (b:Int)=(b:Int):=by rw[IntKind.wrap_i64];omega
   have hA:=zm.out;have zh:256*S+b*A<511*lF:=by
    have:b*A≤255*A:=Nat.mul_le_mul_right _ (by omega);omega
   have C1:=hid (fun W=>qgR (limI 7 (S:Int)) 256 W (qbq 7 _) (fun j hj=>by have:=qf6 _ 256 (nuC_low S hS j) (by omega);omega));have C2:=hid (fun W=>qgR (limI 7 (A:Int)) (b:Int) W (qbq 7 _) (fun j hj=>by have:=qf6 _ (b:Int) (nuC_low A hA j) (by omega);omega));have z2:∀ j,j<8→0≤(tmI (limI 7 (S:Int)) 256).getD j 0+(tmI (limI 7 (A:Int)) (b:Int)).getD j 0∧(tmI (limI 7 (S:Int)) 256).getD j 0+(tmI (limI 7 (A:Int)) (b:Int)).getD j 0≤35184372088832:=fun j hj=>by
    have h1:=qf6 _ 256 (nuC_low S hS j) (by omega);have h2:=qf6 _ (b:Int) (nuC_low A hA j) (by omega);rw[tmI_get,tmI_get];omega
   have l1:(tmI (limI 7 (S:Int)) 256).length=8:=by rw[qdv,qbq]
   have l2:(tmI (limI 7 (A:Int)) (b:Int)).length=8:=by rw[qdv,qbq]
   have C3:=hid (fun W=>plusN_any (tmI (limI 7 (S:Int)) 256) (tmI (limI 7 (A:Int)) (b:Int)) W l1 l2 (fun j hj=>by have:=z2 j hj;omega));have C4:=hid (fun W=>reducedN_any (adI (tmI (limI 7 (S:Int)) 256) (tmI (limI 7 (A:Int)) (b:Int))) (256*S+b*A) W (qgA _ _ 8 l1 l2) (fun j hj=>by
    have:=z2 j hj;rw[adI_get _ _ _ (by omega) (by omega)];omega) (by
    rw[adI_val _ _ (by rw[l1,l2]),tmI_val,tmI_val,limI_val,limI_val];have:((256*S+b*A:Nat):Int)=256*(S:Int)+(b:Int)*(A:Int):=by simp
    rw[this,Int.mul_comm (A:Int),Int.mul_comm (S:Int)]) zh)
   rw[z0]at C4;have IS:=hid (qdP (S:Int));have IR:=hid (qdP (R:Int));have ZR:Hid ((nuC (S:Int)).size=(nuC (R:Int)).size):=hid ((qe7 _).symm.trans (qe7 _));have OR:=hid (nuC_one (R:Int));have e1:ic (limI 7 (S:Int))=nuC (S:Int):=rfl;have e2:ic (limI 7 (A:Int))=nuC (A:Int):=rfl;rw[e1]at C1;rw[e2]at C2;clear z0 zh z2 l1 l2 e1 e2 z5 zf hS hA z1;generalize tmI (limI 7 (S:Int)) 256=t1 at *;generalize tmI (limI 7 (A:Int)) (b:Int)=t2 at *;generalize adI t1 t2=t3 at *;obtain⟨Bs,hBs⟩:∃ x:Int,x=(b:Int):=⟨_,rfl⟩;go_wp2_with fail;refine qao 10 25 [.val (.agg (nuC (S:Int))) [(5,.pointer (some ⟨B+1+1,0,none⟩))],.val (.agg (ic t1)) [(14,.agg (nuC (S:Int)))],.val (.agg (nuC (A:Int))) [(2,.pointer (some ⟨B,0,none⟩))],
    .val (.string s) [(1,.string s)],.val (.int .i64 (t:Int)) [(6,.int .i64 (t:Int))],.val (.int .u8 (b:Int)) [(17,.string s),(18,.int .i64 (t:Int))],.val (.int .i64 (b:Int)) [(19,.int .u8 (b:Int))],
    .val (.agg (ic t2)) [(16,.agg (nuC (A:Int))),(20,.int .i64 (b:Int))],.val (.agg (ic t3)) [(15,.agg (ic t1)),(21,.agg (ic t2))],.val (.agg (nuC (R:Int))) [(22,.agg (ic t3))]]
    (by kernel_rfl) (by kernel_rfl) rfl ?_ ?_ ?_
   ·simp only[take_succ_cons,List.take_zero,qaO,qaP,HeadSpec.val,HeadSpec.fresh,and_true];refine⟨?_,?_,?_,?_,?_,?_,?_,?_,?_,?_⟩
    ·intro a w hb h;exact qab 113 (.tmp 5) rfl (B+1+1) (sd0 h) 113 _ (0,0) _ (hkq H4 hb) underlying113 rfl IS.out
    ·intro a w hb h;simp[go_sem,rd0 h,qaa];exact C1.out w
    ·intro a w hb h;exact qab 113 (.tmp 2) rfl B (sd0 h) 113 _ (0,0) _ (hkq H2 hb) underlying113 rfl IA.out
    ·intro a w hb h;simp[go_sem,rd0 h,qaa]
    ·intro a w hb h;simp[go_sem,rd0 h,qaa]
    ·intro a w hb h;simp[go_sem,rd0 h,rd1 h,qaa,z6,zu]
    ·intro a w hb h;simp[go_sem,rd0 h,qaa,zx]
    ·intro a w hb h;simp[go_sem,rd0 h,rd1 h,qaa];exact C2.out w
    ·intro a w hb h;simp[go_sem,rd0 h,rd1 h,qaa];exact C3.out w
    ·intro a w hb h;simp[go_sem,rd0 h,qaa];exact C4.out w (HP.out.step hb)
   ·simp[qay,qax,qaK,HeadSpec.val,HeadSpec.fresh,Act.put]
   ·simp only[zks,qaN,HeadSpec.val,HeadSpec.fresh,Act.put,List.setIfInBounds_toArray,List.set_cons_succ,List.set_cons_zero];intro v1 z3 zv;have zg:=qac H4.out;have z7:=hkp H2 z3;have z8:=hkp H3 z3;have z9:=hid (qap z3 zg H4.out);have za:=HP.out.step z3;have ze:Below B w v1:=hb.trans (z3.mono (by omega));have zl:=hid (jsh v1 (B+1+1) _ (nuC (R:Int)) _ _ z9.out);have zj:Hid ((v1.setRow (B+1+1) (nuC (R:Int))).heap[B]?=some (.cells (nuC (A:Int)) 113)):=hid (by rw[jro _ _ _ _ (by omega)];exact z7.out);have zk:Hid ((v1.setRow (B+1+1) (nuC (R:Int))).heap[B+1]?=some (.cells izeros8 113)):=hid (by rw[jro _ _ _ _ (by omega)];exact z8.out);have zs:Below B w (v1.setRow (B+1+1) (nuC (R:Int))):=jbr ze (by omega) _;have zo:=hid (za.below (jbr (Below.refl B v1) (show B≤B+1+1 by omega) (nuC (R:Int))) HQ.out);clear H2 H3 H4 HP ze z3 zv hb z7 z8 za zg;go_wp2_with (with_reducible refine jsr rfl 113 _ _ rfl (B+1+1) (nuC (R:Int)) rfl rfl 113 _ z9.out IR.out ZR.out OR.out ?_);go_roundw
    case rel=>exact⟨t,by omega,by go_num,zj.out,zk.out,by rw[zp.out];exact zl.out,zo.out,zs⟩
    case measure=>simp[intOf]<;>omega
theorem build_unit(w:World):(Instr.build 113 #[(0,.int .i64 1)]).run Tryz.prog w=.ok (.agg (nuC ((1:Nat):Int))) w:=by
 rw[nuC,show limI 7 ((1:Nat):Int)=[1,0,0,0,0,0,0,0] by decide +kernel];exact run_build w 113 _ _ (by kernel_rfl)
theorem wpList_build_unit{ops:Array Oper}{rest:List Oper}{o:Oper}{a:Act}{w:World}{Q:Exit→Act→World→Prop}(hg:o.guard=none)(x:Operand)(ho:o.op=.build 113 #[(0,x)])(hx:a.eval x=.int .i64 1)
  (h:wpList Tryz.prog ops Q rest (a.put o.dst (.agg (nuC ((1:Nat):Int)))) w):wpList Tryz.prog ops Q (o :: rest) a w:=
 wpList_plain hg fun _ hK=>qei 113 #[(0,x)] ho (nuC ((1:Nat):Int)) (by
  have e:(#[(0,x)]:Array (Nat×Operand)).map (fun (i,x)=>(i,a.eval x))=#[(0,a.eval x)]:=by simp
  rw[e,hx];exact build_unit w) (hK _ _ h)
theorem lF_big:1<lF:=by decide
theorem numberOf_any(s:ByteArray)(w:World)(hs:s.size≤1000)(hT:OrdQ w):Rt 111 #[.string s] w (.agg (nuC ((nV s.data.toList%lF:Nat):Int))):=by
 unfold Rt;obtain⟨hz,hi⟩:=jzi infoN;have hb:=qaf w (.cells izeros8 113);have HP:=hid (hT.step hb);have H2:=hid (qad w (.cells izeros8 113));have C1:=hid (fun W=>scaledN_any 1 s W lF_big hs);rw[Nat.one_mul]at C1;have Ir:=hid (qdP ((nV s.data.toList%lF:Nat):Int));have Zr:=hid (qe7 ((nV s.data.toList%lF:Nat):Int));have Or:=hid (nuC_one ((nV s.data.toList%lF:Nat):Int));clear hi hT;go_enter func111,ntmps111;go_upto_region 1 with fail;clear hz;generalize (w.alloc _)=W0 at *;generalize z2:w.heap.size=B at *;have z3:=hid z2;clear z2;generalize hr:((nV s.data.toList%lF:Nat):Int)=r at *;have z4:=hid hr;clear hr;go_wp2_with (with_reducible refine wpList_build_unit rfl _ rfl rfl ?_);refine (C1.out W0 HP.out).mono ?_;rintro e W1⟨rfl,z0⟩;have z1:=hkp H2 z0;have z5:Below B w W1:=hb.trans (z0.mono (by have:=qac H2.out;omega));clear H2 HP hb z0 C1;go_wp2_with (with_reducible refine jsr rfl 113 _ _ rfl B (nuC r) rfl rfl 113 _ z1.out Ir.out Zr.out Or.out ?_);exact jpr (v:=.agg (nuC r)) (jrc (by rfl) _ _ B 113 _ (0,0) _ rfl (jsh _ _ _ _ _ _ z1.out) underlying113 rfl Ir.out) rfl ⟨by rw[z4.out],by rw[z3.out];exact jbr z5 (jlr _) _⟩
theorem low_wrap(z p:Nat):IntKind.i64.wrap ((z%18446744073709551616+p:Nat):Int)%256=(((p+z)%256:Nat):Int):=by
 rw[IntKind.wrap_i64];omega
theorem nat_wrap(z:Nat):(BitVec.ofInt 64 (IntKind.i64.wrap (z:Int))).toNat=z%18446744073709551616:=by
 rw[BitVec.toNat_ofInt,IntKind.wrap_i64];omega
theorem shl_part(q s N t:Nat)(hN:2^s*t=N):∃ u,q*2^s%N=2^s*u:=⟨q%t,by rw[← hN,Nat.mul_comm q,Nat.mul_mod_mul_left]⟩
theorem pow_parts(s:Nat)(hs:s≤64):2^s*2^(64-s)=18446744073709551616:=by
 rw[← Nat.pow_add,show s+(64-s)=64 by omega]
theorem or_low(p q s:Nat)(hp:p<2^s)(hs:s≤36)(h36:p<68719476736):bits .or .i64 (p:Int) (IntKind.i64.wrap ((q:Int)*2^s))%256=(((p+q*2^s)%256:Nat):Int):=by
 obtain⟨u,hu⟩:=shl_part q s 18446744073709551616 _ (pow_parts s (by omega));have e1:(BitVec.ofInt 64 (p:Int)).toNat=p:=by rw[BitVec.toNat_ofInt];omega
 have e3:((q:Int)*2^s)=((q*2^s:Nat):Int):=by simp
 rw[e3];generalize q*2^s=z at *;have e2:=nat_wrap z;show IntKind.i64.wrap (((BitVec.ofInt 64 (p:Int) ||| BitVec.ofInt 64 (IntKind.i64.wrap (z:Int))).toNat:Nat):Int)%256=_;rw[BitVec.toNat_or,e1,e2,hu,Nat.or_comm,← Nat.two_pow_add_eq_or_of_lt hp,← hu];exact low_wrap z p
theorem limb_pow(i:Nat):(68719476736:Int)^i=((2^(36*i):Nat):Int):=by rw[Nat.pow_mul];simp
theorem limI_nat(X i:Nat)(h:i<7):(limI 7 (X:Int)).getD i 0=((X/2^(36*i)%68719476736:Nat):Int):=by rw[limI_get 7 _ i h,limb_pow];simp
theorem limI_nat7(X:Nat):(limI 7 (X:Int)).getD 7 0=((X/2^252:Nat):Int):=by rw[limI_top,limb_pow];simp
theorem byte_at(X k:Nat)(hk:k<32):∃ p q:Nat,(limI 7 (X:Int)).getD (8*k/36) 0=(p:Int)∧(limI 7 (X:Int)).getD (8*k/36+1) 0=(q:Int)∧p<68719476736∧(p/2^(8*k%36)+q*2^(36-8*k%36))%256=X/256^k%256:=by
 have hi:8*k/36<7:=by omega
 refine⟨X/2^(36*(8*k/36))%68719476736,if 8*k/36+1<7 then X/2^(36*(8*k/36+1))%68719476736 else X/2^252,limI_nat X _ hi,?_,Nat.mod_lt _ (by decide),?_⟩
 ·split
  ·rename_i h;exact limI_nat X _ h
  ·rename_i h;rw[show 8*k/36+1=7 by omega];exact limI_nat7 X
 ·have hq:X/2^(36*(8*k/36+1))=X/2^(36*(8*k/36))/68719476736:=by rw[Nat.div_div_eq_div_mul,show 36*(8*k/36+1)=36*(8*k/36)+36 by omega,Nat.pow_add]
  have hX:X/256^k=X/2^(36*(8*k/36))/2^(8*k%36):=by
   rw[Nat.div_div_eq_div_mul,← Nat.pow_add,show 36*(8*k/36)+8*k%36=8*k by omega,Nat.pow_mul]
  rw[hX];refine limb36 _ _ (8*k%36) (by omega) ?_;split
  ·rename_i h;rw[hq];omega
  ·rename_i h;rw[← hq,show 8*k/36+1=7 by omega]
theorem i64_wrap64(x:Int):IntKind.i64.wrap x=wrap64 x:=by
 rw[IntKind.wrap_i64];unfold wrap64;omega
theorem bytesN_any(X:Nat)(w:World):Rt 115 #[.agg (nuC (X:Int))] w (.string ⟨(leF X 32).toArray⟩):=by
 unfold Rt;obtain⟨hz,hi⟩:=jzi infoB32;have z7:=hid (qah (o:=.cells qeg 153) (qad w (.cells (nuC (X:Int)) 113)));have z8:=hid (qaz w (.cells (nuC (X:Int)) 113) (.cells qeg 153));have zb:=qaL w (.cells (nuC (X:Int)) 113) (.cells qeg 153);clear hi;go_enter func115,ntmps115;go_wp2_with fail;clear hz;generalize ((w.alloc _).alloc _)=W0 at *;generalize z9:w.heap.size=B at *;have zg:=hid z9;clear z9
 go_loopw [7] (fun iv wr=>∃ k:Nat,k≤32∧iv=.int .i64 (k:Int)∧wr.heap[B]?=some (.cells (nuC (X:Int)) 113)∧wr.heap[B+1]?=some (.cells (qa0 (outF X k)) 153)∧Below B w wr) (fun iv _=>32-(intOf iv).toNat)
 case atStart=>exact⟨0,by omega,rfl,z7.out,z8.out,zb⟩
 case round=>
  clear z7 z8 zb;obtain⟨k,hk,rfl,hg,ho,hb⟩:=hrel;have HG:=hid hg;have HO:=hid ho;clear hg ho;by_cases z6:k<32
  ·have hd:decide ((k:Int)<32)=true:=by simp;omega
   obtain⟨p,q,hp,hq,z1,hv⟩:=byte_at X k z6;have cx:=qdj HG.out (8*k/36) (by rw[qbq];omega);have cy:=qdj HG.out (8*k/36+1) (by rw[qbq];omega);rw[hp]at cx;rw[hq]at cy;have hs:=outF_set X k z6;have zc:(UInt8.ofNat (X/256^k)).toNat=X/256^k%256:=by rw[UInt8.toNat_ofNat']
   rw[← zc]at hv;generalize UInt8.ofNat (X/256^k)=b8 at *;have hat:8*k%36≤32:=by omega
   have zd:p/2^(8*k%36)<2^(36-8*k%36):=by
    rw[Nat.div_lt_iff_lt_mul (Nat.pow_pos (by decide)),← Nat.pow_add,show 36-8*k%36+8*k%36=36 by omega];exact z1
   have zf:=or_low (p/2^(8*k%36)) q (36-8*k%36) zd (by omega) (Nat.lt_of_le_of_lt (Nat.div_le_self _ _) z1);rw[hv]at zf;have z0:((p/2^(8*k%36):Nat):Int)=(p:Int)/2^(8*k%36):=by simp
   rw[z0,show IntKind.i64.wrap ((q:Int)*2^(36-8*k%36))=wrap64 ((q:Int)*2^(36-8*k%36)) from i64_wrap64 _]at zf;have e1:(8*(k:Int)/36).toNat=8*k/36:=by omega
   have e2:(8*(k:Int)/36+1).toNat=8*k/36+1:=by omega
   have e3:(8*(k:Int)%36).toNat=8*k%36:=by omega
   have e4:(36-8*(k:Int)%36).toNat=36-8*k%36:=by omega
   clear z0 zd hv zc hp hq;go_wp2_with fail;have ka:=jcr cx;have kb:=jcr cy;refine qak 16 (by kernel_rfl) (by kernel_rfl) ?_;simp only[zks]
   repeat (first|go_big_quiet_step (fail)|quiet_step (fail))
   refine jqn ?_;intro W1 z4;have ze:=qac HO.out;have za:=qap z4 (by omega) HG.out;have z3:=qap z4 ze HO.out;have r1:=bheap_set z3 k b8;rw[hs]at r1;have co:=bcell_at z3 k (by rw[outF_length _ _ (by omega)];exact z6);have fo:=jfr W1 (B+1) k _ _ z3;have zi:=hid r1;have zh:=hid (show (W1.setCell ⟨B+1,k,none⟩ (.int .u8 (b8.toNat:Int))).heap[B]?=some (.cells (nuC (X:Int)) 113) from by rw[jso _ _ _ _ (by simp)];exact za);have zj:Below B w (W1.setCell ⟨B+1,k,none⟩ (.int .u8 (b8.toNat:Int))):=(hb.trans (z4.mono (by omega))).setCell (by simp) _;clear r1 hb z4 HG HO hs za z3 ze ka kb cx cy;go_wp2_with fail;go_roundw
   case rel=>exact⟨k+1,by omega,by go_num,zh.out,zi.out,zj⟩
   case measure=>simp[intOf];omega
  ·have hd:decide ((k:Int)<32)=false:=by simp;omega
   obtain rfl:k=32:=by omega
   rw[outF_full]at HO;have hl:=qbb X 32;have hc:=qbf wr (B+1) 32 (leF X 32) (qb0 HO.out);have sl:=qdg 153 32 (B+1) (by kernel_rfl) (by kernel_rfl) (by kernel_rfl) (by omega);rw[hl]at hc;generalize z2:leF X 32=row at *;have z5:=hid z2;clear z2;go_wp2_with fail;go_ret;exact⟨by rw[z5.out];rfl,by rw[zg.out];exact hb⟩
theorem wide_any(s:ByteArray)(w:World)(hT:OrdQ w):Rt 110 #[.string s] w (.tuple #[.string (qdF s),.int .i64 (qef s)]):=by
 unfold Rt;by_cases h:s.size=64
 ·have hd:((s.size:Int) != 64)=false:=by simp[h]
  have C1:=hid (fun W hW=>numberOf_any s W (by omega) hW);have C2:=hid (fun W=>bytesN_any (nV s.data.toList%lF) W);have HX:Hid (qdF s=⟨(leF (nV s.data.toList%lF) 32).toArray⟩∧qef s=0):=hid (by rw[qdF,qef,if_pos h,if_pos h];exact⟨rfl,rfl⟩);have HT:=hid hT;generalize nV s.data.toList%lF=x at *;clear h hT;go_enter func110,ntmps110;go_wp2_with fail;refine (C1.out w HT.out).mono ?_;rintro e W1⟨rfl,b1⟩;go_wp2_with fail;refine (C2.out W1).mono ?_;rintro e W2⟨rfl,b2⟩;have b2:=b1.trans (b2.mono b1.size);go_wp2_with fail;go_ret2;exact⟨by rw[HX.out.1,HX.out.2];rfl,b2⟩
 ·have hd:((s.size:Int) != 64)=true:=by simp;omega
  have HX:Hid (qdF s=⟨#[]⟩∧qef s=1):=hid (by rw[qdF,qef,if_neg h,if_neg h];exact⟨rfl,rfl⟩);clear h;go_enter func110,ntmps110;go_wp2_with fail;go_ret2;exact⟨by rw[HX.out.1,HX.out.2];rfl,Below.refl _ _⟩
theorem right_any(s:ByteArray)(w:World)(hT:OrdQ w):Rt 73 #[.string s] w (.bool (okR s)):=by
 unfold Rt;by_cases h:s.size=32
 ·have hd:((s.size:Int)==32)=true:=by simp[h]
  have C1:=hid (fun W hW=>numberOf_any s W (by omega) hW);have C2:=hid (fun W=>bytesN_any (nV s.data.toList%lF) W);have z0:((⟨(leF (nV s.data.toList%lF) 32).toArray⟩:ByteArray).toList==s.toList)=okR s:=by
   rw[Lib.toList_data,Lib.toList_data,okR,show (⟨(leF (nV s.data.toList%lF) 32).toArray⟩:ByteArray).data.toList=leF (nV s.data.toList%lF) 32 from rfl,right_same _ (by rw[← Lib.size_eq];exact h),h];simp
  have HT:=hid hT;generalize (⟨(leF (nV s.data.toList%lF) 32).toArray⟩:ByteArray)=t at *;generalize nV s.data.toList%lF=x at *;generalize okR s=q at *;clear h hT;go_enter func73,ntmps73;go_wp2_with fail;refine (C1.out w HT.out).mono ?_;rintro e W1⟨rfl,b1⟩;go_wp2_with fail;refine (C2.out W1).mono ?_;rintro e W2⟨rfl,b2⟩;have b2:=b1.trans (b2.mono b1.size);go_wp2_with fail;go_ret;exact⟨rfl,b2⟩
 ·have hd:((s.size:Int)==32)=false:=by simp;omega
  have z0:okR s=false:=by rw[okR,decide_eq_false h];rfl
  have HX:=hid z0;clear h z0;go_enter func73,ntmps73;go_wp2_with fail;go_ret;exact⟨by rw[HX.out];rfl,Below.refl _ _⟩
end
end Go.Proofs.YteomfleofeeofaaGreatDoor
