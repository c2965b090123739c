/- The program's words. -/
import Derived.Test.YteomfleofeeofaaGreatDoorBase
import Derived.Test.YteomfleofeeofaaGreatDoorMul64
import Derived.Test.YteomfleofeeofaaGreatDoorFldA
import Derived.Shelf.Spec.BitsCarry
import Derived.Laws.CopyRow
import Derived.Deep.Cut
import Derived.Laws.StructEq
import Derived.ChangeKeysEq
namespace Go.Proofs.YteomfleofeeofaaGreatDoor
open Go.Lib (hid)
open _root_.List (take_succ_cons drop_succ_cons set_cons_succ set_cons_zero setIfInBounds_toArray)
set_option maxHeartbeats 16000000
open Go.Proofs.Tryz
set_option maxRecDepth 100000
set_option linter.unusedSimpArgs false
set_option linter.unusedVariables false
section
open Go.RowKit Go.Sort
theorem add64_any(x y c:Nat)(hc:c≤1)(w:World):(callFunc 217 #[.int .u64 (x:Int),.int .u64 (y:Int),.int .u64 (c:Int)]).run Tryz.prog w =
  .ok (.value (.tuple #[.int .u64 (((x+y+c)%18446744073709551616:Nat):Int),.int .u64 (((x+y+c)/18446744073709551616:Nat):Int)])) w:=by
 rw[run_callFunc_extern func217 (by kernel_rfl) (by kernel_rfl) (by kernel_rfl) (e:=add64Entry) (by kernel_rfl),run_add64 x y c (by omega) (by omega) (by omega) (by omega)];simp only[Result.andThen];congr 5<;>omega
theorem add64_told{x y c z q:Nat}(hc:c≤1)(hz:(x+y+c)%18446744073709551616=z)(hq:(x+y+c)/18446744073709551616=q)(w:World):(callFunc 217 #[.int .u64 (x:Int),.int .u64 (y:Int),.int .u64 (c:Int)]).run Tryz.prog w =
  .ok (.value (.tuple #[.int .u64 (z:Int),.int .u64 (q:Int)])) w:=by subst hz hq;exact add64_any x y c hc w
theorem qgB{x y z q:Nat}(hz:(x+y)%18446744073709551616=z)(hq:(x+y)/18446744073709551616=q)(w:World):(callFunc 217 #[.int .u64 (x:Int),.int .u64 (y:Int),.int .u64 0]).run Tryz.prog w =
  .ok (.value (.tuple #[.int .u64 (z:Int),.int .u64 (q:Int)])) w:=add64_told (c:=0) (by omega) hz hq w
theorem sub64_any(x y b:Nat)(hb:b≤1)(w:World):(callFunc 218 #[.int .u64 (x:Int),.int .u64 (y:Int),.int .u64 (b:Int)]).run Tryz.prog w =
  .ok (.value (.tuple #[.int .u64 (((x+18446744073709551616-y-b)%18446744073709551616:Nat):Int),.int .u64 ((if x<y+b then 1 else 0:Nat):Int)])) w:=by
 rw[run_callFunc_extern func218 (by kernel_rfl) (by kernel_rfl) (by kernel_rfl) (e:=sub64Entry) (by kernel_rfl),run_sub64 x y b hb]
 rfl
theorem sub64_told{x y b z q:Nat}(hb:b≤1)(hz:(x+18446744073709551616-y-b)%18446744073709551616=z)(hq:(if x<y+b then 1 else 0)=q)(w:World):(callFunc 218 #[.int .u64 (x:Int),.int .u64 (y:Int),.int .u64 (b:Int)]).run Tryz.prog w =
  .ok (.value (.tuple #[.int .u64 (z:Int),.int .u64 (q:Int)])) w:=by subst hz hq;exact sub64_any x y b hb w
theorem word_parts(a b c d h l:Nat)(hc:c<18446744073709551616)(hd:d<18446744073709551616)(hh:c*d/18446744073709551616=h)(hl:c*d%18446744073709551616=l)(ha:a<18446744073709551616)(hb:b<18446744073709551616):((l+a)%18446744073709551616+b)%18446744073709551616=(a+b+c*d)%18446744073709551616∧h+(l+a)/18446744073709551616+((l+a)%18446744073709551616+b)/18446744073709551616=(a+b+c*d)/18446744073709551616∧(a+b+c*d)/18446744073709551616<18446744073709551616:=by
 have hm:c*d≤18446744073709551615*18446744073709551615:=Nat.mul_le_mul (by omega) (by omega);generalize c*d=m at *;omega
theorem sumProd_any(a b c d z q:Nat)(w:World)(ha:a<18446744073709551616)(hb:b<18446744073709551616)(hc:c<18446744073709551616)(hd:d<18446744073709551616)(hz:(a+b+c*d)%18446744073709551616=z)(hq:(a+b+c*d)/18446744073709551616=q):Calls Tryz.prog 202 #[.int .u64 (a:Int),.int .u64 (b:Int),.int .u64 (c:Int),.int .u64 (d:Int)] w fun e w'=>e=.returned (.tuple #[.int .u64 (z:Int),.int .u64 (q:Int)])∧w'=w:=by
 have HM:=hid (fun W=>Tryz.bits_Mul64 c d hc hd W);obtain⟨h,hh⟩:∃ h,c*d/18446744073709551616=h:=⟨_,rfl⟩;obtain⟨l,hl⟩:∃ l,c*d%18446744073709551616=l:=⟨_,rfl⟩;obtain⟨p1,p2,p3⟩:=word_parts a b c d h l hc hd hh hl ha hb;rw[hh,hl]at HM;rw[hz]at p1;rw[hq]at p2 p3;clear hz hq hc hd hh hl;obtain⟨y,hy⟩:∃ y,(l+a)%18446744073709551616=y:=⟨_,rfl⟩;obtain⟨o,ho⟩:∃ o,(l+a)/18446744073709551616=o:=⟨_,rfl⟩;obtain⟨u,hu⟩:∃ u,(y+b)/18446744073709551616=u:=⟨_,rfl⟩;rw[hy]at p1 p2;rw[ho,hu]at p2;have a1:=qgB hy ho;have a2:=qgB p1 hu;have w1:((h:Int)+(o:Int))%18446744073709551616=(h:Int)+(o:Int):=by omega
 have w2:((h:Int)+(o:Int)+(u:Int))%18446744073709551616=(q:Int):=by omega
 have w3:IntKind.u64.wrap ((h:Int)+(o:Int)+(u:Int))=(q:Int):=by rw[IntKind.wrap_u64];exact w2
 clear hy ho hu p1 p2 p3 ha hb;go_enter func202,ntmps202;go_wp2_with fail;refine (HM.out _).mono ?_;rintro e W1⟨rfl,rfl⟩;go_wp2_with fail;go_ret2;exact⟨rfl,rfl⟩
def nc(k:IntKind)(l:List Nat):Array Value:=(l.map fun n:Nat=>Value.int k (n:Int)).toArray
theorem nc_size(k:IntKind)(l:List Nat):(nc k l).size=l.length:=by simp[nc]
theorem nc_get(k:IntKind)(l:List Nat)(j:Nat)(h:j<l.length):(nc k l)[j]?=some (.int k ((l.getD j 0:Nat):Int)):=by simp[nc,h]
theorem nc_set(k:IntKind)(l:List Nat)(j:Nat)(x:Nat):(nc k l).setIfInBounds j (.int k (x:Int))=nc k (l.set j x):=by simp[nc,List.map_set]
theorem nc_one(k:IntKind)(l:List Nat):(nc k l).all (·.oneCell')=true:=by
 rw[Array.all_eq_true];intro i hi;simp[nc,Value.oneCell']
theorem nc_cell{k:IntKind}{W:World}{B:Nat}{l:List Nat}{T:TypeId}{fr:Nat×Nat}(h:W.heap[B]?=some (.cells (nc k l) T fr))(j:Nat)(hj:j<l.length):W.cell? ⟨B,j,none⟩=some (.int k ((l.getD j 0:Nat):Int)):=by rw[jco W _ _ _ _ _ h];exact nc_get k l j hj
theorem nc_heap_set{k:IntKind}{W:World}{B:Nat}{l:List Nat}{T:TypeId}(h:W.heap[B]?=some (.cells (nc k l) T))(j:Nat)(x:Nat):(W.setCell ⟨B,j,none⟩ (.int k (x:Int))).heap[B]?=some (.cells (nc k (l.set j x)) T):=by rw[← nc_set];exact Go.heap_setCell_same _ _ _ _ _ _ h
def uc(l:List Nat):Array Value:=nc .u64 l
def zeros4:Array Value:=uc (List.replicate 4 0)
theorem infoL:(Tryz.prog.info? 59).map (fun i=>(i.zero,i.size))=some (some (.agg zeros4),4):=by kernel_rfl
theorem qa9(l:List Nat):(uc l).size=l.length:=nc_size _ l
theorem qar(l:List Nat):(uc l).all (·.oneCell')=true:=nc_one _ l
theorem qbX{W:World}{B:Nat}{l:List Nat}{T:TypeId}{fr:Nat×Nat}(h:W.heap[B]?=some (.cells (uc l) T fr))(j:Nat)(hj:j<l.length):W.cell? ⟨B,j,none⟩=some (.int .u64 ((l.getD j 0:Nat):Int)):=nc_cell h j hj
theorem qb4{W:World}{B:Nat}{l:List Nat}{T:TypeId}(h:W.heap[B]?=some (.cells (uc l) T))(j:Nat)(x:Nat):(W.setCell ⟨B,j,none⟩ (.int .u64 (x:Int))).heap[B]?=some (.cells (uc (l.set j x)) T):=nc_heap_set h j x
theorem qcu(l:List Nat)(h:l.length=4):(Tryz.prog.info? 59).map (·.size)=some (uc l).size:=by rw[qa9,h];exact (jzi infoL).2
theorem qcM(l:List Nat)(h:l.length=4):zeros4.size=(uc l).size:=by rw[qa9,h];exact qa9 _
theorem plusL_any(x y:Nat)(w:World):Rt 186 #[.agg (uc (limN 4 x)),.agg (uc (limN 4 y))] w (.agg (uc (limN 4 (x+y)))):=by
 unfold Rt;obtain⟨hz,hi⟩:=jzi infoL;have z6:=qah (o:=.cells zeros4 59) (qah (o:=.cells (uc (limN 4 y)) 59) (qad w (.cells (uc (limN 4 x)) 59)));rw[← qcn 4 x (x+y)]at z6;have z4:=hid z6;have z9:=hid (qah (o:=.cells zeros4 59) (qaz w (.cells (uc (limN 4 x)) 59) (.cells (uc (limN 4 y)) 59)));have za:=hid (qby w (.cells (uc (limN 4 x)) 59) (.cells (uc (limN 4 y)) 59) (.cells zeros4 59));have zf:=qbd w (.cells (uc (limN 4 x)) 59) (.cells (uc (limN 4 y)) 59) (.cells zeros4 59);clear hi z6;rw[qcn]at z4;have zb:=hid (qcn 4 x (x+y));go_enter func186,ntmps186;go_wp2_with fail;clear hz;generalize (((w.alloc _).alloc _).alloc _)=W0 at *;generalize zc:w.heap.size=B at *;have zk:=hid zc;clear zc
 go_loopw [5,7] (fun c i wr=>∃ k:Nat,k≤4∧i=.int .i64 (k:Int)∧c=.int .u64 ((cyN x y 1 k:Nat):Int)∧wr.heap[B]?=some (.cells (uc (mixN 4 x (x+y) k)) 59)∧wr.heap[B+1]?=some (.cells (uc (limN 4 y)) 59)∧wr.heap[B+1+1]?=some (.cells zeros4 59)∧Below B w wr) (fun _ i _=>4-(intOf i).toNat)
 case atStart=>exact⟨0,by omega,rfl,by rw[cyN_zero];rfl,by rw[zb.out];exact z4.out,z9.out,za.out,zf⟩
 case round=>
  clear z4 z9 za zf;obtain⟨k,hk,rfl,rfl,hg,zi,hr,hb⟩:=hrel;have HG:=hid hg;have HD:=hid zi;have HR:=hid hr;clear hg hr zi;by_cases z8:k<4
  ·have hd:decide ((k:Int)<4)=true:=by simp;omega
   obtain⟨s1,s2⟩:=add_step x y k;have zg:=cyN_one x y k;have HS:=hid (qe4 4 x (x+y) k z8);have z7:=qbF 4 x (x+y) k;have cx:=qbX HG.out k (by omega);have cy:=qbX HD.out k (by rw[qae];omega);rw[qdo _ _ _ _ _ z8 (jlr _)]at cx;rw[qbn _ _ _ z8]at cy;have z1:=add64_told (x:=dg x k) (y:=dg y k) zg s1 s2;have zl:=hid (show cyN x y 1 (k+1)=cyN x y 1 (k+1) from rfl);generalize hv:mixN 4 x (x+y) k=u at *;generalize dg (x+y) k=z at *;generalize dg x k=p at *;generalize dg y k=q at *;generalize zh:cyN x y 1 (k+1)=c' at *;have zm:=hid zh;generalize cyN x y 1 k=c at *;clear s1 s2 zg zl zh hv;go_wp2_with fail;have ka:=jcr cx;have kb:=jcr cy;refine qfg 10 (.tmp 6) rfl rfl rfl rfl rfl rfl rfl rfl rfl (by kernel_rfl) (by kernel_rfl) (fun _ _ _ _ h=>h) (fun _ _ _ _ h=>h) (fun _ _ _ _ h=>h) ?_;simp only[zks]
   repeat (first|go_big_quiet_step (fail)|quiet_step (fail))
   refine jqn ?_;intro W1 z0;have zj:=qac HR.out;have z3:=qap z0 (by omega) HG.out;have zd:=qap z0 (by omega) HD.out;have ze:=qap z0 zj HR.out;have fx:=jfr W1 B k _ _ z3;have cu:=qbX z3 k (by omega);have r1:=qb4 z3 k z;rw[HS.out]at r1;have zo:=hid r1;have zn:=hid (show (W1.setCell ⟨B,k,none⟩ (.int .u64 (z:Int))).heap[B+1]?=some (.cells (uc (limN 4 y)) 59) from by rw[jso _ _ _ _ (by simp<;>omega)];exact zd);have zp:=hid (show (W1.setCell ⟨B,k,none⟩ (.int .u64 (z:Int))).heap[B+1+1]?=some (.cells zeros4 59) from by rw[jso _ _ _ _ (by simp<;>omega)];exact ze);have zq:Below B w (W1.setCell ⟨B,k,none⟩ (.int .u64 (z:Int))):=(hb.trans (z0.mono (by omega))).setCell (by simp) _;clear r1 hb HR HG HD HS ka kb cx cy z3 zd ze zj z0 z1;go_wp2_with fail;go_roundw
   case rel=>exact⟨k+1,by omega,by go_num,by rw[zm.out],zo.out,zn.out,zp.out,zq⟩
   case measure=>simp[intOf];omega
  ·have hd:decide ((k:Int)<4)=false:=by simp;omega
   obtain rfl:k=4:=by omega
   rw[qgc _ _ _ _ (jlr _)]at HG;have z7:=qae 4 (x+y);generalize z2:limN 4 (x+y)=row at *;have z5:=hid z2;clear z2;have HI:=hid (qcu row z7);have HO:=hid (qcM row z7);have H1:=hid (qar row);clear zb;go_wp2_with (first
    | (with_reducible refine jlw rfl 59 _ rfl B rfl 59 _ (0,0) _ HG.out underlying59 rfl HI.out ?_)
    | (with_reducible refine jsr rfl 59 _ _ rfl (B+1+1) (uc row) rfl rfl 59 _ HR.out HI.out HO.out H1.out ?_))
   exact jpr (v:=.agg (uc row)) (jrc (by rfl) _ _ (B+1+1) 59 _ (0,0) _ rfl (jsh _ _ _ _ _ _ HR.out) underlying59 rfl HI.out) rfl ⟨by first|(with_reducible rfl)|rw[z5.out],by rw[zk.out];exact jbr hb (by omega) _⟩
theorem minusL_any(x y:Nat)(w:World)(zr:y≤x):Rt 187 #[.agg (uc (limN 4 x)),.agg (uc (limN 4 y))] w (.agg (uc (limN 4 (x-y)))):=by
 unfold Rt;obtain⟨hz,hi⟩:=jzi infoL;have z6:=qah (o:=.cells zeros4 59) (qah (o:=.cells (uc (limN 4 y)) 59) (qad w (.cells (uc (limN 4 x)) 59)));rw[← qcn 4 x (x-y)]at z6;have z4:=hid z6;have z9:=hid (qah (o:=.cells zeros4 59) (qaz w (.cells (uc (limN 4 x)) 59) (.cells (uc (limN 4 y)) 59)));have za:=hid (qby w (.cells (uc (limN 4 x)) 59) (.cells (uc (limN 4 y)) 59) (.cells zeros4 59));have zf:=qbd w (.cells (uc (limN 4 x)) 59) (.cells (uc (limN 4 y)) 59) (.cells zeros4 59);clear hi z6;rw[qcn]at z4;have zb:=hid (qcn 4 x (x-y));go_enter func187,ntmps187;go_wp2_with fail;clear hz;generalize (((w.alloc _).alloc _).alloc _)=W0 at *;generalize zc:w.heap.size=B at *;have zk:=hid zc;clear zc
 go_loopw [5,7] (fun c i wr=>∃ k:Nat,k≤4∧i=.int .i64 (k:Int)∧c=.int .u64 ((cyN (x-y) y 1 k:Nat):Int)∧wr.heap[B]?=some (.cells (uc (mixN 4 x (x-y) k)) 59)∧wr.heap[B+1]?=some (.cells (uc (limN 4 y)) 59)∧wr.heap[B+1+1]?=some (.cells zeros4 59)∧Below B w wr) (fun _ i _=>4-(intOf i).toNat)
 case atStart=>exact⟨0,by omega,rfl,by rw[cyN_zero];rfl,by rw[zb.out];exact z4.out,z9.out,za.out,zf⟩
 case round=>
  clear z4 z9 za zf;obtain⟨k,hk,rfl,rfl,hg,zi,hr,hb⟩:=hrel;have HG:=hid hg;have HD:=hid zi;have HR:=hid hr;clear hg hr zi;by_cases z8:k<4
  ·have hd:decide ((k:Int)<4)=true:=by simp;omega
   obtain⟨s1,s2⟩:=sub_step x y k zr;have zg:=cyN_one (x-y) y k;have HS:=hid (qe4 4 x (x-y) k z8);have z7:=qbF 4 x (x-y) k;have cx:=qbX HG.out k (by omega);have cy:=qbX HD.out k (by rw[qae];omega);rw[qdo _ _ _ _ _ z8 (jlr _)]at cx;rw[qbn _ _ _ z8]at cy;have z1:=sub64_told (x:=dg x k) (y:=dg y k) zg s1 s2;have zl:=hid (show cyN (x-y) y 1 (k+1)=cyN (x-y) y 1 (k+1) from rfl);generalize hv:mixN 4 x (x-y) k=u at *;generalize dg (x-y) k=z at *;generalize dg x k=p at *;generalize dg y k=q at *;generalize zh:cyN (x-y) y 1 (k+1)=c' at *;have zm:=hid zh;generalize cyN (x-y) y 1 k=c at *;clear s1 s2 zg zl zh hv;go_wp2_with fail;have ka:=jcr cx;have kb:=jcr cy;refine qfg 10 (.tmp 6) rfl rfl rfl rfl rfl rfl rfl rfl rfl (by kernel_rfl) (by kernel_rfl) (fun _ _ _ _ h=>h) (fun _ _ _ _ h=>h) (fun _ _ _ _ h=>h) ?_;simp only[zks]
   repeat (first|go_big_quiet_step (fail)|quiet_step (fail))
   refine jqn ?_;intro W1 z0;have zj:=qac HR.out;have z3:=qap z0 (by omega) HG.out;have zd:=qap z0 (by omega) HD.out;have ze:=qap z0 zj HR.out;have fx:=jfr W1 B k _ _ z3;have cu:=qbX z3 k (by omega);have r1:=qb4 z3 k z;rw[HS.out]at r1;have zo:=hid r1;have zn:=hid (show (W1.setCell ⟨B,k,none⟩ (.int .u64 (z:Int))).heap[B+1]?=some (.cells (uc (limN 4 y)) 59) from by rw[jso _ _ _ _ (by simp<;>omega)];exact zd);have zp:=hid (show (W1.setCell ⟨B,k,none⟩ (.int .u64 (z:Int))).heap[B+1+1]?=some (.cells zeros4 59) from by rw[jso _ _ _ _ (by simp<;>omega)];exact ze);have zq:Below B w (W1.setCell ⟨B,k,none⟩ (.int .u64 (z:Int))):=(hb.trans (z0.mono (by omega))).setCell (by simp) _;clear r1 hb HR HG HD HS ka kb cx cy z3 zd ze zj z0 z1;go_wp2_with fail;go_roundw
   case rel=>exact⟨k+1,by omega,by go_num,by rw[zm.out],zo.out,zn.out,zp.out,zq⟩
   case measure=>simp[intOf];omega
  ·have hd:decide ((k:Int)<4)=false:=by simp;omega
   obtain rfl:k=4:=by omega
   rw[qgc _ _ _ _ (jlr _)]at HG;have z7:=qae 4 (x-y);generalize z2:limN 4 (x-y)=row at *;have z5:=hid z2;clear z2;have HI:=hid (qcu row z7);have HO:=hid (qcM row z7);have H1:=hid (qar row);clear zb;go_wp2_with (first
    | (with_reducible refine jlw rfl 59 _ rfl B rfl 59 _ (0,0) _ HG.out underlying59 rfl HI.out ?_)
    | (with_reducible refine jsr rfl 59 _ _ rfl (B+1+1) (uc row) rfl rfl 59 _ HR.out HI.out HO.out H1.out ?_))
   exact jpr (v:=.agg (uc row)) (jrc (by rfl) _ _ (B+1+1) 59 _ (0,0) _ rfl (jsh _ _ _ _ _ _ HR.out) underlying59 rfl HI.out) rfl ⟨by first|(with_reducible rfl)|rw[z5.out],by rw[zk.out];exact jbr hb (by omega) _⟩
theorem plusW_any(x v:Nat)(w:World):Rt 203 #[.agg (uc (limN 4 x)),.int .u64 (v:Int)] w (.agg (uc (limN 4 (x+v)))):=by
 unfold Rt;obtain⟨hz,hi⟩:=jzi infoL;have z3:=qah (o:=.cells zeros4 59) (qad w (.cells (uc (limN 4 x)) 59));rw[← qcn 4 x (x+v)]at z3;have z1:=hid z3;have z5:=hid (qaz w (.cells (uc (limN 4 x)) 59) (.cells zeros4 59));have z8:=qaL w (.cells (uc (limN 4 x)) 59) (.cells zeros4 59);clear hi z3;rw[qcn]at z1;have z6:=hid (qcn 4 x (x+v));go_enter func203,ntmps203;go_wp2_with fail;clear hz;generalize ((w.alloc _).alloc _)=W0 at *;generalize z7:w.heap.size=B at *;have zb:=hid z7;clear z7
 go_loopw [1,6] (fun c i wr=>∃ k:Nat,k≤4∧i=.int .i64 (k:Int)∧c=.int .u64 ((cwN x v k:Nat):Int)∧wr.heap[B]?=some (.cells (uc (mixN 4 x (x+v) k)) 59)∧wr.heap[B+1]?=some (.cells zeros4 59)∧Below B w wr) (fun _ i _=>4-(intOf i).toNat)
 case atStart=>exact⟨0,by omega,rfl,by rw[cwN_zero],by rw[z6.out];exact z1.out,z5.out,z8⟩
 case round=>
  clear z1 z5 z8;obtain⟨k,hk,rfl,rfl,hg,hr,hb⟩:=hrel;have HG:=hid hg;have HR:=hid hr;clear hg hr;by_cases za:k<4
  ·have hd:decide ((k:Int)<4)=true:=by simp;omega
   obtain⟨s1,s2⟩:=cwN_step x v k;have HS:=hid (qe4 4 x (x+v) k za);have z4:=qbF 4 x (x+v) k;have cx:=qbX HG.out k (by omega);rw[qdo _ _ _ _ _ za (jlr _)]at cx;have hcall:=qgB (x:=dg x k) (y:=cwN x v k) s1 s2;have zc:=hid (show cwN x v (k+1)=cwN x v (k+1) from rfl);generalize hv:mixN 4 x (x+v) k=u at *;generalize dg (x+v) k=z at *;generalize dg x k=p at *;generalize z9:cwN x v (k+1)=c' at *;have zd:=hid z9;generalize cwN x v k=c at *;clear s1 s2 zc z9 hv;have fx:=jfr wr B k _ _ HG.out;have r1:=qb4 HG.out k z;rw[HS.out]at r1;have ze:=hid r1;have zf:=hid (show (wr.setCell ⟨B,k,none⟩ (.int .u64 (z:Int))).heap[B+1]?=some (.cells zeros4 59) from by rw[jso _ _ _ _ (by simp<;>omega)];exact HR.out);have zg:Below B w (wr.setCell ⟨B,k,none⟩ (.int .u64 (z:Int))):=hb.setCell (by simp) _;clear r1 hb HR HG HS;go_wp2_with fail;go_roundw
   case rel=>exact⟨k+1,by omega,by go_num,by rw[zd.out],ze.out,zf.out,zg⟩
   case measure=>simp[intOf];omega
  ·have hd:decide ((k:Int)<4)=false:=by simp;omega
   obtain rfl:k=4:=by omega
   rw[qgc _ _ _ _ (jlr _)]at HG;have z4:=qae 4 (x+v);generalize z0:limN 4 (x+v)=row at *;have z2:=hid z0;clear z0;have HI:=hid (qcu row z4);have HO:=hid (qcM row z4);have H1:=hid (qar row);clear z6;go_wp2_with (first
    | (with_reducible refine jlw rfl 59 _ rfl B rfl 59 _ (0,0) _ HG.out underlying59 rfl HI.out ?_)
    | (with_reducible refine jsr rfl 59 _ _ rfl (B+1) (uc row) rfl rfl 59 _ HR.out HI.out HO.out H1.out ?_))
   exact jpr (v:=.agg (uc row)) (jrc (by rfl) _ _ (B+1) 59 _ (0,0) _ rfl (jsh _ _ _ _ _ _ HR.out) underlying59 rfl HI.out) rfl ⟨by first|(with_reducible rfl)|rw[z2.out],by rw[zb.out];exact jbr hb (by omega) _⟩
theorem qaC{P:Program}{fn:Func}{p u:Tmp}{ty:TypeId}(h:fn.results=#[.cell p ty,.tmp u])(tmps:Array Value)(w:World)(g:Nat)(t:TypeId)(cs:Array Value)(fr:Nat×Nat)(d:TypeDesc)
  (hp:tmps.getD p undef=.pointer (some ⟨g,0,none⟩)) (hg:w.heap[g]?=some (.cells cs t fr))
  (hu:P.underlying ty=some d) (hd:(match d with|.struct _|.array _ _=>true|_=>false)=true) (hi:(P.info? ty).map (·.size)=some cs.size) :
  (results fn tmps).run P w=.ok (.tuple #[.agg cs,tmps.getD u undef]) w:=by
 rw[results_cell_tmp h,hp];simp[asAddr,run_loadVar_row w g t ty cs fr d hg hu hd hi,Result.andThen]
theorem plusT_any(x y v:Nat)(w:World)(hv:v≤18446744073709551615):Rt 162 #[.agg (uc (limN 4 x)),.agg (uc (limN 4 y)),.int .u64 (v:Int)] w (.tuple #[.agg (uc (limN 4 (x+y*v))),.int .u64 ((cyN x y v 4:Nat):Int)]):=by
 unfold Rt;obtain⟨hz,hi⟩:=jzi infoL;have z5:=qah (o:=.cells zeros4 59) (qah (o:=.cells (uc (limN 4 y)) 59) (qad w (.cells (uc (limN 4 x)) 59)));rw[← qcn 4 x (x+y*v)]at z5;have z3:=hid z5;have z8:=hid (qah (o:=.cells zeros4 59) (qaz w (.cells (uc (limN 4 x)) 59) (.cells (uc (limN 4 y)) 59)));have z9:=hid (qby w (.cells (uc (limN 4 x)) 59) (.cells (uc (limN 4 y)) 59) (.cells zeros4 59));have ze:=qbd w (.cells (uc (limN 4 x)) 59) (.cells (uc (limN 4 y)) 59) (.cells zeros4 59);clear hi z5;rw[qcn]at z3;have za:=hid (qcn 4 x (x+y*v));go_enter func162,ntmps162;go_wp2_with fail;clear hz;generalize (((w.alloc _).alloc _).alloc _)=W0 at *;generalize zb:w.heap.size=B at *;have zj:=hid zb;clear zb
 go_loopw [8,10] (fun c i wr=>∃ k:Nat,k≤4∧i=.int .i64 (k:Int)∧c=.int .u64 ((cyN x y v k:Nat):Int)∧wr.heap[B]?=some (.cells (uc (mixN 4 x (x+y*v) k)) 59)∧wr.heap[B+1]?=some (.cells (uc (limN 4 y)) 59)∧wr.heap[B+1+1]?=some (.cells zeros4 59)∧Below B w wr) (fun _ i _=>4-(intOf i).toNat)
 case atStart=>exact⟨0,by omega,rfl,by rw[cyN_zero];rfl,by rw[za.out];exact z3.out,z8.out,z9.out,ze⟩
 case round=>
  clear z3 z8 z9 ze;obtain⟨k,hk,rfl,rfl,hg,zh,hr,hb⟩:=hrel;have HG:=hid hg;have HD:=hid zh;have HR:=hid hr;clear hg hr zh;by_cases z7:k<4
  ·have hd:decide ((k:Int)<4)=true:=by simp;omega
   obtain⟨s1,s2⟩:=cyN_step x y v k;have p1:=dg_lt x k;have p2:=dg_lt y k;have p3:=cyN_lt x y v k hv;rw[show cyN x y v k+(dg x k+dg y k*v)=dg x k+cyN x y v k+dg y k*v by rw[← Nat.add_assoc,Nat.add_comm (cyN x y v k)]]at s1 s2;have HS:=hid (qe4 4 x (x+y*v) k z7);have z6:=qbF 4 x (x+y*v) k;have cx:=qbX HG.out k (by omega);have cy:=qbX HD.out k (by rw[qae];omega);rw[qdo _ _ _ _ _ z7 (jlr _)]at cx;rw[qbn _ _ _ z7]at cy;have HC:=hid (fun W=>(sumProd_any (dg x k) (cyN x y v k) (dg y k) v _ _ W p1 p3 p2 (by omega) s1 s2).mono fun e W' h=>(⟨h.1,h.2▸Below.refl _ _⟩:_∧Below W.heap.size W W'));have zk:=hid (show cyN x y v (k+1)=cyN x y v (k+1) from rfl);generalize hv:mixN 4 x (x+y*v) k=u at *;generalize dg (x+y*v) k=z at *;generalize dg x k=p at *;generalize dg y k=q at *;generalize zf:cyN x y v (k+1)=c' at *;have zl:=hid zf;generalize cyN x y v k=c at *;clear s1 s2 p1 p2 p3 zk zf hv;go_wp2_with fail;have ka:=jcr cx;have kb:=jcr cy;refine qfg 11 (.tmp 9) rfl rfl rfl rfl rfl rfl rfl rfl rfl (by kernel_rfl) (by kernel_rfl) (fun _ _ _ _ h=>h) (fun _ _ _ _ h=>h) (fun _ _ _ _ h=>h) ?_;simp only[zks]
   repeat (first|go_big_quiet_step (exact Calls.regrown_of (HC.out _))|quiet_step (exact Calls.regrown_of (HC.out _)))
   refine jqn ?_;intro W1 z0;have zi:=qac HR.out;have z2:=qap z0 (by omega) HG.out;have zc:=qap z0 (by omega) HD.out;have zd:=qap z0 zi HR.out;have fx:=jfr W1 B k _ _ z2;have cu:=qbX z2 k (by omega);have r1:=qb4 z2 k z;rw[HS.out]at r1;have zo:=hid r1;have zn:=hid (show (W1.setCell ⟨B,k,none⟩ (.int .u64 (z:Int))).heap[B+1]?=some (.cells (uc (limN 4 y)) 59) from by rw[jso _ _ _ _ (by simp<;>omega)];exact zc);have zp:=hid (show (W1.setCell ⟨B,k,none⟩ (.int .u64 (z:Int))).heap[B+1+1]?=some (.cells zeros4 59) from by rw[jso _ _ _ _ (by simp<;>omega)];exact zd);have zq:Below B w (W1.setCell ⟨B,k,none⟩ (.int .u64 (z:Int))):=(hb.trans (z0.mono (by omega))).setCell (by simp) _;clear r1 hb HR HG HD HS ka kb cx cy z2 zc zd zi z0 HC;go_wp2_with fail;go_roundw
   case rel=>exact⟨k+1,by omega,by go_num,by rw[zl.out],zo.out,zn.out,zp.out,zq⟩
   case measure=>simp[intOf];omega
  ·have hd:decide ((k:Int)<4)=false:=by simp;omega
   obtain rfl:k=4:=by omega
   rw[qgc _ _ _ _ (jlr _)]at HG;have z6:=qae 4 (x+y*v);generalize z1:limN 4 (x+y*v)=row at *;have z4:=hid z1;generalize zg:cyN x y v 4=cv at *;have zm:=hid zg;clear zg;clear z1;have HI:=hid (qcu row z6);have HO:=hid (qcM row z6);have H1:=hid (qar row);clear za;go_wp2_with (first
    | (with_reducible refine jlw rfl 59 _ rfl B rfl 59 _ (0,0) _ HG.out underlying59 rfl HI.out ?_)
    | (with_reducible refine jsr rfl 59 _ _ rfl (B+1+1) (uc row) rfl rfl 59 _ HR.out HI.out HO.out H1.out ?_))
   exact jpr (qaC (by rfl) _ _ (B+1+1) 59 _ (0,0) _ rfl (jsh _ _ _ _ _ _ HR.out) underlying59 rfl HI.out) rfl ⟨by rw[z4.out,zm.out];rfl,by rw[zj.out];exact jbr hb (by omega) _⟩
def qfx:Array Value:=uc (List.replicate 8 0)
theorem infoL8:(Tryz.prog.info? 175).map (fun i=>(i.zero,i.size))=some (some (.agg qfx),8):=by kernel_rfl
theorem zeros8_row(x y:Nat):qfx=uc (limN 8 (rowW x y 0)):=by rw[rowW_zero];rfl
theorem blk_new5(w:World)(P R A D E:Obj):(((((w.alloc P).alloc R).alloc A).alloc D).alloc E).heap[w.heap.size+1+1+1+1]?=some E:=by
 have:=qad ((((w.alloc P).alloc R).alloc A).alloc D) E;simpa using this
theorem blkF_new4(w:World)(P R A D:Obj):((((w.alloc P).alloc R).alloc A).alloc D).heap[w.heap.size+1+1+1]?=some D:=by
 have:=qad (((w.alloc P).alloc R).alloc A) D;simpa using this
theorem below_new5(w:World)(P R A D E:Obj):Below w.heap.size w (((((w.alloc P).alloc R).alloc A).alloc D).alloc E):=((qbd w P R A).alloc (by simp;omega) _).alloc (by simp;omega) _
theorem qgJ(x j:Nat)(hj:j<4)(w:World):(Instr.index 59 (.agg (uc (limN 4 x))) (.int .i64 (j:Int))).run Tryz.prog w=.ok (.int .u64 ((dg x j:Nat):Int)) w:=by
 refine arr_index 59 57 4 j (uc (limN 4 x)) _ underlying59 (by kernel_rfl) (fun w=>?_) hj ?_ w
 ·unfold isAgg;rw[Sem.run_bind,run_underlying underlying57 w]
  rfl
 ·rw[uc,nc_get _ _ _ (by rw[qae];exact hj),qbn _ _ _ hj]
theorem cyR_lt(x y i j:Nat):cyR x y i j<18446744073709551616:=cyN_lt _ _ _ _ (by have:=dg_lt y i;omega)
theorem copy_words(V:World)(g b o c:Nat)(u m:List Nat)(hm:m.length=4)(hu:o+4≤u.length)(hj:∀ j,j<4→u.getD (o+j) 0=m.getD j 0)(hg:V.heap[g]?=some (.cells zeros4 59))(hb:V.heap[b]?=some (.cells (uc u) 175)):(Builtin.copy_ #[97, 97] 3 #[.slice (some ⟨g,0,none⟩) 4 4,.slice (some ⟨b,o,none⟩) 4 c]).run Tryz.prog V=.ok (.int .i64 4) (V.setRow g (uc m)):=by
 have h:=run_copy_row (P:=Tryz.prog) V 97 97 3 57 g 0 4 4 ⟨b,o,none⟩ 4 c zeros4 59 (m.map fun n:Nat=>Value.int .u64 (n:Int)) underlying97 (by kernel_rfl) hg (by simp[hm]) (fun j v hv=>by
   have z0:j<4:=by
    have:=(List.getElem?_eq_some_iff.1 hv).1;simpa[hm]using this
   have z1:v=.int .u64 ((m.getD j 0:Nat):Int):=by
    rw[List.getElem?_map,List.getElem?_eq_getElem (by omega)]at hv;rw[List.getD_eq_getElem?_getD,List.getElem?_eq_getElem (by omega)];simpa using hv.symm
   rw[Addr.add_lit,z1,← hj j z0];exact qbX hb (o+j) (by omega)) (by rw[show zeros4.size=4 from qa9 _];simp[hm]) (fun v hv=>by
   obtain⟨n,_,rfl⟩:=List.mem_map.1 hv
   rfl)
 rw[h];have e1:zeros4.toList.drop (0+(m.map fun n:Nat=>Value.int .u64 (n:Int)).length)=[]:=List.drop_of_length_le (by rw[Array.length_toList,show zeros4.size=4 from qa9 _];simp[hm]);rw[e1,List.take_zero,List.nil_append,List.append_nil];simp only[goInt,List.length_map,hm]
 rfl
theorem sliced_low8(a:Nat)(w:World):(Instr.sliceAt 175 (.pointer (some ⟨a,0,none⟩)) none (some (.int .i64 4)) none).run Tryz.prog w=.ok (.slice (some ⟨a,0,none⟩) 4 8) w:=by
 rw[run_sliceAt_array_h w 175 ⟨a,0,none⟩ (by kernel_rfl) .i64 4 (by omega) (by rw[show Tryz.prog.arrayLen 175=8 from by kernel_rfl];omega),qgD (by kernel_rfl)]
 rfl
theorem sliced_high8(a:Nat)(w:World):(Instr.sliceAt 175 (.pointer (some ⟨a,0,none⟩)) (some (.int .i64 4)) none none).run Tryz.prog w=.ok (.slice (some ⟨a,4,none⟩) 4 4) w:=by
 rw[run_sliceAt_array_l w 175 ⟨a,0,none⟩ (by kernel_rfl) .i64 4 (by omega) (by rw[show Tryz.prog.arrayLen 175=8 from by kernel_rfl];omega),qgD (by kernel_rfl)]
 rfl
theorem timesL_any(x y:Nat)(w:World)(hx:x<bw 4)(hy:y<bw 4):Rt 160 #[.agg (uc (limN 4 x)),.agg (uc (limN 4 y))] w (.tuple #[.agg (uc (limN 4 (x*y%mF))),.agg (uc (limN 4 (x*y/mF)))]):=by
 unfold Rt;obtain⟨hz,hi⟩:=jzi infoL;obtain⟨yd,y7⟩:=jzi infoL8;have HX:=hid hx;have HY:=hid hy;have zn:=hid (qah (o:=.cells qfx 175) (qah (o:=.cells zeros4 59) (qah (o:=.cells zeros4 59) (qah (o:=.cells (uc (limN 4 y)) 59) (qad w (.cells (uc (limN 4 x)) 59))))));have zb:=hid (qah (o:=.cells qfx 175) (qah (o:=.cells zeros4 59) (qah (o:=.cells zeros4 59) (qaz w (.cells (uc (limN 4 x)) 59) (.cells (uc (limN 4 y)) 59)))));have zr:=hid (qah (o:=.cells qfx 175) (qah (o:=.cells zeros4 59) (qby w (.cells (uc (limN 4 x)) 59) (.cells (uc (limN 4 y)) 59) (.cells zeros4 59))));have zw:=hid (qah (o:=.cells qfx 175) (blkF_new4 w (.cells (uc (limN 4 x)) 59) (.cells (uc (limN 4 y)) 59) (.cells zeros4 59) (.cells zeros4 59)));have zD:=hid (blk_new5 w (.cells (uc (limN 4 x)) 59) (.cells (uc (limN 4 y)) 59) (.cells zeros4 59) (.cells zeros4 59) (.cells qfx 175))
 have zG:=below_new5 w (.cells (uc (limN 4 x)) 59) (.cells (uc (limN 4 y)) 59) (.cells zeros4 59) (.cells zeros4 59) (.cells qfx 175);have zT:=hid (qcu (limN 4 x) (qae _ _));have zU:=hid (qcu (limN 4 y) (qae _ _));have zE:=hid (zeros8_row x y);clear hi y7 hx hy;go_enter func160,ntmps160;go_wp2_with (with_reducible refine jlw rfl 59 _ rfl (w.heap.size+1) rfl 59 _ (0,0) _ zb.out underlying59 rfl zU.out ?_);clear yd;generalize (((((w.alloc _).alloc _).alloc _).alloc _).alloc _)=W0 at *;generalize zF:w.heap.size=B at *;have zQ:=hid zF;clear zF
 go_loopw [15] (fun iv wr=>∃ i:Nat,i≤4∧iv=.int .i64 (i:Int)∧wr.heap[B]?=some (.cells (uc (limN 4 x)) 59)∧wr.heap[B+1]?=some (.cells (uc (limN 4 y)) 59)∧wr.heap[B+1+1]?=some (.cells zeros4 59)∧wr.heap[B+1+1+1]?=some (.cells zeros4 59)∧wr.heap[B+1+1+1+1]?=some (.cells (uc (limN 8 (rowW x y i))) 175)∧Below B w wr) (fun iv _=>4-(intOf iv).toNat)
 case atStart=>exact⟨0,by omega,rfl,zn.out,zb.out,zr.out,zw.out,by rw[← zE.out];exact zD.out,zG⟩
 case round=>
  clear zn zb zr zw zD zG;obtain⟨i,hi,rfl,hg,z8,hr,hs,za,hb⟩:=hrel;have HG:=hid hg;have HD:=hid z8;have HR:=hid hr;have HS:=hid hs;have HO:=hid za;clear hg hr z8 za hs;by_cases ya:i<4
  ·have hd:decide ((i:Int)<4)=true:=by simp;omega
   have ix:=qgJ y i ya;go_wp2_with (with_reducible refine jlw rfl 59 _ rfl B rfl 59 _ (0,0) _ HG.out underlying59 rfl zT.out ?_);clear ix
   go_loopw [9,20] (fun cv jv wr=>∃ j:Nat,j≤4∧jv=.int .i64 (j:Int)∧cv=.int .u64 ((cyR x y i j:Nat):Int)∧wr.heap[B]?=some (.cells (uc (limN 4 x)) 59)∧wr.heap[B+1]?=some (.cells (uc (limN 4 y)) 59)∧wr.heap[B+1+1]?=some (.cells zeros4 59)∧wr.heap[B+1+1+1]?=some (.cells zeros4 59)∧wr.heap[B+1+1+1+1]?=some (.cells (uc (mixN 8 (rowW x y i) (rowW x y (i+1)) (i+j))) 175)∧Below B w wr) (fun _ jv _=>4-(intOf jv).toNat)
   case atStart=>exact⟨0,by omega,rfl,by rw[cyR,cyN_zero];rfl,HG.out,HD.out,HR.out,HS.out,by rw[show mixN 8 (rowW x y i) (rowW x y (i+1)) (i+0)=limN 8 (rowW x y i) from row_begin 8 x y i];exact HO.out,hb⟩
   case round=>
    clear HG HD HR HS HO hb;obtain⟨j,hj,rfl,rfl,hg,z8,hr,hs,za,hb⟩:=hrel;have HG:=hid hg;have HD:=hid z8;have HR:=hid hr;have HS:=hid hs;have HO:=hid za;clear hg hr z8 za hs;by_cases zl:j<4
    ·have y6:decide ((j:Int)<4)=true:=by simp;omega
     have ix:=qgJ x j zl;obtain⟨s1,s2⟩:=row_step x y i j;have HC:=hid (sumProd_any (dg (rowW x y i) (i+j)) (cyR x y i j) (dg x j) (dg y i) _ _ wr (dg_lt _ _) (cyR_lt _ _ _ _) (dg_lt _ _) (dg_lt _ _) s1 s2);have cz:=qbX HO.out (i+j) (by rw[qbF];omega);rw[qdo _ _ _ _ _ (by omega) (jlr _)]at cz;have r1:=qb4 HO.out (i+j) (dg (rowW x y (i+1)) (i+j));rw[qe4 _ _ _ _ (by omega)]at r1;have fx:=jfr wr (B+1+1+1+1) (i+j) _ _ HO.out;have y8:((i:Int)+(j:Int)).toNat=i+j:=by omega
     have y9:=qbF 8 (rowW x y i) (rowW x y (i+1)) (i+j);generalize dg (rowW x y (i+1)) (i+j)=z at *;have z0:=hid r1;have zd:=hid (show (wr.setCell ⟨B+1+1+1+1,i+j,none⟩ (.int .u64 (z:Int))).heap[B]?=some (.cells (uc (limN 4 x)) 59) from by rw[jso _ _ _ _ (by simp<;>omega)];exact HG.out);have zc:=hid (show (wr.setCell ⟨B+1+1+1+1,i+j,none⟩ (.int .u64 (z:Int))).heap[B+1]?=some (.cells (uc (limN 4 y)) 59) from by rw[jso _ _ _ _ (by simp<;>omega)];exact HD.out);have z3:=hid (show (wr.setCell ⟨B+1+1+1+1,i+j,none⟩ (.int .u64 (z:Int))).heap[B+1+1]?=some (.cells zeros4 59) from by rw[jso _ _ _ _ (by simp<;>omega)];exact HR.out);have z4:=hid (show (wr.setCell ⟨B+1+1+1+1,i+j,none⟩ (.int .u64 (z:Int))).heap[B+1+1+1]?=some (.cells zeros4 59) from by rw[jso _ _ _ _ (by simp<;>omega)];exact HS.out);have z5:Below B w (wr.setCell ⟨B+1+1+1+1,i+j,none⟩ (.int .u64 (z:Int))):=hb.setCell (by simp;omega) _;generalize dg (rowW x y i) (i+j)=p at *;generalize mixN 8 (rowW x y i) (rowW x y (i+1)) (i+j)=u at *;generalize cyR x y i j=c at *;generalize zK:cyR x y i (j+1)=c' at *;have zR:=hid zK;generalize dg x j=q at *;clear r1 HG HD HR HS hb s1 s2 zK;go_wp2_with fail;clear ix;refine HC.out.mono ?_;rintro e W1⟨rfl,rfl⟩;go_wp2_with fail;go_roundw
     case rel=>exact⟨j+1,by omega,by go_num,by rw[zR.out],zd.out,zc.out,z3.out,z4.out,by rw[← Nat.add_assoc];exact z0.out,z5⟩
     case measure=>simp[intOf];omega
    ·have y6:decide ((j:Int)<4)=false:=by simp;omega
     obtain rfl:j=4:=by omega
     have y8:((i:Int)+4).toNat=i+4:=by omega
     rw[row_last x y i HX.out];have r1:=qb4 HO.out (i+4) (dg (rowW x y (i+1)) (i+4));rw[qe4 _ _ _ _ (by omega),show i+4+1=i+5 from rfl,row_end _ _ _ _ HX.out]at r1;have cz:=qbX HO.out (i+4) (by rw[qbF];omega);have fx:=jfr wr (B+1+1+1+1) (i+4) _ _ HO.out;have y9:=qbF 8 (rowW x y i) (rowW x y (i+1)) (i+4);generalize dg (rowW x y (i+1)) (i+4)=z at *;have z0:=hid r1;have zd:=hid (show (wr.setCell ⟨B+1+1+1+1,i+4,none⟩ (.int .u64 (z:Int))).heap[B]?=some (.cells (uc (limN 4 x)) 59) from by rw[jso _ _ _ _ (by simp<;>omega)];exact HG.out);have zc:=hid (show (wr.setCell ⟨B+1+1+1+1,i+4,none⟩ (.int .u64 (z:Int))).heap[B+1]?=some (.cells (uc (limN 4 y)) 59) from by rw[jso _ _ _ _ (by simp<;>omega)];exact HD.out);have z3:=hid (show (wr.setCell ⟨B+1+1+1+1,i+4,none⟩ (.int .u64 (z:Int))).heap[B+1+1]?=some (.cells zeros4 59) from by rw[jso _ _ _ _ (by simp<;>omega)];exact HR.out);have z4:=hid (show (wr.setCell ⟨B+1+1+1+1,i+4,none⟩ (.int .u64 (z:Int))).heap[B+1+1+1]?=some (.cells zeros4 59) from by rw[jso _ _ _ _ (by simp<;>omega)];exact HS.out);have z5:Below B w (wr.setCell ⟨B+1+1+1+1,i+4,none⟩ (.int .u64 (z:Int))):=hb.setCell (by simp;omega) _;generalize mixN 8 (rowW x y i) (rowW x y (i+1)) (i+4)=u at *;clear r1 HG HD HR HS hb;go_wp2_with fail;go_roundw
     case rel=>exact⟨i+1,by omega,by go_num,zd.out,zc.out,z3.out,z4.out,z0.out,z5⟩
     case measure=>simp[intOf];omega
  ·have hd:decide ((i:Int)<4)=false:=by simp;omega
   obtain rfl:i=4:=by omega
   rw[rowW_last x y HY.out,limN_halves]at HO;clear HX HY zE;go_wp2_with fail;have yb:=qac HO.out;have z6:=qae 4 (x*y%mF);have z9:=qae 4 (x*y/mF);generalize zN:limN 4 (x*y%mF)=lo at *;generalize zM:limN 4 (x*y/mF)=hi at *;have zV:=hid zN;have zS:=hid zM;clear zN zM HG HD;have zA:=hid (qah (o:=.cells zeros4 59) (qad wr (.cells zeros4 59)));have zh:=hid (qaz wr (.cells zeros4 59) (.cells zeros4 59));have z7:Below wr.heap.size wr ((wr.alloc (.cells zeros4 59)).alloc (.cells zeros4 59)):=qaL wr (.cells zeros4 59) (.cells zeros4 59);have ze:=hid (qap z7 yb HO.out);have zs:=hid (qap z7 (by omega) HR.out);have zx:=hid (qap z7 (by omega) HS.out);have z5:Below B w ((wr.alloc (.cells zeros4 59)).alloc (.cells zeros4 59)):=hb.trans (z7.mono (by omega));clear HO HR HS hb z7 hz;generalize ((wr.alloc _).alloc _)=V0 at *;generalize wr.heap.size=S at *;have sl:=qdg 59 4 S (by kernel_rfl) (by kernel_rfl) (by kernel_rfl) (by omega);have sh:=sliced_low8 (B+1+1+1+1);refine qak 2 (by kernel_rfl) (by kernel_rfl) ?_;simp only[zks]
   repeat (first|go_big_quiet_step (fail)|quiet_step (fail))
   refine jqn ?_;intro V1 z1;have zO:=qac zh.out;have zi:=hid (qap z1 (by omega) zA.out);have zB:=hid (qap z1 zO zh.out);have z0:=hkp ze z1;have z3:=hkp zs z1;have z4:=hkp zx z1;have zH:Below B w V1:=z5.trans (z1.mono (by have:=qac ze.out;omega));have zk:=copy_words V1 S (B+1+1+1+1) 0 8 (lo++hi) lo z6 (by simp[z6,z9]) (fun j hj=>by rw[Nat.zero_add,List.getD_eq_getElem?_getD,List.getElem?_append_left (by omega),← List.getD_eq_getElem?_getD]) zi.out z0.out;clear zA zh ze zs zx z5 zO;go_wp2_with fail;clear zk sh sl z1;have HA:=hid (jsh V1 S zeros4 (uc lo) _ _ zi.out);have zC:=hid (show (V1.setRow S (uc lo)).heap[S+1]?=some (.cells zeros4 59) from by rw[jro _ _ _ _ (by omega)];exact zB.out);have zf:=hid (show (V1.setRow S (uc lo)).heap[B+1+1+1+1]?=some (.cells (uc (lo++hi)) 175) from by rw[jro _ _ _ _ (by omega)];exact z0.out);have zt:=hid (show (V1.setRow S (uc lo)).heap[B+1+1]?=some (.cells zeros4 59) from by rw[jro _ _ _ _ (by omega)];exact z3.out);have zy:=hid (show (V1.setRow S (uc lo)).heap[B+1+1+1]?=some (.cells zeros4 59) from by rw[jro _ _ _ _ (by omega)];exact z4.out);have zI:Below B w (V1.setRow S (uc lo)):=jbr zH (by omega) _;clear zi zB z0 z3 z4 zH;generalize V1.setRow S (uc lo)=V2 at *;have sl:=qdg 59 4 (S+1) (by kernel_rfl) (by kernel_rfl) (by kernel_rfl) (by omega);have sh:=sliced_high8 (B+1+1+1+1)
   refine qak 2 (by kernel_rfl) (by kernel_rfl) ?_;simp only[zks]
   repeat (first|go_big_quiet_step (fail)|quiet_step (fail))
   refine jqn ?_;intro V3 z2;have zm:=hkp HA z2;have zj:=hkp zC z2;have zq:=hkp zf z2;have zu:=hkp zt z2;have zz:=hkp zy z2;have zJ:Below B w V3:=zI.trans (z2.mono (by have:=qac zf.out;omega));have zk:=copy_words V3 (S+1) (B+1+1+1+1) 4 4 (lo++hi) hi z9 (by simp[z6,z9]) (fun j hj=>by rw[List.getD_eq_getElem?_getD,List.getElem?_append_right (by omega),z6,Nat.add_sub_cancel_left,← List.getD_eq_getElem?_getD]) zj.out zq.out;clear HA zC zf zt zy zI;go_wp2_with fail;clear zk sh sl z2;have HB:=hid (jsh V3 (S+1) zeros4 (uc hi) _ _ zj.out);have zP:=hid (show (V3.setRow (S+1) (uc hi)).heap[S]?=some (.cells (uc lo) 59) from by rw[jro _ _ _ _ (by omega)];exact zm.out);have zv:=hid (show (V3.setRow (S+1) (uc hi)).heap[B+1+1]?=some (.cells zeros4 59) from by rw[jro _ _ _ _ (by omega)];exact zu.out);have zg:=hid (show (V3.setRow (S+1) (uc hi)).heap[B+1+1+1]?=some (.cells zeros4 59) from by rw[jro _ _ _ _ (by omega)];exact zz.out);have y3:Below B w (V3.setRow (S+1) (uc hi)):=jbr zJ (by omega) _;clear zj zq zm zu zz zJ;generalize V3.setRow (S+1) (uc hi)=V4 at *;have zo:=hid (qcu lo z6);have zp:=hid (qcu hi z9);have y1:=hid (qcM lo z6);have y2:=hid (qcM hi z9);have H0:=hid (qar lo);have H1:=hid (qar hi)
   refine wp_region_rows2 (d0:=52) (d1:=53) (by kernel_rfl) (by kernel_rfl) rfl rfl rfl rfl rfl rfl rfl rfl rfl rfl rfl rfl (by decide) S (S+1) (B+1+1) (B+1+1+1) (uc lo) (uc hi) zeros4 zeros4 59 59 59 59 _ zP.out HB.out zv.out zg.out (by omega) (by omega) underlying59 rfl zo.out zp.out y1.out y2.out H0.out H1.out rfl rfl rfl rfl rfl rfl rfl rfl rfl rfl ?_;intro V5 yc zL;have zW:V5.heap[B+1+1]?=some (.cells zeros4 59):=by rw[zL];exact zv.out
   have zY:V5.heap[B+1+1+1]?=some (.cells zeros4 59):=by rw[zL];exact zg.out
   have y4:Below B w V5:=y3.trans (yc.mono (by have:=qac zg.out;omega));have zZ:(V5.setRow (B+1+1) (uc lo)).heap[B+1+1+1]?=some (.cells zeros4 59):=by rw[jro _ _ _ _ (by omega)];exact zY
   have zX:((V5.setRow (B+1+1) (uc lo)).setRow (B+1+1+1) (uc hi)).heap[B+1+1]?=some (.cells (uc lo) 59):=by rw[jro _ _ _ _ (by omega)];exact jsh _ _ _ _ _ _ zW
   have y0:=jsh _ (B+1+1+1) _ (uc hi) _ _ zZ;have y5:=jbr (jbr y4 (show B≤B+1+1 by omega) (uc lo)) (show B≤B+1+1+1 by omega) (uc hi);go_wp2_with fail;exact jpr (results_rows2 (by rfl) _ _ (B+1+1) (B+1+1+1) 59 59 _ _ _ _ rfl zX underlying59 rfl zo.out rfl y0 underlying59 rfl zp.out) rfl ⟨by rw[zV.out,zS.out],by rw[zQ.out];exact y5⟩
theorem qbR:(Tryz.prog.info? 61).map (fun i=>(i.zero,i.size))=some (some (.agg zeros4),4):=by kernel_rfl
theorem sizeF(l:List Nat)(h:l.length=4):(Tryz.prog.info? 61).map (·.size)=some (uc l).size:=by rw[qa9,h];exact (jzi qbR).2
theorem list4(l:List Nat)(h:l.length=4):∃ a b c d,l=[a,b,c,d]:=by
 match l,h with
 | [a,b,c,d],_=>exact⟨a,b,c,d,rfl⟩
theorem build_num(l:List Nat)(h:l.length=4)(w:World):(Instr.build 61 #[(0,.agg (uc l))]).run Tryz.prog w=.ok (.agg (uc l)) w:=by
 obtain⟨a,b,c,d,rfl⟩:=list4 l h;exact run_build w 61 _ _ (by kernel_rfl)
theorem qgF(w:World):(Instr.build 61 #[]).run Tryz.prog w=.ok (.agg zeros4) w:=run_build w 61 _ _ (by kernel_rfl)
theorem build_one(x:Nat)(h:x<18446744073709551616)(w:World):(Instr.build 59 #[(0,.int .u64 (x:Int))]).run Tryz.prog w=.ok (.agg (uc (limN 4 x))) w:=by
 have e:limN 4 x=[x,0,0,0]:=qbU (qae ..) rfl fun i hi=>by
  rw[qbn _ _ _ hi];rcases (show i=0∨i=1∨i=2∨i=3 by omega)with rfl|rfl|rfl|rfl
  ·rw[dg,show bw 0=1 from rfl,Nat.div_one,Nat.mod_eq_of_lt h];rfl
  ·rw[qdL _ 1 _ (by rw[show bw 1=18446744073709551616 from rfl];exact h) (by omega)];rfl
  ·rw[qdL _ 1 _ (by rw[show bw 1=18446744073709551616 from rfl];exact h) (by omega)];rfl
  ·rw[qdL _ 1 _ (by rw[show bw 1=18446744073709551616 from rfl];exact h) (by omega)];rfl
 rw[e];exact run_build w 59 _ _ (by kernel_rfl)
theorem qei{P:Program}{o:Oper}{a:Act}{w:World}{K:Act→World→Prop}{Q:Exit→Act→World→Prop}(t:TypeId)(parts:Array (Nat×Operand))(ho:o.op=.build t parts)(cells:Array Value)
  (hb:(Instr.build t (parts.map fun (i,x)=>(i,a.eval x))).run P w=.ok (.agg cells) w) (h:K (a.put o.dst (.agg cells)) w):o.wp P a w K Q:=by
 unfold Oper.wp execOp;simp only[ho,Sem.run_bind,hb,Result.andThen_ok];exact h
theorem qf2{ops:Array Oper}{rest:List Oper}{o:Oper}{a:Act}{w:World}{Q:Exit→Act→World→Prop}(hg:o.guard=none)(x:Operand)(ho:o.op=.build 61 #[(0,x)])(l:List Nat)(hl:l.length=4)(hx:a.eval x=.agg (uc l))
  (h:wpList Tryz.prog ops Q rest (a.put o.dst (.agg (uc l))) w):wpList Tryz.prog ops Q (o :: rest) a w:=
 wpList_plain hg fun _ hK=>qei 61 #[(0,x)] ho (uc l) (by
  have e:(#[(0,x)]:Array (Nat×Operand)).map (fun (i,x)=>(i,a.eval x))=#[(0,a.eval x)]:=by simp
  rw[e,hx];exact build_num l hl w) (hK _ _ h)
theorem qfA{ops:Array Oper}{rest:List Oper}{o:Oper}{a:Act}{w:World}{Q:Exit→Act→World→Prop}(hg:o.guard=none)(ho:o.op=.build 61 #[])
  (h:wpList Tryz.prog ops Q rest (a.put o.dst (.agg zeros4)) w):wpList Tryz.prog ops Q (o :: rest) a w:=
 wpList_plain hg fun _ hK=>qei 61 #[] ho zeros4 (by simpa using qgF w) (hK _ _ h)
theorem wpList_build_one{ops:Array Oper}{rest:List Oper}{o:Oper}{a:Act}{w:World}{Q:Exit→Act→World→Prop}(hg:o.guard=none)(x:Operand)(ho:o.op=.build 59 #[(0,x)])(n:Nat)(hn:n<18446744073709551616)(hx:a.eval x=.int .u64 (n:Int))
  (h:wpList Tryz.prog ops Q rest (a.put o.dst (.agg (uc (limN 4 n)))) w):wpList Tryz.prog ops Q (o :: rest) a w:=
 wpList_plain hg fun _ hK=>qei 59 #[(0,x)] ho (uc (limN 4 n)) (by
  have e:(#[(0,x)]:Array (Nat×Operand)).map (fun (i,x)=>(i,a.eval x))=#[(0,a.eval x)]:=by simp
  rw[e,hx];exact build_one n hn w) (hK _ _ h)
theorem and_63(y:Int):bits .and .u64 y 9223372036854775807=y%9223372036854775808:=by
 have h1:(BitVec.ofInt 64 9223372036854775807).toNat=2^63-1:=by decide
 have key:(BitVec.ofInt 64 y &&& BitVec.ofInt 64 9223372036854775807).toNat=(y%((2^64:Nat):Int)).toNat%2^63:=by
  rw[BitVec.toNat_and,BitVec.toNat_ofInt,h1,Nat.and_two_pow_sub_one_eq_mod]
 show IntKind.u64.wrap ((BitVec.ofInt 64 y &&& BitVec.ofInt 64 9223372036854775807).toNat:Nat)=y%9223372036854775808;rw[key,IntKind.wrap_u64];omega
theorem or_two(o b:Nat)(ho:o≤38)(hb:b≤1):bits .or .u64 ((o:Int)*2) ((b:Nat):Int)=((2*o+b:Nat):Int):=by
 have e1:(BitVec.ofInt 64 ((o:Int)*2)).toNat=2^1*o:=by rw[BitVec.toNat_ofInt];omega
 have e2:(BitVec.ofInt 64 ((b:Nat):Int)).toNat=b:=by rw[BitVec.toNat_ofInt];omega
 have h:=Nat.two_pow_add_eq_or_of_lt (show b<2^1 by omega) o;show IntKind.u64.wrap (((BitVec.ofInt 64 ((o:Int)*2) ||| BitVec.ofInt 64 ((b:Nat):Int)).toNat:Nat):Int)=_;rw[BitVec.toNat_or,e1,e2,← h,IntKind.wrap_u64];omega
theorem qeH(x o:Nat)(w:World)(hx:x<mF)(ho:o≤38):Rt 161 #[.agg (uc (limN 4 x)),.int .u64 (o:Int)] w (.agg (uc (limN 4 ((x+o*mF)%pF)))):=by
 unfold Rt;obtain⟨hz,hi⟩:=jzi qbR;have z1:=hid (qah (o:=.cells zeros4 61) (qad w (.cells (uc (limN 4 x)) 59)));have za:=hid (qaz w (.cells (uc (limN 4 x)) 59) (.cells zeros4 61));have zh:=qaL w (.cells (uc (limN 4 x)) 59) (.cells zeros4 61);clear hi;go_enter func161,ntmps161;go_upto_region 1 with fail;clear hz;generalize ((w.alloc _).alloc _)=W0 at *;generalize zf:w.heap.size=B at *;have zt:=hid zf;clear zf;have c3:=qbX z1.out 3 (by rw[qae];decide);rw[qbn _ _ _ (by decide)]at c3;have f3:=jfr W0 B 3 _ _ z1.out;have r1:=qb4 z1.out 3 (dg x 3%9223372036854775808);rw[top_cut x hx]at r1;have zg:(W0.setCell ⟨B,3,none⟩ (.int .u64 ((dg x 3%9223372036854775808:Nat):Int))).heap[B+1]?=some (.cells zeros4 61):=by rw[jso _ _ _ _ (by simp)];exact za.out
 have zi:Below B w (W0.setCell ⟨B,3,none⟩ (.int .u64 ((dg x 3%9223372036854775808:Nat):Int))):=zh.setCell (by simp) _;have zC:=dg_lt x 3;have eO:bits .or .u64 ((o:Int)*2) (((dg x 3:Nat):Int)/9223372036854775808)=((redN x o:Nat):Int):=by
  have:=or_two o (dg x 3/9223372036854775808) ho (by omega);rw[top_bit x hx]at this;rw[redN,← this,← top_bit x hx]
  rfl
 have eA:bits .and .u64 ((dg x 3:Nat):Int) 9223372036854775807=((dg x 3%9223372036854775808:Nat):Int):=by rw[and_63];omega
 have z0:=hid r1;have zb:=hid zg;obtain⟨n1,n2,n3,n4⟩:=red_fits x o hx ho;have ix:∀ W,(Instr.index 59 (.agg (uc (limN 4 (redT x+19*(redN x o+1))))) (.int .i64 3)).run Tryz.prog W=.ok (.int .u64 ((dg (redT x+19*(redN x o+1)) 3:Nat):Int)) W:=fun W=>qgJ (redT x+19*(redN x o+1)) 3 (by decide) W;have t3:=top_bit _ n3;have t4:=top_cut _ n4;have hM:redM x o=redN x o+(redT x+19*(redN x o+1))/hF:=rfl;rw[red_done x o hx ho]at t4;have z5:=hid (fun W=>plusW_any (redT x) (19*(redN x o+1)) W);have z6:=hid (fun W=>plusW_any (redT x) (19*redM x o) W);have z9:=hid (qcu (limN 4 (redT x)) (qae _ _));have zw:=hid (qcu (limN 4 (redT x+19*redM x o)) (qae _ _));have zv:=hid (qcu (limN 4 ((x+o*mF)%pF)) (qae _ _));have z8:=hid (sizeF (limN 4 ((x+o*mF)%pF)) (qae _ _));have hQ:(redT x+19*(redN x o+1))/hF≤1:=by rw[redT,hF];omega
 rw[← t3]at hM hQ;have HT:redT x=x%hF:=rfl;rw[← HT]at r1 z0;clear r1 zg zh z1 za t3 n3 n4;generalize dg x 3%9223372036854775808=m3 at *;generalize dg x 3=d3 at *;generalize hn:redN x o=n at *;generalize hm:redM x o=m at *;generalize hr:(x+o*mF)%pF=r at *;generalize redT x=t at *;have s4:=qbn 4 (t+19*m) 3 (by decide);generalize dg (t+19*(n+1)) 3=d5 at *;generalize dg (t+19*m) 3=d6 at *;have HR:=hid hr;clear hr hn hm HT;have zD:((n:Int)+1)%18446744073709551616=(n:Int)+1:=by omega
 have zo:(19*((n:Int)+1))%18446744073709551616=((19*(n+1):Nat):Int):=by omega
 have zp:((n:Int)+(d5:Int)/9223372036854775808)%18446744073709551616=(m:Int):=by omega
 have zq:(19*(m:Int))%18446744073709551616=((19*m:Nat):Int):=by omega
 have zE:((o:Int)*2)%18446744073709551616=(o:Int)*2:=by omega
 have zm:((19*(n+1):Nat):Int)=19*((n:Int)+1):=by omega
 have zn:((19*m:Nat):Int)=19*(m:Int):=by omega
 rw[zm]at z5 zo;rw[zn]at z6 zq;have zF:IntKind.u64.wrap ((n:Int)+(d5:Int)/9223372036854775808)=(m:Int):=by rw[IntKind.wrap_u64];exact zp
 clear hM hQ zm zn zp;go_wp2_with (with_reducible refine jlw rfl 59 _ rfl B rfl 59 _ (0,0) _ z0.out underlying59 rfl z9.out ?_);generalize W0.setCell _ _=W1 at *;clear eA eO c3 f3 zD zo zE zC;refine (z5.out W1).mono ?_;rintro e W2⟨rfl,z3⟩;have z2:=hkp z0 z3;have zc:=hkp zb z3;have zj:Below B w W2:=zi.trans (z3.mono (by have:=qac z0.out;omega));clear z0 zb zi z3 z5;go_wp2_with (with_reducible refine jlw rfl 59 _ rfl B rfl 59 _ (0,0) _ z2.out underlying59 rfl z9.out ?_);clear ix zF zq;refine (z6.out W2).mono ?_;rintro e W3⟨rfl,z4⟩;have z7:=hkp z2 z4;have zy:=hkp zc z4;have zk:Below B w W3:=zj.trans (z4.mono (by have:=qac z2.out;omega));clear z2 zc zj z4 z6;have zA:=hid (show (uc (limN 4 t)).size=(uc (limN 4 (t+19*m))).size by rw[qa9,qa9,qae,qae]);have zs:=hid (qar (limN 4 (t+19*m)));have g4:=jsh W3 B (uc (limN 4 t)) (uc (limN 4 (t+19*m))) _ _ z7.out;have zd:Hid ((W3.setRow B (uc (limN 4 (t+19*m)))).heap[B+1]?=some (.cells zeros4 61)):=hid (by rw[jro _ _ _ _ (by omega)];exact zy.out);have zl:Below B w (W3.setRow B (uc (limN 4 (t+19*m)))):=jbr zk (jlr _) _;have eA:bits .and .u64 ((d6:Nat):Int) 9223372036854775807=((d6%9223372036854775808:Nat):Int):=by rw[and_63];omega
 have c6:=qbX g4 3 (by rw[qae];decide);rw[s4]at c6;have f6:=jfr _ B 3 _ _ g4;have g5:=qb4 g4 3 (d6%9223372036854775808);rw[t4]at g5;have ze:Hid (((W3.setRow B (uc (limN 4 (t+19*m)))).setCell ⟨B,3,none⟩ (.int .u64 ((d6%9223372036854775808:Nat):Int))).heap[B+1]?=some (.cells zeros4 61)):=hid (by rw[jso _ _ _ _ (by simp)];exact zd.out);have zB:Below B w ((W3.setRow B (uc (limN 4 (t+19*m)))).setCell ⟨B,3,none⟩ (.int .u64 ((d6%9223372036854775808:Nat):Int))):=zl.setCell (by simp) _;have zu:=hid g5;have zz:=hid (show zeros4.size=(uc (limN 4 r)).size by rw[qa9,qae];exact qa9 _);have zr:=hid (qar (limN 4 r));clear g4 g5 zd zl t4 s4 zk;generalize d6%9223372036854775808=m6 at *;have zx:=hid (qae 4 r);go_wp2_with (first
  | (with_reducible refine jsr rfl 59 _ _ rfl B (uc (limN 4 (t+19*m))) rfl rfl 59 _ z7.out zw.out zA.out zs.out ?_)
  | (with_reducible refine jlw rfl 59 _ rfl B rfl 59 _ (0,0) _ zu.out underlying59 rfl zv.out ?_)
  | (with_reducible refine qf2 rfl _ rfl (limN 4 r) zx.out rfl ?_)
  | (with_reducible refine jsr rfl 61 _ _ rfl (B+1) (uc (limN 4 r)) rfl rfl 61 _ ze.out z8.out zz.out zr.out ?_))
 exact jpr (v:=.agg (uc (limN 4 r))) (jrc (by rfl) _ _ (B+1) 61 _ (0,0) _ rfl (jsh _ _ _ _ _ _ ze.out) underlying61 rfl z8.out) rfl ⟨by rw[HR.out],by rw[zt.out];exact jbr zB (by omega) _⟩
theorem qeh:pF<mF:=by decide
theorem add_fits(x y:Nat)(hx:x<pF)(hy:y<pF):x+y<mF:=by rw[mF_pF];omega
theorem qdb(x y:Nat)(w:World)(hx:x<pF)(hy:y<pF):Rt 157 #[.agg (uc (limN 4 x)),.agg (uc (limN 4 y))] w (.agg (uc (limN 4 (addF x y)))):=by
 unfold Rt;obtain⟨hz,hi⟩:=jzi qbR;have z5:=hid (qah (o:=.cells zeros4 61) (qah (o:=.cells (uc (limN 4 y)) 61) (qad w (.cells (uc (limN 4 x)) 61))));have z4:=hid (qah (o:=.cells zeros4 61) (qaz w (.cells (uc (limN 4 x)) 61) (.cells (uc (limN 4 y)) 61)));have z1:=hid (qby w (.cells (uc (limN 4 x)) 61) (.cells (uc (limN 4 y)) 61) (.cells zeros4 61));have z9:=qbd w (.cells (uc (limN 4 x)) 61) (.cells (uc (limN 4 y)) 61) (.cells zeros4 61);have zc:=hid (qcu (limN 4 x) (qae _ _));have zd:=hid (qcu (limN 4 y) (qae _ _));have z6:=hid (sizeF (limN 4 (addF x y)) (qae _ _));have zf:=hid (show zeros4.size=(uc (limN 4 (addF x y))).size by rw[qa9,qae];exact qa9 _);have za:=hid (qar (limN 4 (addF x y)));have z3:=hid (fun W=>plusL_any x y W);have z0:=hid (fun W=>qeH (x+y) 0 W (add_fits x y hx hy) (by omega));rw[Nat.zero_mul,Nat.add_zero,show (x+y)%pF=addF x y from rfl]at z0;clear hi hx hy;go_enter func157,ntmps157;go_upto_region 1 with fail;clear hz;generalize (((w.alloc _).alloc _).alloc _)=W0 at *;generalize z8:w.heap.size=B at *;have zb:=hid z8;clear z8;generalize hr:addF x y=r at *;have ze:=hid hr;clear hr;go_wp2_with (first
  | (with_reducible refine jlw rfl 59 _ rfl B rfl 61 _ (0,0) _ z5.out underlying59 rfl zc.out ?_)
  | (with_reducible refine jlw rfl 59 _ rfl (B+1) rfl 61 _ (0,0) _ z4.out underlying59 rfl zd.out ?_))
 refine (z3.out W0).mono ?_;rintro e W1⟨rfl,h1⟩;go_wp2_with fail;refine (z0.out W1).mono ?_;rintro e W2⟨rfl,h2⟩;have z2:=h1.trans (h2.mono h1.size);have z7:=hkp z1 z2;have zg:Below B w W2:=z9.trans (z2.mono (by have:=qac z1.out;omega));clear z3 z0 h1 h2 z2 z9 z5 z4 z1;go_wp2_with (with_reducible refine jsr rfl 61 _ _ rfl (B+1+1) (uc (limN 4 r)) rfl rfl 61 _ z7.out z6.out zf.out za.out ?_);exact jpr (v:=.agg (uc (limN 4 r))) (jrc (by rfl) _ _ (B+1+1) 61 _ (0,0) _ rfl (jsh _ _ _ _ _ _ z7.out) underlying61 rfl z6.out) rfl ⟨by rw[ze.out],by rw[zb.out];exact jbr zg (by omega) _⟩
def mulV(x y:Nat):Nat:=x*y%mF+x*y/mF*38
theorem mulV_over(x y:Nat)(hx:x<pF)(hy:y<pF):cyN (x*y%mF) (x*y/mF) 38 4=mulV x y/mF∧mulV x y/mF≤38:=by
 have h0:0<mF:=by decide
 have h1:x*y%mF<mF:=Nat.mod_lt _ h0;have h2:x*y/mF<mF:=by
  apply Nat.div_lt_of_lt_mul;exact Nat.mul_lt_mul'' (Nat.lt_trans hx qeh) (Nat.lt_trans hy qeh)
 refine⟨by rw[cyN_last _ _ _ _ (by rw[qfq];exact h1) (by rw[qfq];exact h2),qfq];rfl,?_⟩;rw[mulV];have:(x*y%mF+x*y/mF*38)/mF<39:=Nat.div_lt_of_lt_mul (by omega);omega
theorem mulV_mod(x y:Nat):(mulV x y%mF+mulV x y/mF*mF)%pF=mulF x y:=by
 have:mulV x y%mF+mulV x y/mF*mF=mulV x y:=by rw[Nat.mul_comm];exact Nat.mod_add_div _ _
 rw[this,mulV,Nat.mul_comm _ 38];exact mul_parts x y
theorem qaS(x y:Nat)(w:World)(hx:x<pF)(hy:y<pF):Rt 98 #[.agg (uc (limN 4 x)),.agg (uc (limN 4 y))] w (.agg (uc (limN 4 (mulF x y)))):=by
 unfold Rt;obtain⟨hz,hi⟩:=jzi qbR;obtain⟨zz,zy⟩:=jzi infoL;have za:=hid (qah (o:=.cells zeros4 61) (qah (o:=.cells (uc (limN 4 y)) 61) (qad w (.cells (uc (limN 4 x)) 61))));have z9:=hid (qah (o:=.cells zeros4 61) (qaz w (.cells (uc (limN 4 x)) 61) (.cells (uc (limN 4 y)) 61)));have z2:=hid (qby w (.cells (uc (limN 4 x)) 61) (.cells (uc (limN 4 y)) 61) (.cells zeros4 61));have zi:=qbd w (.cells (uc (limN 4 x)) 61) (.cells (uc (limN 4 y)) 61) (.cells zeros4 61);have zr:=hid (qcu (limN 4 x) (qae _ _));have zs:=hid (qcu (limN 4 y) (qae _ _));have zd:=hid (sizeF (limN 4 (mulF x y)) (qae _ _));have zw:=hid (show zeros4.size=(uc (limN 4 (mulF x y))).size by rw[qa9,qae];exact qa9 _);have zp:=hid (qar (limN 4 (mulF x y)));obtain⟨o1,o2⟩:=mulV_over x y hx hy;have z8:=hid (fun W=>timesL_any x y W (by rw[qfq];exact Nat.lt_trans hx qeh) (by rw[qfq];exact Nat.lt_trans hy qeh));have z0:=hid (fun W=>plusT_any (x*y%mF) (x*y/mF) 38 W (by omega));rw[o1,show x*y%mF+x*y/mF*38=mulV x y from rfl,← limN_mod (mulV x y)]at z0;have z1:=hid (fun W=>qeH (mulV x y%mF) (mulV x y/mF) W (Nat.mod_lt _ (by decide)) o2);rw[mulV_mod]at z1;have zm:=qae 4 (x*y%mF);have zn:=qae 4 (x*y/mF);clear hi zy hx hy o1;go_enter func98,ntmps98;go_upto_region 1 with fail
 clear hz;generalize (((w.alloc _).alloc _).alloc _)=W0 at *;generalize zh:w.heap.size=B at *;have zq:=hid zh;clear zh;generalize hr:mulF x y=r at *;have zt:=hid hr;generalize limN 4 (x*y%mF)=lo at *;generalize limN 4 (x*y/mF)=hi at *;generalize limN 4 (mulV x y%mF)=m at *;generalize mulV x y/mF=o at *;clear hr;have zb:=hid (qcu lo zm);have zc:=hid (qcu hi zn);have zu:=hid (qcM lo zm);have zv:=hid (qcM hi zn);have H0:=hid (qar lo);have H1:=hid (qar hi);go_wp2_with (first
  | (with_reducible refine jlw rfl 59 _ rfl B rfl 61 _ (0,0) _ za.out underlying59 rfl zr.out ?_)
  | (with_reducible refine jlw rfl 59 _ rfl (B+1) rfl 61 _ (0,0) _ z9.out underlying59 rfl zs.out ?_))
 refine (z8.out W0).mono ?_;rintro e W1⟨rfl,h1⟩;have z3:=hkp z2 h1;have zj:Below B w W1:=zi.trans (h1.mono (by have:=qac z2.out;omega));clear z8 h1 zi za z9 z2;have z5:=hid (qah (o:=.cells zeros4 59) (qad W1 (.cells zeros4 59)));have zg:=hid (qaz W1 (.cells zeros4 59) (.cells zeros4 59));have hv:Below W1.heap.size W1 ((W1.alloc (.cells zeros4 59)).alloc (.cells zeros4 59)):=qaL W1 _ _;have ze:=hkp z3 hv;have zo:=qac z3.out;have zk:Below B w ((W1.alloc (.cells zeros4 59)).alloc (.cells zeros4 59)):=zj.trans (hv.mono (by omega));have hB2:B+1+1<W1.heap.size:=zo;have z6:=hid (show (((W1.alloc (.cells zeros4 59)).alloc (.cells zeros4 59)).setRow W1.heap.size (uc lo)).heap[W1.heap.size+1]?=some (.cells zeros4 59) from by rw[jro _ _ _ _ (by omega)];exact zg.out);have HA:=hid (show ((((W1.alloc (.cells zeros4 59)).alloc (.cells zeros4 59)).setRow W1.heap.size (uc lo)).setRow (W1.heap.size+1) (uc hi)).heap[W1.heap.size]?=some (.cells (uc lo) 59) from by rw[jro _ _ _ _ (by omega)];exact jsh _ _ _ _ _ _ z5.out)
 have HB:=hid (show ((((W1.alloc (.cells zeros4 59)).alloc (.cells zeros4 59)).setRow W1.heap.size (uc lo)).setRow (W1.heap.size+1) (uc hi)).heap[W1.heap.size+1]?=some (.cells (uc hi) 59) from jsh _ _ _ _ _ _ z6.out);have z4:=hid (show ((((W1.alloc (.cells zeros4 59)).alloc (.cells zeros4 59)).setRow W1.heap.size (uc lo)).setRow (W1.heap.size+1) (uc hi)).heap[B+1+1]?=some (.cells zeros4 61) from by rw[jro _ _ _ _ (by omega),jro _ _ _ _ (by omega)];exact ze.out);have zl:Below B w ((((W1.alloc (.cells zeros4 59)).alloc (.cells zeros4 59)).setRow W1.heap.size (uc lo)).setRow (W1.heap.size+1) (uc hi)):=jbr (jbr zk (by omega) _) (by omega) _;clear z3 ze zj zk hv zo;go_wp2_with (first
  | (with_reducible refine jsr rfl 59 _ _ rfl W1.heap.size (uc lo) rfl rfl 59 _ z5.out zb.out zu.out H0.out ?_)
  | (with_reducible refine jsr rfl 59 _ _ rfl (W1.heap.size+1) (uc hi) rfl rfl 59 _ z6.out zc.out zv.out H1.out ?_)
  | (with_reducible refine jlw rfl 59 _ rfl W1.heap.size rfl 59 _ (0,0) _ HA.out underlying59 rfl zb.out ?_)
  | (with_reducible refine jlw rfl 59 _ rfl (W1.heap.size+1) rfl 59 _ (0,0) _ HB.out underlying59 rfl zc.out ?_))
 clear z5 zg z6 HA HB zz;generalize ((World.setRow _ _ _).setRow _ _)=V at *;refine (z0.out V).mono ?_;rintro e W2⟨rfl,h2⟩;go_wp2_with fail;refine (z1.out W2).mono ?_;rintro e W3⟨rfl,h3⟩;have z7:=h2.trans (h3.mono h2.size);have zf:=hkp z4 z7;have zx:Below B w W3:=zl.trans (z7.mono (by have:=qac z4.out;omega));clear z0 z1 h2 h3 z7 zl z4;go_wp2_with (with_reducible refine jsr rfl 61 _ _ rfl (B+1+1) (uc (limN 4 r)) rfl rfl 61 _ zf.out zd.out zw.out zp.out ?_);exact jpr (v:=.agg (uc (limN 4 r))) (jrc (by rfl) _ _ (B+1+1) 61 _ (0,0) _ rfl (jsh _ _ _ _ _ _ zf.out) underlying61 rfl zd.out) rfl ⟨by rw[zt.out],by rw[zq.out];exact jbr zx (by omega) _⟩
theorem powF_one(x:Nat)(hx:x<pF):powF x 1=x:=by rw[powF,Nat.pow_one,Nat.mod_eq_of_lt hx]
theorem qe8(x m n:Nat):mulF (powF x m) (powF x n)=powF x (m+n):=by rw[mulF,powF,powF,powF,← Nat.mul_mod,← Nat.pow_add]
theorem qfW(x m n:Nat):powF (powF x m) n=powF x (m*n):=by rw[powF,powF,powF,← Nat.pow_mod,Nat.pow_mul]
theorem qa8(x n:Nat)(w:World)(hx:x<pF)(hn:n≤1000000):Rt 158 #[.agg (uc (limN 4 x)),.int .i64 (n:Int)] w (.agg (uc (limN 4 (powF x (2^n))))):=by
 unfold Rt;obtain⟨hz,hi⟩:=jzi qbR;have z2:=hid (qah (o:=.cells zeros4 61) (qad w (.cells (uc (limN 4 x)) 61)));have z4:=hid (qaz w (.cells (uc (limN 4 x)) 61) (.cells zeros4 61));have z8:=qaL w (.cells (uc (limN 4 x)) 61) (.cells zeros4 61);have z6:=hid (powF_one x hx);clear hi hx;go_enter func158,ntmps158;go_wp2_with fail;clear hz;generalize ((w.alloc _).alloc _)=W0 at *;generalize z7:w.heap.size=B at *;have za:=hid z7;clear z7
 go_loopw [6] (fun i wr=>∃ k:Nat,k≤n∧i=.int .i64 (k:Int)∧wr.heap[B]?=some (.cells (uc (limN 4 (powF x (2^k)))) 61)∧wr.heap[B+1]?=some (.cells zeros4 61)∧Below B w wr) (fun i _=>n-(intOf i).toNat)
 case atStart=>exact⟨0,by omega,rfl,by rw[Nat.pow_zero,z6.out];exact z2.out,z4.out,z8⟩
 case round=>
  clear z2 z4 z8;obtain⟨k,hk,rfl,hg,hr,hb⟩:=hrel;have HG:=hid hg;have HR:=hid hr;clear hg hr;by_cases hlt:k<n
  ·have hd:decide ((k:Int)<(n:Int))=true:=by simp;omega
   have HC:=hid (qaS (powF x (2^k)) (powF x (2^k)) wr (qa4 _ _) (qa4 _ _));rw[qe8,show 2^k+2^k=2^(k+1) by rw[Nat.pow_succ];omega]at HC;have HI:=hid (sizeF (limN 4 (powF x (2^k))) (qae _ _));have zc:=hid (sizeF (limN 4 (powF x (2^(k+1)))) (qae _ _));have HZ:=hid (show (uc (limN 4 (powF x (2^k)))).size=(uc (limN 4 (powF x (2^(k+1))))).size by rw[qa9,qa9,qae,qae]);have H1:=hid (qar (limN 4 (powF x (2^(k+1)))));generalize powF x (2^k)=u at *;generalize hq:powF x (2^(k+1))=q at *;have HQ:=hid hq;clear hq;go_wp2_with (with_reducible refine jlw rfl 61 _ rfl B rfl 61 _ (0,0) _ HG.out underlying61 rfl HI.out ?_);refine HC.out.mono ?_;rintro e W1⟨rfl,h1⟩;have z3:=hkp HG h1;have z5:=hkp HR h1;have z9:Below B w W1:=hb.trans (h1.mono (by have:=qac HG.out;omega));have zb:=hid (jsh W1 B _ (uc (limN 4 q)) _ _ z3.out);have zd:Hid ((W1.setRow B (uc (limN 4 q))).heap[B+1]?=some (.cells zeros4 61)):=hid (by rw[jro _ _ _ _ (by omega)];exact z5.out);have ze:Below B w (W1.setRow B (uc (limN 4 q))):=jbr z9 (jlr _) _;clear HC hb HG HR z5 z9 h1;go_wp2_with (with_reducible refine jsr rfl 61 _ _ rfl B (uc (limN 4 q)) rfl rfl 61 _ z3.out zc.out HZ.out H1.out ?_);go_roundw
   case rel=>exact⟨k+1,by omega,by go_num,by rw[HQ.out];exact zb.out,zd.out,ze⟩
   case measure=>simp[intOf];omega
  ·have hd:decide ((k:Int)<(n:Int))=false:=by simp;omega
   obtain rfl:k=n:=by omega
   generalize z0:powF x (2^k)=r at *;have z1:=hid z0;clear z0 z6;have HI:=hid (sizeF (limN 4 r) (qae _ _));have HO:=hid (show zeros4.size=(uc (limN 4 r)).size by rw[qa9,qae];exact qa9 _);have H1:=hid (qar (limN 4 r));go_wp2_with (first
    | (with_reducible refine jlw rfl 61 _ rfl B rfl 61 _ (0,0) _ HG.out underlying61 rfl HI.out ?_)
    | (with_reducible refine jsr rfl 61 _ _ rfl (B+1) (uc (limN 4 r)) rfl rfl 61 _ HR.out HI.out HO.out H1.out ?_))
   exact jpr (v:=.agg (uc (limN 4 r))) (jrc (by rfl) _ _ (B+1) 61 _ (0,0) _ rfl (jsh _ _ _ _ _ _ HR.out) underlying61 rfl HI.out) rfl ⟨by rw[z1.out],by rw[za.out];exact jbr hb (by omega) _⟩
def qau(x n:Nat):Nat:=powF x (2^n-1)
theorem qbo(x n:Nat):qau x n<pF:=qa4 _ _
theorem onesF_one(x:Nat)(hx:x<pF):qau x 1=x:=powF_one x hx
theorem qcI(x n m:Nat):mulF (powF (qau x n) (2^m)) (qau x m)=qau x (n+m):=by
 rw[qau,qau,qau,qfW,qe8];congr 1;have h1:0<2^n:=Nat.pow_pos (by decide);have h2:0<2^m:=Nat.pow_pos (by decide);rw[Nat.pow_add,Nat.sub_mul,Nat.one_mul];have h3:2^m≤2^n*2^m:=Nat.le_mul_of_pos_left _ h1;omega
theorem qaw(x:Nat):zeros4.size=(uc (limN 4 x)).size:=by rw[qa9,qae];exact qa9 _
theorem qal(x:Nat):(Tryz.prog.info? 61).map (·.size)=some (uc (limN 4 x)).size:=sizeF _ (qae _ _)
theorem ones_any(x:Nat)(w:World)(hx:x<pF):Rt 159 #[.agg (uc (limN 4 x))] w (.agg (uc (limN 4 (qau x 250)))):=by
 unfold Rt;obtain⟨hz,hi⟩:=jzi qbR;have H1:=hid (qah (o:=.cells zeros4 61) (qad w (.cells (uc (limN 4 x)) 61)));have H2:=hid (qaz w (.cells (uc (limN 4 x)) 61) (.cells zeros4 61));have hb:=qaL w (.cells (uc (limN 4 x)) 61) (.cells zeros4 61);have S1:=hid (fun W=>qa8 (qau x 1) 1 W (qbo _ _) (by omega));have M1:=hid (fun W=>qaS (powF (qau x 1) (2^1)) (qau x 1) W (qa4 _ _) (qbo _ _));rw[qcI,show 1+1=2 from rfl]at M1;have I2:=hid (qal (qau x 2));have Z2:=hid (qaw (qau x 2));have O2:=hid (qar (limN 4 (qau x 2)));have S2:=hid (fun W=>qa8 (qau x 2) 2 W (qbo _ _) (by omega));have M2:=hid (fun W=>qaS (powF (qau x 2) (2^2)) (qau x 2) W (qa4 _ _) (qbo _ _));rw[qcI,show 2+2=4 from rfl]at M2;have I4:=hid (qal (qau x 4));have Z4:=hid (qaw (qau x 4));have O4:=hid (qar (limN 4 (qau x 4)));have S3:=hid (fun W=>qa8 (qau x 4) 1 W (qbo _ _) (by omega));have M3:=hid (fun W=>qaS (powF (qau x 4) (2^1)) (qau x 1) W (qa4 _ _) (qbo _ _));rw[qcI,show 4+1=5 from rfl]at M3;have I5:=hid (qal (qau x 5));have Z5:=hid (qaw (qau x 5));have O5:=hid (qar (limN 4 (qau x 5)));have S4:=hid (fun W=>qa8 (qau x 5) 5 W (qbo _ _) (by omega));have M4:=hid (fun W=>qaS (powF (qau x 5) (2^5)) (qau x 5) W (qa4 _ _) (qbo _ _));rw[qcI,show 5+5=10 from rfl]at M4;have zm:=hid (qal (qau x 10));have zJ:=hid (qaw (qau x 10));have zE:=hid (qar (limN 4 (qau x 10)));have S5:=hid (fun W=>qa8 (qau x 10) 10 W (qbo _ _) (by omega))
 have M5:=hid (fun W=>qaS (powF (qau x 10) (2^10)) (qau x 10) W (qa4 _ _) (qbo _ _));rw[qcI,show 10+10=20 from rfl]at M5;have zo:=hid (qal (qau x 20));have zK:=hid (qaw (qau x 20));have zF:=hid (qar (limN 4 (qau x 20)));have S6:=hid (fun W=>qa8 (qau x 20) 20 W (qbo _ _) (by omega));have M6:=hid (fun W=>qaS (powF (qau x 20) (2^20)) (qau x 20) W (qa4 _ _) (qbo _ _));rw[qcI,show 20+20=40 from rfl]at M6;have zy:=hid (qal (qau x 40));have zL:=hid (qaw (qau x 40));have zG:=hid (qar (limN 4 (qau x 40)));have S7:=hid (fun W=>qa8 (qau x 40) 10 W (qbo _ _) (by omega));have M7:=hid (fun W=>qaS (powF (qau x 40) (2^10)) (qau x 10) W (qa4 _ _) (qbo _ _));rw[qcI,show 40+10=50 from rfl]at M7;have zn:=hid (qal (qau x 50));have zM:=hid (qaw (qau x 50));have zH:=hid (qar (limN 4 (qau x 50)));have S8:=hid (fun W=>qa8 (qau x 50) 50 W (qbo _ _) (by omega));have M8:=hid (fun W=>qaS (powF (qau x 50) (2^50)) (qau x 50) W (qa4 _ _) (qbo _ _));rw[qcI,show 50+50=100 from rfl]at M8;have zg:=hid (qal (qau x 100));have zs:=hid (qaw (qau x 100));have zp:=hid (qar (limN 4 (qau x 100)));have S9:=hid (fun W=>qa8 (qau x 100) 100 W (qbo _ _) (by omega));have M9:=hid (fun W=>qaS (powF (qau x 100) (2^100)) (qau x 100) W (qa4 _ _) (qbo _ _));rw[qcI,show 100+100=200 from rfl]at M9;have zh:=hid (qal (qau x 200));have zt:=hid (qaw (qau x 200));have zq:=hid (qar (limN 4 (qau x 200)));have zI:=hid (fun W=>qa8 (qau x 200) 50 W (qbo _ _) (by omega))
 have zz:=hid (fun W=>qaS (powF (qau x 200) (2^50)) (qau x 50) W (qa4 _ _) (qbo _ _));rw[qcI,show 200+50=250 from rfl]at zz;have zi:=hid (qal (qau x 250));have zu:=hid (qaw (qau x 250));have zr:=hid (qar (limN 4 (qau x 250)));have I1:=hid (qal x);rw[onesF_one x hx]at S1 M1;rw[onesF_one x hx]at M3;clear hi hx;go_enter func159,ntmps159;go_upto_region 1 with fail;generalize ((w.alloc _).alloc _)=W0 at *;generalize zA:w.heap.size=B at *;have zD:=hid zA;clear zA;generalize powF x (2^1)=q1 at *;generalize powF (qau x 2) (2^2)=q2 at *;generalize powF (qau x 4) (2^1)=q3 at *;generalize powF (qau x 5) (2^5)=q4 at *;generalize powF (qau x 10) (2^10)=q5 at *;generalize powF (qau x 20) (2^20)=q6 at *;generalize powF (qau x 40) (2^10)=q7 at *;generalize powF (qau x 50) (2^50)=q8 at *;generalize powF (qau x 100) (2^100)=q9 at *;generalize powF (qau x 200) (2^50)=zB at *;generalize h2:qau x 2=u2 at *;generalize h4:qau x 4=u4 at *;generalize h5:qau x 5=u5 at *;generalize zN:qau x 10=z9 at *;generalize zO:qau x 20=zd at *;generalize zP:qau x 40=zf at *;generalize zQ:qau x 50=za at *;generalize zv:qau x 100=z7 at *;generalize zw:qau x 200=z8 at *;generalize zj:qau x 250=zb at *;have HU:=hid zj;clear h2 h4 h5 zN zO zP zQ zv zw zj
 refine qao 5 52 [.val (.agg (uc (limN 4 x))) [(1,.pointer (some ⟨B,0,none⟩))],.val (.agg (uc (limN 4 q1))) [(12,.agg (uc (limN 4 x)))],.val (.agg (uc (limN 4 x))) [(1,.pointer (some ⟨B,0,none⟩))],.val (.agg (uc (limN 4 u2))) [(13,.agg (uc (limN 4 q1))),(14,.agg (uc (limN 4 x)))],.fresh (.cells zeros4 61)] (by kernel_rfl) (by kernel_rfl) rfl ?_ ?_ ?_
 ·simp only[take_succ_cons,List.take_zero,qaO,qaP,HeadSpec.val,HeadSpec.fresh,and_true];refine⟨?_,?_,?_,?_,?_⟩
  ·intro a w hb h;exact qab 61 (.tmp 1) rfl B (sd0 h) 61 _ (0,0) _ (hkq H1 hb) underlying61 rfl I1.out
  ·intro a w hb h;simp[go_sem,rd0 h,qaa];exact S1.out w
  ·intro a w hb h;exact qab 61 (.tmp 1) rfl B (sd0 h) 61 _ (0,0) _ (hkq H1 hb) underlying61 rfl I1.out
  ·intro a w hb h;simp[go_sem,rd0 h,rd1 h,qaa];exact M1.out w
  ·intro a w hb;simp[go_sem,hz]
 ·simp[qay,qax,qaK,HeadSpec.val,HeadSpec.fresh,Act.put]
 ·simp only[zks,qaN,HeadSpec.val,HeadSpec.fresh,Act.put,zkt];intro g3 hgg3 _ v1 z0 z4;have HN:=hid (show v1.heap[g3]?=some (.cells zeros4 61) from z4 (g3,.cells zeros4 61) (by simp));have z1:Below B w v1:=hb.trans (z0.mono (by have:=qac H1.out;omega));have z2:=hid (jsh v1 (g3) _ (uc (limN 4 u2)) _ _ HN.out);have z5:Hid ((v1.setRow (g3) (uc (limN 4 u2))).heap[B]?=some (.cells (uc (limN 4 x)) 61)):=hid (by rw[jro _ _ _ _ (by have:=qac H1.out;omega)];exact hkq H1 z0);have z6:Hid ((v1.setRow (g3) (uc (limN 4 u2))).heap[B+1]?=some (.cells zeros4 61)):=hid (by rw[jro _ _ _ _ (by have:=qac H2.out;omega)];exact hkq H2 z0);have z3:Below B w (v1.setRow (g3) (uc (limN 4 u2))):=jbr z1 (by have:=qac H1.out;omega) _;clear H1 H2 z1 z0 z4 hb;go_wp2_with (with_reducible refine jsr rfl 61 _ _ rfl (g3) (uc (limN 4 u2)) rfl rfl 61 _ HN.out I2.out Z2.out O2.out ?_);generalize World.setRow _ _ _=W1 at *;have H1:=z5;have H2:=z6;have H3:=z2;have hb:=z3;clear z5 z6 z2 HN z3 S1 M1
  try simp only[Act.put]
  refine qao 5 52 [.val (.agg (uc (limN 4 u2))) [(3,.pointer (some ⟨g3,0,none⟩))],.val (.agg (uc (limN 4 q2))) [(16,.agg (uc (limN 4 u2)))],.val (.agg (uc (limN 4 u2))) [(3,.pointer (some ⟨g3,0,none⟩))],.val (.agg (uc (limN 4 u4))) [(17,.agg (uc (limN 4 q2))),(18,.agg (uc (limN 4 u2)))],.fresh (.cells zeros4 61)] (by kernel_rfl) (by kernel_rfl) rfl ?_ ?_ ?_
  ·simp only[take_succ_cons,List.take_zero,qaO,qaP,HeadSpec.val,HeadSpec.fresh,and_true];refine⟨?_,?_,?_,?_,?_⟩
   ·intro a w hb h;exact qab 61 (.tmp 3) rfl g3 (sd0 h) 61 _ (0,0) _ (hkq H3 hb) underlying61 rfl I2.out
   ·intro a w hb h;simp[go_sem,rd0 h,qaa];exact S2.out w
   ·intro a w hb h;exact qab 61 (.tmp 3) rfl g3 (sd0 h) 61 _ (0,0) _ (hkq H3 hb) underlying61 rfl I2.out
   ·intro a w hb h;simp[go_sem,rd0 h,rd1 h,qaa];exact M2.out w
   ·intro a w hb;simp[go_sem,hz]
  ·simp[qay,qax,qaK,HeadSpec.val,HeadSpec.fresh,Act.put]
  ·simp only[zks,qaN,HeadSpec.val,HeadSpec.fresh,Act.put,zkt];intro g4 hgg4 _ v1 z0 z4;have HN:=hid (show v1.heap[g4]?=some (.cells zeros4 61) from z4 (g4,.cells zeros4 61) (by simp));have z1:Below B w v1:=hb.trans (z0.mono (by have:=qac H1.out;omega));have z2:=hid (jsh v1 (g4) _ (uc (limN 4 u4)) _ _ HN.out);have z5:Hid ((v1.setRow (g4) (uc (limN 4 u4))).heap[B]?=some (.cells (uc (limN 4 x)) 61)):=hid (by rw[jro _ _ _ _ (by have:=qac H1.out;omega)];exact hkq H1 z0);have z6:Hid ((v1.setRow (g4) (uc (limN 4 u4))).heap[B+1]?=some (.cells zeros4 61)):=hid (by rw[jro _ _ _ _ (by have:=qac H2.out;omega)];exact hkq H2 z0);have z3:Below B w (v1.setRow (g4) (uc (limN 4 u4))):=jbr z1 (by have:=qac H1.out;omega) _;clear H1 H2 z1 z0 z4 hb;go_wp2_with (with_reducible refine jsr rfl 61 _ _ rfl (g4) (uc (limN 4 u4)) rfl rfl 61 _ HN.out I4.out Z4.out O4.out ?_);generalize World.setRow _ _ _=W2 at *;have H1:=z5;have H2:=z6;have H4:=z2;have hb:=z3;clear z5 z6 z2 HN z3 S2 M2
   try simp only[Act.put]
   refine qao 5 52 [.val (.agg (uc (limN 4 u4))) [(4,.pointer (some ⟨g4,0,none⟩))],.val (.agg (uc (limN 4 q3))) [(20,.agg (uc (limN 4 u4)))],.val (.agg (uc (limN 4 x))) [(1,.pointer (some ⟨B,0,none⟩))],.val (.agg (uc (limN 4 u5))) [(21,.agg (uc (limN 4 q3))),(22,.agg (uc (limN 4 x)))],.fresh (.cells zeros4 61)] (by kernel_rfl) (by kernel_rfl) rfl ?_ ?_ ?_
   ·simp only[take_succ_cons,List.take_zero,qaO,qaP,HeadSpec.val,HeadSpec.fresh,and_true];refine⟨?_,?_,?_,?_,?_⟩
    ·intro a w hb h;exact qab 61 (.tmp 4) rfl g4 (sd0 h) 61 _ (0,0) _ (hkq H4 hb) underlying61 rfl I4.out
    ·intro a w hb h;simp[go_sem,rd0 h,qaa];exact S3.out w
    ·intro a w hb h;exact qab 61 (.tmp 1) rfl B (sd0 h) 61 _ (0,0) _ (hkq H1 hb) underlying61 rfl I1.out
    ·intro a w hb h;simp[go_sem,rd0 h,rd1 h,qaa];exact M3.out w
    ·intro a w hb;simp[go_sem,hz]
   ·simp[qay,qax,qaK,HeadSpec.val,HeadSpec.fresh,Act.put]
   ·simp only[zks,qaN,HeadSpec.val,HeadSpec.fresh,Act.put,zkt];intro g5 hgg5 _ v1 z0 z4;have HN:=hid (show v1.heap[g5]?=some (.cells zeros4 61) from z4 (g5,.cells zeros4 61) (by simp));have z1:Below B w v1:=hb.trans (z0.mono (by have:=qac H1.out;omega));have z2:=hid (jsh v1 (g5) _ (uc (limN 4 u5)) _ _ HN.out);have z5:Hid ((v1.setRow (g5) (uc (limN 4 u5))).heap[B]?=some (.cells (uc (limN 4 x)) 61)):=hid (by rw[jro _ _ _ _ (by have:=qac H1.out;omega)];exact hkq H1 z0);have z6:Hid ((v1.setRow (g5) (uc (limN 4 u5))).heap[B+1]?=some (.cells zeros4 61)):=hid (by rw[jro _ _ _ _ (by have:=qac H2.out;omega)];exact hkq H2 z0);have z3:Below B w (v1.setRow (g5) (uc (limN 4 u5))):=jbr z1 (by have:=qac H1.out;omega) _;clear H1 H2 z1 z0 z4 hb;go_wp2_with (with_reducible refine jsr rfl 61 _ _ rfl (g5) (uc (limN 4 u5)) rfl rfl 61 _ HN.out I5.out Z5.out O5.out ?_);generalize World.setRow _ _ _=W3 at *;have H1:=z5;have H2:=z6;have H5:=z2;have hb:=z3;clear z5 z6 z2 HN z3 S3 M3
    try simp only[Act.put]
    refine qao 5 52 [.val (.agg (uc (limN 4 u5))) [(5,.pointer (some ⟨g5,0,none⟩))],.val (.agg (uc (limN 4 q4))) [(24,.agg (uc (limN 4 u5)))],.val (.agg (uc (limN 4 u5))) [(5,.pointer (some ⟨g5,0,none⟩))],.val (.agg (uc (limN 4 z9))) [(25,.agg (uc (limN 4 q4))),(26,.agg (uc (limN 4 u5)))],.fresh (.cells zeros4 61)] (by kernel_rfl) (by kernel_rfl) rfl ?_ ?_ ?_
    ·simp only[take_succ_cons,List.take_zero,qaO,qaP,HeadSpec.val,HeadSpec.fresh,and_true];refine⟨?_,?_,?_,?_,?_⟩
     ·intro a w hb h;exact qab 61 (.tmp 5) rfl g5 (sd0 h) 61 _ (0,0) _ (hkq H5 hb) underlying61 rfl I5.out
     ·intro a w hb h;simp[go_sem,rd0 h,qaa];exact S4.out w
     ·intro a w hb h;exact qab 61 (.tmp 5) rfl g5 (sd0 h) 61 _ (0,0) _ (hkq H5 hb) underlying61 rfl I5.out
     ·intro a w hb h;simp[go_sem,rd0 h,rd1 h,qaa];exact M4.out w
     ·intro a w hb;simp[go_sem,hz]
    ·simp[qay,qax,qaK,HeadSpec.val,HeadSpec.fresh,Act.put]
    ·simp only[zks,qaN,HeadSpec.val,HeadSpec.fresh,Act.put,zkt];intro g6 hgg6 _ v1 z0 z4;have HN:=hid (show v1.heap[g6]?=some (.cells zeros4 61) from z4 (g6,.cells zeros4 61) (by simp));have z1:Below B w v1:=hb.trans (z0.mono (by have:=qac H1.out;omega));have z2:=hid (jsh v1 (g6) _ (uc (limN 4 z9)) _ _ HN.out);have z5:Hid ((v1.setRow (g6) (uc (limN 4 z9))).heap[B]?=some (.cells (uc (limN 4 x)) 61)):=hid (by rw[jro _ _ _ _ (by have:=qac H1.out;omega)];exact hkq H1 z0);have z6:Hid ((v1.setRow (g6) (uc (limN 4 z9))).heap[B+1]?=some (.cells zeros4 61)):=hid (by rw[jro _ _ _ _ (by have:=qac H2.out;omega)];exact hkq H2 z0);have z3:Below B w (v1.setRow (g6) (uc (limN 4 z9))):=jbr z1 (by have:=qac H1.out;omega) _;clear H1 H2 z1 z0 z4 hb;go_wp2_with (with_reducible refine jsr rfl 61 _ _ rfl (g6) (uc (limN 4 z9)) rfl rfl 61 _ HN.out zm.out zJ.out zE.out ?_);generalize World.setRow _ _ _=W4 at *;have H1:=z5;have H2:=z6;have H6:=z2;have hb:=z3;clear z5 z6 z2 HN z3 S4 M4
     try simp only[Act.put]
     refine qao 5 52 [.val (.agg (uc (limN 4 z9))) [(6,.pointer (some ⟨g6,0,none⟩))],.val (.agg (uc (limN 4 q5))) [(28,.agg (uc (limN 4 z9)))],.val (.agg (uc (limN 4 z9))) [(6,.pointer (some ⟨g6,0,none⟩))],.val (.agg (uc (limN 4 zd))) [(29,.agg (uc (limN 4 q5))),(30,.agg (uc (limN 4 z9)))],.fresh (.cells zeros4 61)] (by kernel_rfl) (by kernel_rfl) rfl ?_ ?_ ?_
     ·simp only[take_succ_cons,List.take_zero,qaO,qaP,HeadSpec.val,HeadSpec.fresh,and_true];refine⟨?_,?_,?_,?_,?_⟩
      ·intro a w hb h;exact qab 61 (.tmp 6) rfl g6 (sd0 h) 61 _ (0,0) _ (hkq H6 hb) underlying61 rfl zm.out
      ·intro a w hb h;simp[go_sem,rd0 h,qaa];exact S5.out w
      ·intro a w hb h;exact qab 61 (.tmp 6) rfl g6 (sd0 h) 61 _ (0,0) _ (hkq H6 hb) underlying61 rfl zm.out
      ·intro a w hb h;simp[go_sem,rd0 h,rd1 h,qaa];exact M5.out w
      ·intro a w hb;simp[go_sem,hz]
     ·simp[qay,qax,qaK,HeadSpec.val,HeadSpec.fresh,Act.put]
     ·simp only[zks,qaN,HeadSpec.val,HeadSpec.fresh,Act.put,zkt];intro g7 hgg7 _ v1 z0 z4;have HN:=hid (show v1.heap[g7]?=some (.cells zeros4 61) from z4 (g7,.cells zeros4 61) (by simp));have z1:Below B w v1:=hb.trans (z0.mono (by have:=qac H1.out;omega));have z2:=hid (jsh v1 (g7) _ (uc (limN 4 zd)) _ _ HN.out);have z5:Hid ((v1.setRow (g7) (uc (limN 4 zd))).heap[B]?=some (.cells (uc (limN 4 x)) 61)):=hid (by rw[jro _ _ _ _ (by have:=qac H1.out;omega)];exact hkq H1 z0);have z6:Hid ((v1.setRow (g7) (uc (limN 4 zd))).heap[B+1]?=some (.cells zeros4 61)):=hid (by rw[jro _ _ _ _ (by have:=qac H2.out;omega)];exact hkq H2 z0);have zk:Hid ((v1.setRow (g7) (uc (limN 4 zd))).heap[g6]?=some (.cells (uc (limN 4 z9)) 61)):=hid (by rw[jro _ _ _ _ (by have:=qac H6.out;omega)];exact hkq H6 z0);have z3:Below B w (v1.setRow (g7) (uc (limN 4 zd))):=jbr z1 (by have:=qac H1.out;omega) _;clear H1 H2 H6 z1 z0 z4 hb;go_wp2_with (with_reducible refine jsr rfl 61 _ _ rfl (g7) (uc (limN 4 zd)) rfl rfl 61 _ HN.out zo.out zK.out zF.out ?_);generalize World.setRow _ _ _=W5 at *;have H1:=z5;have H2:=z6;have H6:=zk;have H7:=z2;have hb:=z3;clear z5 z6 zk z2 HN z3 S5 M5
      try simp only[Act.put]
      refine qao 5 52 [.val (.agg (uc (limN 4 zd))) [(7,.pointer (some ⟨g7,0,none⟩))],.val (.agg (uc (limN 4 q6))) [(32,.agg (uc (limN 4 zd)))],.val (.agg (uc (limN 4 zd))) [(7,.pointer (some ⟨g7,0,none⟩))],.val (.agg (uc (limN 4 zf))) [(33,.agg (uc (limN 4 q6))),(34,.agg (uc (limN 4 zd)))],.fresh (.cells zeros4 61)] (by kernel_rfl) (by kernel_rfl) rfl ?_ ?_ ?_
      ·simp only[take_succ_cons,List.take_zero,qaO,qaP,HeadSpec.val,HeadSpec.fresh,and_true];refine⟨?_,?_,?_,?_,?_⟩
       ·intro a w hb h;exact qab 61 (.tmp 7) rfl g7 (sd0 h) 61 _ (0,0) _ (hkq H7 hb) underlying61 rfl zo.out
       ·intro a w hb h;simp[go_sem,rd0 h,qaa];exact S6.out w
       ·intro a w hb h;exact qab 61 (.tmp 7) rfl g7 (sd0 h) 61 _ (0,0) _ (hkq H7 hb) underlying61 rfl zo.out
       ·intro a w hb h;simp[go_sem,rd0 h,rd1 h,qaa];exact M6.out w
       ·intro a w hb;simp[go_sem,hz]
      ·simp[qay,qax,qaK,HeadSpec.val,HeadSpec.fresh,Act.put]
      ·simp only[zks,qaN,HeadSpec.val,HeadSpec.fresh,Act.put,zkt];intro g8 hgg8 _ v1 z0 z4;have HN:=hid (show v1.heap[g8]?=some (.cells zeros4 61) from z4 (g8,.cells zeros4 61) (by simp));have z1:Below B w v1:=hb.trans (z0.mono (by have:=qac H1.out;omega));have z2:=hid (jsh v1 (g8) _ (uc (limN 4 zf)) _ _ HN.out);have z5:Hid ((v1.setRow (g8) (uc (limN 4 zf))).heap[B]?=some (.cells (uc (limN 4 x)) 61)):=hid (by rw[jro _ _ _ _ (by have:=qac H1.out;omega)];exact hkq H1 z0);have z6:Hid ((v1.setRow (g8) (uc (limN 4 zf))).heap[B+1]?=some (.cells zeros4 61)):=hid (by rw[jro _ _ _ _ (by have:=qac H2.out;omega)];exact hkq H2 z0);have zk:Hid ((v1.setRow (g8) (uc (limN 4 zf))).heap[g6]?=some (.cells (uc (limN 4 z9)) 61)):=hid (by rw[jro _ _ _ _ (by have:=qac H6.out;omega)];exact hkq H6 z0);have z3:Below B w (v1.setRow (g8) (uc (limN 4 zf))):=jbr z1 (by have:=qac H1.out;omega) _;clear H1 H2 H6 z1 z0 z4 hb;go_wp2_with (with_reducible refine jsr rfl 61 _ _ rfl (g8) (uc (limN 4 zf)) rfl rfl 61 _ HN.out zy.out zL.out zG.out ?_);generalize World.setRow _ _ _=W6 at *;have H1:=z5;have H2:=z6;have H6:=zk;have H8:=z2;have hb:=z3;clear z5 z6 zk z2 HN z3 S6 M6
       try simp only[Act.put]
       refine qao 5 52 [.val (.agg (uc (limN 4 zf))) [(8,.pointer (some ⟨g8,0,none⟩))],.val (.agg (uc (limN 4 q7))) [(36,.agg (uc (limN 4 zf)))],.val (.agg (uc (limN 4 z9))) [(6,.pointer (some ⟨g6,0,none⟩))],.val (.agg (uc (limN 4 za))) [(37,.agg (uc (limN 4 q7))),(38,.agg (uc (limN 4 z9)))],.fresh (.cells zeros4 61)] (by kernel_rfl) (by kernel_rfl) rfl ?_ ?_ ?_
       ·simp only[take_succ_cons,List.take_zero,qaO,qaP,HeadSpec.val,HeadSpec.fresh,and_true];refine⟨?_,?_,?_,?_,?_⟩
        ·intro a w hb h;exact qab 61 (.tmp 8) rfl g8 (sd0 h) 61 _ (0,0) _ (hkq H8 hb) underlying61 rfl zy.out
        ·intro a w hb h;simp[go_sem,rd0 h,qaa];exact S7.out w
        ·intro a w hb h;exact qab 61 (.tmp 6) rfl g6 (sd0 h) 61 _ (0,0) _ (hkq H6 hb) underlying61 rfl zm.out
        ·intro a w hb h;simp[go_sem,rd0 h,rd1 h,qaa];exact M7.out w
        ·intro a w hb;simp[go_sem,hz]
       ·simp[qay,qax,qaK,HeadSpec.val,HeadSpec.fresh,Act.put]
       ·simp only[zks,qaN,HeadSpec.val,HeadSpec.fresh,Act.put,zkt];intro g9 hgg9 _ v1 z0 z4;have HN:=hid (show v1.heap[g9]?=some (.cells zeros4 61) from z4 (g9,.cells zeros4 61) (by simp));have z1:Below B w v1:=hb.trans (z0.mono (by have:=qac H1.out;omega));have z2:=hid (jsh v1 (g9) _ (uc (limN 4 za)) _ _ HN.out);have z5:Hid ((v1.setRow (g9) (uc (limN 4 za))).heap[B]?=some (.cells (uc (limN 4 x)) 61)):=hid (by rw[jro _ _ _ _ (by have:=qac H1.out;omega)];exact hkq H1 z0);have z6:Hid ((v1.setRow (g9) (uc (limN 4 za))).heap[B+1]?=some (.cells zeros4 61)):=hid (by rw[jro _ _ _ _ (by have:=qac H2.out;omega)];exact hkq H2 z0);have z3:Below B w (v1.setRow (g9) (uc (limN 4 za))):=jbr z1 (by have:=qac H1.out;omega) _;clear H1 H2 z1 z0 z4 hb;go_wp2_with (with_reducible refine jsr rfl 61 _ _ rfl (g9) (uc (limN 4 za)) rfl rfl 61 _ HN.out zn.out zM.out zH.out ?_);generalize World.setRow _ _ _=W7 at *;have H1:=z5;have H2:=z6;have H9:=z2;have hb:=z3;clear z5 z6 z2 HN z3 S7 M7
        try simp only[Act.put]
        refine qao 5 52 [.val (.agg (uc (limN 4 za))) [(9,.pointer (some ⟨g9,0,none⟩))],.val (.agg (uc (limN 4 q8))) [(40,.agg (uc (limN 4 za)))],.val (.agg (uc (limN 4 za))) [(9,.pointer (some ⟨g9,0,none⟩))],.val (.agg (uc (limN 4 z7))) [(41,.agg (uc (limN 4 q8))),(42,.agg (uc (limN 4 za)))],.fresh (.cells zeros4 61)] (by kernel_rfl) (by kernel_rfl) rfl ?_ ?_ ?_
        ·simp only[take_succ_cons,List.take_zero,qaO,qaP,HeadSpec.val,HeadSpec.fresh,and_true];refine⟨?_,?_,?_,?_,?_⟩
         ·intro a w hb h;exact qab 61 (.tmp 9) rfl g9 (sd0 h) 61 _ (0,0) _ (hkq H9 hb) underlying61 rfl zn.out
         ·intro a w hb h;simp[go_sem,rd0 h,qaa];exact S8.out w
         ·intro a w hb h;exact qab 61 (.tmp 9) rfl g9 (sd0 h) 61 _ (0,0) _ (hkq H9 hb) underlying61 rfl zn.out
         ·intro a w hb h;simp[go_sem,rd0 h,rd1 h,qaa];exact M8.out w
         ·intro a w hb;simp[go_sem,hz]
        ·simp[qay,qax,qaK,HeadSpec.val,HeadSpec.fresh,Act.put]
        ·simp only[zks,qaN,HeadSpec.val,HeadSpec.fresh,Act.put,zkt];intro zc hgg10 _ v1 z0 z4;have HN:=hid (show v1.heap[zc]?=some (.cells zeros4 61) from z4 (zc,.cells zeros4 61) (by simp));have z1:Below B w v1:=hb.trans (z0.mono (by have:=qac H1.out;omega));have z2:=hid (jsh v1 (zc) _ (uc (limN 4 z7)) _ _ HN.out);have z5:Hid ((v1.setRow (zc) (uc (limN 4 z7))).heap[B]?=some (.cells (uc (limN 4 x)) 61)):=hid (by rw[jro _ _ _ _ (by have:=qac H1.out;omega)];exact hkq H1 z0);have z6:Hid ((v1.setRow (zc) (uc (limN 4 z7))).heap[B+1]?=some (.cells zeros4 61)):=hid (by rw[jro _ _ _ _ (by have:=qac H2.out;omega)];exact hkq H2 z0);have zl:Hid ((v1.setRow (zc) (uc (limN 4 z7))).heap[g9]?=some (.cells (uc (limN 4 za)) 61)):=hid (by rw[jro _ _ _ _ (by have:=qac H9.out;omega)];exact hkq H9 z0);have z3:Below B w (v1.setRow (zc) (uc (limN 4 z7))):=jbr z1 (by have:=qac H1.out;omega) _;clear H1 H2 H9 z1 z0 z4 hb;go_wp2_with (with_reducible refine jsr rfl 61 _ _ rfl (zc) (uc (limN 4 z7)) rfl rfl 61 _ HN.out zg.out zs.out zp.out ?_);generalize World.setRow _ _ _=W8 at *;have H1:=z5;have H2:=z6;have H9:=zl;have zx:=z2;have hb:=z3;clear z5 z6 zl z2 HN z3 S8 M8
         try simp only[Act.put]
         refine qao 5 52 [.val (.agg (uc (limN 4 z7))) [(10,.pointer (some ⟨zc,0,none⟩))],.val (.agg (uc (limN 4 q9))) [(44,.agg (uc (limN 4 z7)))],.val (.agg (uc (limN 4 z7))) [(10,.pointer (some ⟨zc,0,none⟩))],.val (.agg (uc (limN 4 z8))) [(45,.agg (uc (limN 4 q9))),(46,.agg (uc (limN 4 z7)))],.fresh (.cells zeros4 61)] (by kernel_rfl) (by kernel_rfl) rfl ?_ ?_ ?_
         ·simp only[take_succ_cons,List.take_zero,qaO,qaP,HeadSpec.val,HeadSpec.fresh,and_true];refine⟨?_,?_,?_,?_,?_⟩
          ·intro a w hb h;exact qab 61 (.tmp 10) rfl zc (sd0 h) 61 _ (0,0) _ (hkq zx hb) underlying61 rfl zg.out
          ·intro a w hb h;simp[go_sem,rd0 h,qaa];exact S9.out w
          ·intro a w hb h;exact qab 61 (.tmp 10) rfl zc (sd0 h) 61 _ (0,0) _ (hkq zx hb) underlying61 rfl zg.out
          ·intro a w hb h;simp[go_sem,rd0 h,rd1 h,qaa];exact M9.out w
          ·intro a w hb;simp[go_sem,hz]
         ·simp[qay,qax,qaK,HeadSpec.val,HeadSpec.fresh,Act.put]
         ·simp only[zks,qaN,HeadSpec.val,HeadSpec.fresh,Act.put,zkt];intro ze hgg11 _ v1 z0 z4;have HN:=hid (show v1.heap[ze]?=some (.cells zeros4 61) from z4 (ze,.cells zeros4 61) (by simp));have z1:Below B w v1:=hb.trans (z0.mono (by have:=qac H1.out;omega));have z2:=hid (jsh v1 (ze) _ (uc (limN 4 z8)) _ _ HN.out);have z5:Hid ((v1.setRow (ze) (uc (limN 4 z8))).heap[B]?=some (.cells (uc (limN 4 x)) 61)):=hid (by rw[jro _ _ _ _ (by have:=qac H1.out;omega)];exact hkq H1 z0);have z6:Hid ((v1.setRow (ze) (uc (limN 4 z8))).heap[B+1]?=some (.cells zeros4 61)):=hid (by rw[jro _ _ _ _ (by have:=qac H2.out;omega)];exact hkq H2 z0);have zl:Hid ((v1.setRow (ze) (uc (limN 4 z8))).heap[g9]?=some (.cells (uc (limN 4 za)) 61)):=hid (by rw[jro _ _ _ _ (by have:=qac H9.out;omega)];exact hkq H9 z0);have z3:Below B w (v1.setRow (ze) (uc (limN 4 z8))):=jbr z1 (by have:=qac H1.out;omega) _;clear H1 H2 H9 z1 z0 z4 hb;go_wp2_with (with_reducible refine jsr rfl 61 _ _ rfl (ze) (uc (limN 4 z8)) rfl rfl 61 _ HN.out zh.out zt.out zq.out ?_);generalize World.setRow _ _ _=W9 at *;have H1:=z5;have H2:=z6;have H9:=zl;have zC:=z2;have hb:=z3;clear z5 z6 zl z2 HN z3 S9 M9
          try simp only[Act.put]
          refine qao 4 52 [.val (.agg (uc (limN 4 z8))) [(11,.pointer (some ⟨ze,0,none⟩))],.val (.agg (uc (limN 4 zB))) [(48,.agg (uc (limN 4 z8)))],.val (.agg (uc (limN 4 za))) [(9,.pointer (some ⟨g9,0,none⟩))],.val (.agg (uc (limN 4 zb))) [(49,.agg (uc (limN 4 zB))),(50,.agg (uc (limN 4 za)))]] (by kernel_rfl) (by kernel_rfl) rfl ?_ ?_ ?_
          ·simp only[take_succ_cons,List.take_zero,qaO,qaP,HeadSpec.val,HeadSpec.fresh,and_true];refine⟨?_,?_,?_,?_⟩
           ·intro a w hb h;exact qab 61 (.tmp 11) rfl ze (sd0 h) 61 _ (0,0) _ (hkq zC hb) underlying61 rfl zh.out
           ·intro a w hb h;simp[go_sem,rd0 h,qaa];exact zI.out w
           ·intro a w hb h;exact qab 61 (.tmp 9) rfl g9 (sd0 h) 61 _ (0,0) _ (hkq H9 hb) underlying61 rfl zn.out
           ·intro a w hb h;simp[go_sem,rd0 h,rd1 h,qaa];exact zz.out w
          ·simp[qay,qax,qaK,HeadSpec.val,HeadSpec.fresh,Act.put]
          ·simp only[zks,qaN,HeadSpec.val,HeadSpec.fresh,Act.put,zkt];intro v1 z0 z4;have HN:=hkp H2 z0;have z1:Below B w v1:=hb.trans (z0.mono (by have:=qac H1.out;omega));have z2:=hid (jsh v1 (B+1) _ (uc (limN 4 zb)) _ _ HN.out);have z5:Hid ((v1.setRow (B+1) (uc (limN 4 zb))).heap[B]?=some (.cells (uc (limN 4 x)) 61)):=hid (by rw[jro _ _ _ _ (by have:=qac H1.out;omega)];exact hkq H1 z0);have z3:Below B w (v1.setRow (B+1) (uc (limN 4 zb))):=jbr z1 (by omega) _;clear H1 z1 z0 z4 hb;go_wp2_with (with_reducible refine jsr rfl 61 _ _ rfl (B+1) (uc (limN 4 zb)) rfl rfl 61 _ HN.out zi.out zu.out zr.out ?_);exact jpr (v:=.agg (uc (limN 4 zb))) (jrc (by rfl) _ _ (B+1) 61 _ (0,0) _ rfl z2.out underlying61 rfl zi.out) rfl ⟨by rw[HU.out],by rw[zD.out];exact z3⟩
def PrmQ(w:World):Prop:=∃ T fr,w.heap[0]?=some (.cells (uc (limN 4 pF)) T fr)
theorem PrmQ.lt{w:World}(h:PrmQ w):0 < w.heap.size:=by
 obtain⟨T,fr,h⟩:=h;exact qac h
theorem PrmQ.below{w w':World}{B:Nat}(h:PrmQ w)(hb:Below B w w')(hB:0 < B):PrmQ w':=by
 obtain⟨T,fr,h⟩:=h;exact⟨T,fr,(hb.block _ hB).trans h⟩
theorem PrmQ.step{w w':World}(h:PrmQ w)(hb:Below w.heap.size w w'):PrmQ w':=h.below hb h.lt
theorem sub_fits(x y:Nat)(hx:x<pF)(hy:y<pF):x+pF-y<mF∧y≤x+pF∧(x+pF-y+0*mF)%pF=subF x y:=by
 have:=mF_pF;refine⟨by omega,by omega,?_⟩;rw[subF,Nat.zero_mul,Nat.add_zero,show x+pF-y=x+(pF-y) by omega]
theorem qcA(x y:Nat)(w:World)(hx:x<pF)(hy:y<pF)(hT:PrmQ w):Rt 130 #[.agg (uc (limN 4 x)),.agg (uc (limN 4 y))] w (.agg (uc (limN 4 (subF x y)))):=by
 unfold Rt;obtain⟨hz,hi⟩:=jzi qbR;have hTl:=hT.lt;have hb:=qbd w (.cells (uc (limN 4 x)) 61) (.cells (uc (limN 4 y)) 61) (.cells zeros4 61);have HP:=hid (hT.step hb);have H2:=hid (qah (o:=.cells zeros4 61) (qah (o:=.cells (uc (limN 4 y)) 61) (qad w (.cells (uc (limN 4 x)) 61))));have H3:=hid (qah (o:=.cells zeros4 61) (qaz w (.cells (uc (limN 4 x)) 61) (.cells (uc (limN 4 y)) 61)));have H4:=hid (qby w (.cells (uc (limN 4 x)) 61) (.cells (uc (limN 4 y)) 61) (.cells zeros4 61));have Ix:=hid (qcu (limN 4 x) (qae _ _));have Iy:=hid (qcu (limN 4 y) (qae _ _));have Ip:=hid (qcu (limN 4 pF) (qae _ _));have Ir:=hid (qal (subF x y));have Zr:=hid (qaw (subF x y));have Or:=hid (qar (limN 4 (subF x y)));obtain⟨f1,f2,f3⟩:=sub_fits x y hx hy;have C1:=hid (fun W=>plusL_any x pF W);have C2:=hid (fun W=>minusL_any (x+pF) y W f2);have C3:=hid (fun W=>qeH (x+pF-y) 0 W f1 (by omega));rw[f3]at C3;clear hi hx hy f1 f2 f3 hT;go_enter func130,ntmps130;go_upto_region 1 with fail;clear hz;generalize (((w.alloc _).alloc _).alloc _)=W0 at *;generalize z1:w.heap.size=B at *;have z3:=hid z1;clear z1;generalize x+pF-y=d at *;generalize x+pF=s at *;generalize hr:subF x y=r at *;have z6:=hid hr;clear hr;obtain⟨TP,fr,hP⟩:=HP.out;have z5:=hid hP;clear HP hP;generalize limN 4 pF=P at *
 refine qao 8 13 [.val (.pointer (some ⟨B,0,none⟩)) [(2,.pointer (some ⟨B,0,none⟩))],.val (.agg (uc (limN 4 x))) [(5,.pointer (some ⟨B,0,none⟩))],.val (.agg (uc P)) [],.val (.agg (uc (limN 4 s))) [(6,.agg (uc (limN 4 x))),(7,.agg (uc P))],
  .val (.pointer (some ⟨B+1,0,none⟩)) [(3,.pointer (some ⟨B+1,0,none⟩))],.val (.agg (uc (limN 4 y))) [(9,.pointer (some ⟨B+1,0,none⟩))],.val (.agg (uc (limN 4 d))) [(8,.agg (uc (limN 4 s))),(10,.agg (uc (limN 4 y)))],.val (.agg (uc (limN 4 r))) [(11,.agg (uc (limN 4 d)))]]
  (by kernel_rfl) (by kernel_rfl) rfl ?_ ?_ ?_
 ·simp only[take_succ_cons,List.take_zero,qaO,qaP,HeadSpec.val,HeadSpec.fresh,and_true];refine⟨?_,?_,?_,?_,?_,?_,?_,?_⟩
  ·intro a w hb h;simp[go_sem,rd0 h,qaa]
  ·intro a w hb h;exact qab 59 (.tmp 5) rfl B (sd0 h) 61 _ (0,0) _ (hkq H2 hb) underlying59 rfl Ix.out
  ·intro a w hb h;exact qab 59 (.global 0) rfl 0 rfl TP _ fr _ (hkq z5 hb) underlying59 rfl Ip.out
  ·intro a w hb h;simp[go_sem,rd0 h,rd1 h,qaa];exact C1.out w
  ·intro a w hb h;simp[go_sem,rd0 h,qaa]
  ·intro a w hb h;exact qab 59 (.tmp 9) rfl (B+1) (sd0 h) 61 _ (0,0) _ (hkq H3 hb) underlying59 rfl Iy.out
  ·intro a w hb h;simp[go_sem,rd0 h,rd1 h,qaa];exact C2.out w
  ·intro a w hb h;simp[go_sem,rd0 h,qaa];exact C3.out w
 ·simp[qay,qax,qaK,HeadSpec.val,HeadSpec.fresh,Act.put]
 ·simp only[zks,qaN,HeadSpec.val,HeadSpec.fresh,Act.put,zkt];intro v1 z0 z8;have HN:=hkp H4 z0;have z2:Below B w v1:=hb.trans (z0.mono (by have:=qac H4.out;omega));have z4:=hid (jsh v1 (B+1+1) _ (uc (limN 4 r)) _ _ HN.out);have z7:Below B w (v1.setRow (B+1+1) (uc (limN 4 r))):=jbr z2 (by omega) _;clear H2 H3 H4 z2 z0 z8 hb;go_wp2_with (with_reducible refine jsr rfl 61 _ _ rfl (B+1+1) (uc (limN 4 r)) rfl rfl 61 _ HN.out Ir.out Zr.out Or.out ?_);exact jpr (v:=.agg (uc (limN 4 r))) (jrc (by rfl) _ _ (B+1+1) 61 _ (0,0) _ rfl z4.out underlying61 rfl Ir.out) rfl ⟨by rw[z6.out],by rw[z3.out];exact z7⟩
theorem qeW:zeros4=uc (limN 4 0):=rfl
theorem qci(n:Nat)(w:World)(h:n<9223372036854775808):Rt 131 #[.int .i64 (n:Int)] w (.agg (uc (limN 4 n))):=by
 unfold Rt;obtain⟨hz,hi⟩:=jzi qbR;have hd:decide ((n:Int)<0)=false:=by simp
 have hc:(n:Int)%18446744073709551616=(n:Int):=by omega
 have HN:=hid (show n<18446744073709551616 by omega);have HL:=hid (qae 4 n);have z0:=hid (qad w (.cells zeros4 61));have z1:=qaf w (.cells zeros4 61);have HI:=hid (qal n);have HZ:=hid (qaw n);have HO:=hid (qar (limN 4 n));clear hi;go_enter func131,ntmps131;go_wp2_with (first
  | (with_reducible refine wpList_build_one rfl _ rfl n HN.out rfl ?_)
  | (with_reducible refine qf2 rfl _ rfl (limN 4 n) HL.out rfl ?_)
  | (with_reducible refine jsr rfl 61 _ _ rfl w.heap.size (uc (limN 4 n)) rfl rfl 61 _ z0.out HI.out HZ.out HO.out ?_))
 exact jpr (v:=.agg (uc (limN 4 n))) (jrc (by rfl) _ _ w.heap.size 61 _ (0,0) _ rfl (jsh _ _ _ _ _ _ z0.out) underlying61 rfl HI.out) rfl ⟨rfl,jbr z1 (jlr _) _⟩
def qdf(x:Nat):Nat:=if x%2=1 then subF 0 x else x
theorem and_one(x:Nat):bits .and .u64 ((dg x 0:Nat):Int) 1=((x%2:Nat):Int):=by
 have h:=dg_lt x 0;have h1:(BitVec.ofInt 64 1).toNat=2^1-1:=by decide
 have key:(BitVec.ofInt 64 ((dg x 0:Nat):Int) &&& BitVec.ofInt 64 1).toNat=dg x 0%2:=by
  rw[BitVec.toNat_and,BitVec.toNat_ofInt,h1,Nat.and_two_pow_sub_one_eq_mod];omega
 show IntKind.u64.wrap ((BitVec.ofInt 64 ((dg x 0:Nat):Int) &&& BitVec.ofInt 64 1).toNat:Nat)=_;rw[key,dg_odd,IntKind.wrap_u64];omega
theorem even_any(x:Nat)(w:World)(hx:x<pF)(hT:PrmQ w):Rt 216 #[.agg (uc (limN 4 x))] w (.agg (uc (limN 4 (qdf x)))):=by
 unfold Rt;obtain⟨hz,hi⟩:=jzi qbR;have z2:=hid (qah (o:=.cells zeros4 61) (qad w (.cells (uc (limN 4 x)) 61)));have z1:=hid (qaz w (.cells (uc (limN 4 x)) 61) (.cells zeros4 61));have z3:=qaL w (.cells (uc (limN 4 x)) 61) (.cells zeros4 61);have z9:=hid (hT.step z3);have HC:=hid (fun W hW=>qcA 0 x W qdx hx hW);rw[← qeW]at HC;have eA:=and_one x;have z5:=hid (qal x);have HI:=hid (qal (qdf x));have HZ:=hid (qaw (qdf x));have HO:=hid (qar (limN 4 (qdf x)));clear hi hT;go_enter func216,ntmps216;go_upto_region 1 with fail;clear hz;generalize ((w.alloc _).alloc _)=W0 at *;generalize z7:w.heap.size=B at *;have z4:=hid z7;clear z7;have c0:=qbX z2.out 0 (by rw[qae];decide);rw[qbn _ _ _ (by decide)]at c0;by_cases z0:x%2=1
 ·have hE:qdf x=subF 0 x:=if_pos z0;have z8:(((x%2:Nat):Int)==1)=true:=by rw[z0];rfl
  rw[hE]at HI HZ HO;have HE:=hid hE;generalize x%2=b at *;clear hE;generalize subF 0 x=r at *;clear z0;go_wp2_with (first
   | (with_reducible refine qfA rfl rfl ?_)
   | (with_reducible refine jlw rfl 61 _ rfl B rfl 61 _ (0,0) _ z2.out underlying61 rfl z5.out ?_))
  clear eA c0 z8;refine (HC.out W0 z9.out).mono ?_;rintro e W1⟨rfl,h1⟩;have z6:=hkp z1 h1;have za:Below B w W1:=z3.trans (h1.mono (by have:=qac z1.out;omega));clear HC z1 z2 z3 h1;go_wp2_with (with_reducible refine jsr rfl 61 _ _ rfl (B+1) (uc (limN 4 r)) rfl rfl 61 _ z6.out HI.out HZ.out HO.out ?_);exact jpr (v:=.agg (uc (limN 4 r))) (jrc (by rfl) _ _ (B+1) 61 _ (0,0) _ rfl (jsh _ _ _ _ _ _ z6.out) underlying61 rfl HI.out) rfl ⟨by rw[HE.out],by rw[z4.out];exact jbr za (by omega) _⟩
 ·have hE:qdf x=x:=if_neg z0;have z8:(((x%2:Nat):Int)==1)=false:=by
   have:x%2=0:=by omega
   rw[this];rfl
  rw[hE]at HI HZ HO;have HE:=hid hE;generalize x%2=b at *;clear hE z0 HC;go_wp2_with (first
   | (with_reducible refine jlw rfl 61 _ rfl B rfl 61 _ (0,0) _ z2.out underlying61 rfl z5.out ?_)
   | (with_reducible refine jsr rfl 61 _ _ rfl (B+1) (uc (limN 4 x)) rfl rfl 61 _ z1.out HI.out HZ.out HO.out ?_))
  exact jpr (v:=.agg (uc (limN 4 x))) (jrc (by rfl) _ _ (B+1) 61 _ (0,0) _ rfl (jsh _ _ _ _ _ _ z1.out) underlying61 rfl HI.out) rfl ⟨by rw[HE.out],by rw[z4.out];exact jbr z3 (by omega) _⟩
theorem inv_eleven(x:Nat)(hx:x<pF):mulF (powF x (2^2)) x=powF x 5∧mulF (powF (powF x 5) (2^1)) x=powF x 11:=by
 have h1:∀ n,mulF (powF x n) x=powF x (n+1):=fun n=>by
  have:=qe8 x n 1;rwa[powF_one x hx]at this
 exact⟨h1 4,by rw[qfW,h1]⟩
theorem inv_done(x:Nat):mulF (powF (qau x 250) (2^5)) (powF x 11)=invF x:=by
 rw[qau,qfW,qe8,show (2^250-1)*2^5+11=pF-2 by decide]
 rfl
theorem rmo_done:mulF (powF (qau 2 250) (2^3)) 8=powF 2 ((pF-1)/4):=by
 have h8:powF 2 3=8:=by decide
 have:=qe8 2 ((2^250-1)*2^3) 3;rw[h8,← qfW]at this;rw[qau,this,show (2^250-1)*2^3+3=(pF-1)/4 by decide]
theorem invF_any(x:Nat)(w:World)(hx:x<pF):Rt 97 #[.agg (uc (limN 4 x))] w (.agg (uc (limN 4 (invF x)))):=by
 unfold Rt;obtain⟨hz,hi⟩:=jzi qbR;have H1:=hid (qah (o:=.cells zeros4 61) (qad w (.cells (uc (limN 4 x)) 61)));have H2:=hid (qaz w (.cells (uc (limN 4 x)) 61) (.cells zeros4 61));have hb:=qaL w (.cells (uc (limN 4 x)) 61) (.cells zeros4 61);obtain⟨e5,z9⟩:=inv_eleven x hx;have S1:=hid (fun W=>qa8 x 2 W hx (by omega));have M1:=hid (fun W=>qaS (powF x (2^2)) x W (qa4 _ _) hx);have S2:=hid (fun W=>qa8 (powF x 5) 1 W (qa4 _ _) (by omega));have M2:=hid (fun W=>qaS (powF (powF x 5) (2^1)) x W (qa4 _ _) hx);have C:=hid (fun W=>ones_any x W hx);have S3:=hid (fun W=>qa8 (qau x 250) 5 W (qbo _ _) (by omega));have M3:=hid (fun W=>qaS (powF (qau x 250) (2^5)) (powF x 11) W (qa4 _ _) (qa4 _ _));rw[e5]at M1;rw[z9]at M2;rw[inv_done]at M3;have I1:=hid (qal x);have z8:=hid (qal (powF x 11));have ze:=hid (qaw (powF x 11));have zd:=hid (qar (limN 4 (powF x 11)));have Ir:=hid (qal (invF x));have Zr:=hid (qaw (invF x));have Or:=hid (qar (limN 4 (invF x)));clear hi hx e5 z9;go_enter func97,ntmps97;go_upto_region 1 with fail
 generalize ((w.alloc _).alloc _)=W0 at *;generalize za:w.heap.size=B at *;have zc:=hid za;clear za;generalize hr:invF x=r at *;have HU:=hid hr;clear hr;generalize powF (powF x 5) (2^1)=q2 at *;generalize powF (qau x 250) (2^5)=q3 at *;generalize powF x 11=z1 at *;generalize powF x (2^2)=q1 at *;generalize powF x 5=u5 at *;generalize qau x 250=z3 at *;refine qao 8 16 [.val (.agg (uc (limN 4 x))) [(1,.pointer (some ⟨B,0,none⟩))],.val (.agg (uc (limN 4 q1))) [(4,.agg (uc (limN 4 x)))],.val (.agg (uc (limN 4 x))) [(1,.pointer (some ⟨B,0,none⟩))],.val (.agg (uc (limN 4 u5))) [(5,.agg (uc (limN 4 q1))),(6,.agg (uc (limN 4 x)))],.val (.agg (uc (limN 4 q2))) [(7,.agg (uc (limN 4 u5)))],.val (.agg (uc (limN 4 x))) [(1,.pointer (some ⟨B,0,none⟩))],.val (.agg (uc (limN 4 z1))) [(8,.agg (uc (limN 4 q2))),(9,.agg (uc (limN 4 x)))],.fresh (.cells zeros4 61)] (by kernel_rfl) (by kernel_rfl) rfl ?_ ?_ ?_
 ·simp only[take_succ_cons,List.take_zero,qaO,qaP,HeadSpec.val,HeadSpec.fresh,and_true];refine⟨?_,?_,?_,?_,?_,?_,?_,?_⟩
  ·intro a w hb h;exact qab 61 (.tmp 1) rfl B (sd0 h) 61 _ (0,0) _ (hkq H1 hb) underlying61 rfl I1.out
  ·intro a w hb h;simp[go_sem,rd0 h,qaa];exact S1.out w
  ·intro a w hb h;exact qab 61 (.tmp 1) rfl B (sd0 h) 61 _ (0,0) _ (hkq H1 hb) underlying61 rfl I1.out
  ·intro a w hb h;simp[go_sem,rd0 h,rd1 h,qaa];exact M1.out w
  ·intro a w hb h;simp[go_sem,rd0 h,qaa];exact S2.out w
  ·intro a w hb h;exact qab 61 (.tmp 1) rfl B (sd0 h) 61 _ (0,0) _ (hkq H1 hb) underlying61 rfl I1.out
  ·intro a w hb h;simp[go_sem,rd0 h,rd1 h,qaa];exact M2.out w
  ·intro a w hb;simp[go_sem,hz]
 ·simp[qay,qax,qaK,HeadSpec.val,HeadSpec.fresh,Act.put]
 ·simp only[zks,qaN,HeadSpec.val,HeadSpec.fresh,Act.put,zkt];intro g3 hgg3 _ v1 z0 z6;have HN:=hid (show v1.heap[g3]?=some (.cells zeros4 61) from z6 (g3,.cells zeros4 61) (by simp));have z2:Below B w v1:=hb.trans (z0.mono (by have:=qac H1.out;omega));have z4:=hid (jsh v1 (g3) _ (uc (limN 4 z1)) _ _ HN.out);have z7:Hid ((v1.setRow (g3) (uc (limN 4 z1))).heap[B]?=some (.cells (uc (limN 4 x)) 61)):=hid (by rw[jro _ _ _ _ (by have:=qac H1.out;omega)];exact hkq H1 z0);have zb:Hid ((v1.setRow (g3) (uc (limN 4 z1))).heap[B+1]?=some (.cells zeros4 61)):=hid (by rw[jro _ _ _ _ (by have:=qac H2.out;omega)];exact hkq H2 z0);have z5:Below B w (v1.setRow (g3) (uc (limN 4 z1))):=jbr z2 (by have:=qac H1.out;omega) _;clear H1 H2 z2 z0 z6 hb;go_wp2_with (with_reducible refine jsr rfl 61 _ _ rfl (g3) (uc (limN 4 z1)) rfl rfl 61 _ HN.out z8.out ze.out zd.out ?_);generalize World.setRow _ _ _=W1 at *;have H1:=z7;have H2:=zb;have H3:=z4;have hb:=z5;clear z7 zb z4 HN z5 S1 M1 S2 M2
  try simp only[Act.put]
  refine qao 5 16 [.val (.agg (uc (limN 4 x))) [(1,.pointer (some ⟨B,0,none⟩))],.val (.agg (uc (limN 4 z3))) [(11,.agg (uc (limN 4 x)))],.val (.agg (uc (limN 4 q3))) [(12,.agg (uc (limN 4 z3)))],.val (.agg (uc (limN 4 z1))) [(3,.pointer (some ⟨g3,0,none⟩))],.val (.agg (uc (limN 4 r))) [(13,.agg (uc (limN 4 q3))),(14,.agg (uc (limN 4 z1)))]] (by kernel_rfl) (by kernel_rfl) rfl ?_ ?_ ?_
  ·simp only[take_succ_cons,List.take_zero,qaO,qaP,HeadSpec.val,HeadSpec.fresh,and_true];refine⟨?_,?_,?_,?_,?_⟩
   ·intro a w hb h;exact qab 61 (.tmp 1) rfl B (sd0 h) 61 _ (0,0) _ (hkq H1 hb) underlying61 rfl I1.out
   ·intro a w hb h;simp[go_sem,rd0 h,qaa];exact C.out w
   ·intro a w hb h;simp[go_sem,rd0 h,qaa];exact S3.out w
   ·intro a w hb h;exact qab 61 (.tmp 3) rfl g3 (sd0 h) 61 _ (0,0) _ (hkq H3 hb) underlying61 rfl z8.out
   ·intro a w hb h;simp[go_sem,rd0 h,rd1 h,qaa];exact M3.out w
  ·simp[qay,qax,qaK,HeadSpec.val,HeadSpec.fresh,Act.put]
  ·simp only[zks,qaN,HeadSpec.val,HeadSpec.fresh,Act.put,zkt];intro v1 z0 z6;have HN:=hkp H2 z0;have z2:Below B w v1:=hb.trans (z0.mono (by have:=qac H1.out;omega));have z4:=hid (jsh v1 (B+1) _ (uc (limN 4 r)) _ _ HN.out);have z7:Hid ((v1.setRow (B+1) (uc (limN 4 r))).heap[B]?=some (.cells (uc (limN 4 x)) 61)):=hid (by rw[jro _ _ _ _ (by have:=qac H1.out;omega)];exact hkq H1 z0);have z5:Below B w (v1.setRow (B+1) (uc (limN 4 r))):=jbr z2 (by omega) _;clear H1 z2 z0 z6 hb;go_wp2_with (with_reducible refine jsr rfl 61 _ _ rfl (B+1) (uc (limN 4 r)) rfl rfl 61 _ HN.out Ir.out Zr.out Or.out ?_);exact jpr (v:=.agg (uc (limN 4 r))) (jrc (by rfl) _ _ (B+1) 61 _ (0,0) _ rfl z4.out underlying61 rfl Ir.out) rfl ⟨by rw[HU.out],by rw[zc.out];exact z5⟩
theorem rmo_any(w:World):Rt 215 #[] w (.agg (uc (limN 4 (powF 2 ((pF-1)/4))))):=by
 unfold Rt;obtain⟨hz,hi⟩:=jzi qbR;have h2:2<pF:=by decide
 have h8:8<pF:=by decide
 have z0:=hid (qad w (.cells zeros4 61));have z4:=qaf w (.cells zeros4 61);have C1:=hid (fun W=>qci 2 W (by omega));have C2:=hid (fun W=>ones_any 2 W h2);have C3:=hid (fun W=>qa8 (qau 2 250) 3 W (qbo _ _) (by omega));have C4:=hid (fun W=>qci 8 W (by omega));have C5:=hid (fun W=>qaS (powF (qau 2 250) (2^3)) 8 W (qa4 _ _) h8);rw[rmo_done]at C5;generalize hr:powF 2 ((pF-1)/4)=r at *;have HU:=hid hr;have Ir:=hid (qal r);have Zr:=hid (qaw r);have Or:=hid (qar (limN 4 r));generalize powF (qau 2 250) (2^3)=q at *;generalize qau 2 250=u at *;generalize limN 4 2=l2 at *;generalize limN 4 8=l8 at *;clear hi hr h2 h8;go_enter func215,ntmps215;go_upto_region 1 with fail;clear hz;generalize (w.alloc _)=W0 at *;generalize z2:w.heap.size=B at *;have z3:=hid z2;clear z2;go_wp2_with fail;refine (C1.out W0).mono ?_;rintro e W1⟨rfl,h1⟩;go_wp2_with fail;refine (C2.out W1).mono ?_;rintro e W2⟨rfl,h2⟩;go_wp2_with fail;refine (C3.out W2).mono ?_;rintro e W3⟨rfl,h3⟩;go_wp2_with fail;refine (C4.out W3).mono ?_;rintro e W4⟨rfl,h4⟩;go_wp2_with fail;refine (C5.out W4).mono ?_;rintro e W5⟨rfl,h5⟩;have t2:=h1.trans (h2.mono h1.size);have t3:=t2.trans (h3.mono t2.size);have t4:=t3.trans (h4.mono t3.size);have t5:=t4.trans (h5.mono t4.size);have z1:=hkp z0 t5;have z5:Below B w W5:=z4.trans (t5.mono (by have:=qac z0.out;omega));clear h1 h2 h3 h4 h5 t2 t3 t4 t5 C1 C2 C3 C4 C5
 go_wp2_with (with_reducible refine jsr rfl 61 _ _ rfl B (uc (limN 4 r)) rfl rfl 61 _ z1.out Ir.out Zr.out Or.out ?_);exact jpr (v:=.agg (uc (limN 4 r))) (jrc (by rfl) _ _ B 61 _ (0,0) _ rfl (jsh _ _ _ _ _ _ z1.out) underlying61 rfl Ir.out) rfl ⟨rfl,by rw[z3.out];exact jbr z5 (jlr _) _⟩
theorem part_limb(l:List Nat)(h:l.length=4)(i:Nat)(hi:i<4)(w:World):(part 57 (uc l) (i*Tryz.prog.cellsOf 57)).run Tryz.prog w=.ok (.int .u64 ((l.getD i 0:Nat):Int)) w:=by
 rw[show Tryz.prog.cellsOf 57=1 from by kernel_rfl,Nat.mul_one];exact run_part_plain w (by kernel_rfl) (nc_get .u64 l i (by omega))
theorem infoU:∃ i,Tryz.prog.info? 57=some i:=by
 cases h:Tryz.prog.info? 57 with
 | none=>exact absurd (show (Tryz.prog.info? 57).isSome=true from by kernel_rfl) (by rw[h];simp)
 | some i=>exact⟨i,rfl⟩
theorem limbs_eq(l m:List Nat)(hl:l.length=4)(hm:m.length=4)(k:Nat)(w:World):(Op.equalIn (k+2) 59 (.agg (uc l)) (.agg (uc m))).run Tryz.prog w=.ok (decide (l=m)) w:=by
 obtain⟨i,hi⟩:=infoU;rw[run_equalIn_array w (k+1) (uc l) (uc m) underlying59 hi];have e:∀ (a b:Int) (w:World),(Op.equalIn (k+1) 57 (.int .u64 a) (.int .u64 b)).run Tryz.prog w=.ok (a==b) w:=fun a b w=>run_equalIn_int w k 57 .u64 .u64 a b underlying57;obtain⟨a,b,c,d,rfl⟩:∃ a b c d,l=[a,b,c,d]:=by
  match l,hl with
  | [a,b,c,d],_=>exact⟨a,b,c,d,rfl⟩
 obtain⟨p,q,r,s,rfl⟩:∃ a b c d,m=[a,b,c,d]:=by
  match m,hm with
  | [a,b,c,d],_=>exact⟨a,b,c,d,rfl⟩
 have P:=part_limb [a,b,c,d] rfl;have Q:=part_limb [p,q,r,s] rfl;simp only[show List.range 4=[0,1,2,3] from rfl,Op.eqItems,Sem.run_bind,Sem.run_ite,Sem.run_pure,P 0 (by decide),P 1 (by decide),P 2 (by decide),P 3 (by decide),Q 0 (by decide),Q 1 (by decide),Q 2 (by decide),Q 3 (by decide),Result.andThen_ok,e];by_cases h1:a=p
 ·by_cases h2:b=q
  ·by_cases h3:c=r
   ·by_cases h4:d=s
    ·simp[h1,h2,h3,h4]
    ·simp[h1,h2,h3,h4];intros;omega
   ·simp[h1,h2,h3];intros;omega
  ·simp[h1,h2];intros;omega
 ·simp[h1];intros;omega
theorem part_num(l:List Nat)(h:l.length=4)(w:World):(part 59 (uc l) 0).run Tryz.prog w=.ok (.agg (uc l)) w:=by
 unfold part;rw[Sem.run_bind];have z0:(isAgg 59).run Tryz.prog w=.ok true w:=by
  unfold isAgg;rw[Sem.run_bind,run_underlying underlying59 w]
  rfl
 have z1:(sizeOf 59).run Tryz.prog w=.ok 4 w:=by
  have h4:=(jzi infoL).2
  cases hq:Tryz.prog.info? 59 with
  | none=>simp[hq]at h4
  | some i=>simp[hq]at h4;simp[sizeOf,typeInfo,hq,h4]
 have he:(uc l).extract 0 4=uc l:=by
  have:=qa9 l;rw[h]at this;rw[← this];simp
 simp[z0,z1,he]
theorem num_eq(l m:List Nat)(hl:l.length=4)(hm:m.length=4)(w:World):(Op.equalIn 10000 61 (.agg (uc l)) (.agg (uc m))).run Tryz.prog w=.ok (decide (l=m)) w:=by
 have hf:(Tryz.prog.fieldsOf 61).toList.map (fun f=>(f.name== "_",f.type,f.offset))=[(false, 59,0)]:=by kernel_rfl
 rw[run_equalIn_agg w 9999 61 _ _ (by kernel_rfl) (by kernel_rfl)];generalize (Tryz.prog.fieldsOf 61).toList=fs at hf ⊢
 cases fs with
 | nil=>simp at hf
 | cons f fs=>
  cases fs with
  | cons g fs=>simp at hf
  | nil=>
   simp only[List.map_cons,List.map_nil,List.cons.injEq,Prod.mk.injEq,and_true]at hf;obtain⟨h1,h2,h3⟩:=hf;have z0:f.name≠ "_":=by simpa using h1
   simp only[Op.eqFields,z0,ne_eq,not_false_eq_true,if_true,h2,h3,Sem.run_bind,Sem.run_ite,Sem.run_pure,part_num l hl,part_num m hm,Result.andThen_ok,limbs_eq l m hl hm 9997]
   cases decide (l=m)<;>rfl
theorem powF_two(x:Nat):powF x (2^1)=mulF x x:=by rw[powF,mulF,show 2^1=2 from rfl,Nat.pow_succ,Nat.pow_one]
theorem root_first(x:Nat):mulF (powF (qau x 250) (2^2)) (powF x (2^1))=qbl x:=by
 rw[qau,qfW,qe8,show (2^250-1)*2^2+2^1=(pF+3)/8 by decide]
 rfl
theorem lim_same(x y:Nat)(hx:x<pF)(hy:y<pF):decide (limN 4 x=limN 4 y)=decide (x=y):=by
 by_cases h:x=y
 ·simp[h]
 ·have:limN 4 x≠limN 4 y:=fun e=>h (limN_inj x y (Nat.lt_trans hx qeh) (Nat.lt_trans hy qeh) e);simp[h,this]
theorem qfw{ops:Array Oper}{rest:List Oper}{o:Oper}{a:Act}{w:World}{Q:Exit→Act→World→Prop}(hg:o.guard=none)(ho:o.op=.build 61 #[])
  (h:wpList Tryz.prog ops Q rest (a.put o.dst (.agg (uc (limN 4 0)))) w):wpList Tryz.prog ops Q (o :: rest) a w:=qfA hg ho (by rw[qeW];exact h)
theorem qft{ops:Array Oper}{w:World}{Q:Act→Prop}{a:Act}{o:Oper}{rest:List Oper}(hw:Region.wanted o (yielded ops a.tmps)=true)(x y:Operand)(ho:o.op=.binOp .neq 61 x y 61)(l m:List Nat)(b:Bool)
  (hl:l.length=4) (hm:m.length=4) (hx:a.eval x=.agg (uc l)) (hy:a.eval y=.agg (uc m)) (hb:(!decide (l=m))=b)
  (h:wpQuiet Tryz.prog ops (fun w'=>∃ p:Regrown,w'=grow (redrawn w p.d) p.os) Q rest (a.put o.dst (.bool b))):wpQuiet Tryz.prog ops (fun w'=>∃ p:Regrown,w'=grow (redrawn w p.d) p.os) Q (o :: rest) a:=by
 refine BigFrame.wpQuiet_want hw fun K hK=>⟨.bool b,fun w' hw'=>?_,hK _ h⟩;have e1:(eqGuard .neq 61 x y (.agg (uc l)) (.agg (uc m))).run Tryz.prog w'=.ok () w':=run_eqGuard_agg w' .neq 61 x y _ _ (by kernel_rfl);have e2:(binOp .neq 61 (.agg (uc l)) (.agg (uc m))).run Tryz.prog w'=.ok (.bool b) w':=by
  rw[run_neq_struct,num_eq l m hl hm];simp only[Result.andThen_ok,hb]
 unfold Oper.quietAt execOp;simp only[ho,hx,hy,Sem.run_bind,e1,e2,Result.andThen_ok];exact⟨rfl,rfl⟩
theorem rootF_same(x:Nat)(h:mulF (qbl x) (qbl x)=x):qbj x=(qdf (qbl x),true):=by
 have hy:qbm x=qbl x:=if_pos h;rw[qbj,hy,if_pos h]
 rfl
theorem rootF_other(x:Nat)(h:¬ mulF (qbl x) (qbl x)=x):mulF (qbl x) (powF 2 ((pF-1)/4))=qbm x:=(if_neg h).symm
theorem rootF_yes(x:Nat)(h:mulF (qbm x) (qbm x)=x):qbj x=(qdf (qbm x),true):=by rw[qbj,if_pos h];rfl
theorem rootF_no(x:Nat)(h:¬ mulF (qbm x) (qbm x)=x):qbj x=(0,false):=by rw[qbj,if_neg h]
theorem rootX_lt(x:Nat):qbl x<pF:=qa4 _ _
theorem rootF_any(x:Nat)(w:World)(hx:x<pF)(hT:PrmQ w):Rt 185 #[.agg (uc (limN 4 x))] w (.tuple #[.agg (uc (limN 4 (qbj x).1)),.bool (qbj x).2]):=by
 unfold Rt;obtain⟨hz,hi⟩:=jzi qbR;have H1:=hid (qah (o:=.cells zeros4 61) (qad w (.cells (uc (limN 4 x)) 61)));have H2:=hid (qaz w (.cells (uc (limN 4 x)) 61) (.cells zeros4 61));have hb:=qaL w (.cells (uc (limN 4 x)) 61) (.cells zeros4 61);have HP:=hid (show PrmQ w from hT);have ze:=hid hT.lt;have C:=hid (fun W=>ones_any x W hx);have S1:=hid (fun W=>qa8 (qau x 250) 2 W (qbo _ _) (by omega));have S2:=hid (fun W=>qa8 x 1 W hx (by omega));have M1:=hid (fun W=>qaS (powF (qau x 250) (2^2)) (powF x (2^1)) W (qa4 _ _) (qa4 _ _));have S3:=hid (fun W=>qa8 (qbl x) 1 W (rootX_lt x) (by omega));have S4:=hid (fun W=>qa8 (qbm x) 1 W (rootY_lt x) (by omega));have R:=hid (fun W=>rmo_any W);have M2:=hid (fun W=>qaS (qbl x) (powF 2 ((pF-1)/4)) W (rootX_lt x) (qa4 _ _));have E1:=hid (fun W hW=>even_any (qbl x) W (rootX_lt x) hW);have E2:=hid (fun W hW=>even_any (qbm x) W (rootY_lt x) hW);rw[root_first]at M1;rw[powF_two]at S3 S4;have D1:=hid (lim_same (mulF (qbl x) (qbl x)) x (qaT _ _) hx);have D2:=hid (lim_same (mulF (qbm x) (qbm x)) x (qaT _ _) hx);have V1:=hid (rootF_same x);have V2:=hid (rootF_other x);have V3:=hid (rootF_yes x);have V4:=hid (rootF_no x);have I1:=hid (qal x);have IX:=hid (qal (qbl x));have ZX:=hid (qaw (qbl x));have OX:=hid (qar (limN 4 (qbl x)));have IY:=hid (qal (qbm x));have OY:=hid (qar (limN 4 (qbm x)))
 have ZY:Hid ((uc (limN 4 (qbl x))).size=(uc (limN 4 (qbm x))).size):=hid (by rw[qa9,qa9,qae,qae]);have I0:=hid (qal 0);have O0:=hid (qar (limN 4 0));have Z0:=hid (qaw 0);have zf:=hid (qal (qdf (qbl x)));have zm:=hid (qaw (qdf (qbl x)));have zk:=hid (qar (limN 4 (qdf (qbl x))));have zg:=hid (qal (qdf (qbm x)));have zn:=hid (qaw (qdf (qbm x)));have zl:=hid (qar (limN 4 (qdf (qbm x))));have zc:=hid (qae 4 (mulF (qbl x) (qbl x)));have zh:=hid (qae 4 (mulF (qbm x) (qbm x)));have Lx:=hid (qae 4 x);clear hi hx hT;go_enter func185,ntmps185;go_upto_region 1 with fail;generalize ((w.alloc _).alloc _)=W0 at *;generalize zi:w.heap.size=B at *;have za:=hid zi;clear zi;generalize hX:qbl x=X at *;generalize hY:qbm x=Y at *;generalize powF (qau x 250) (2^2)=q1 at *;generalize powF x (2^1)=q2 at *;generalize qau x 250=z7 at *;generalize powF 2 ((pF-1)/4)=rm at *;generalize mulF X X=XX at *;generalize mulF Y Y=YY at *;generalize qdf X=EX at *;generalize qdf Y=EY at *;clear hX hY
 refine qao 7 25 [.val (.agg (uc (limN 4 x))) [(1,.pointer (some ⟨B,0,none⟩))],.val (.agg (uc (limN 4 z7))) [(5,.agg (uc (limN 4 x)))],.val (.agg (uc (limN 4 q1))) [(6,.agg (uc (limN 4 z7)))],.val (.agg (uc (limN 4 x))) [(1,.pointer (some ⟨B,0,none⟩))],.val (.agg (uc (limN 4 q2))) [(8,.agg (uc (limN 4 x)))],.val (.agg (uc (limN 4 X))) [(7,.agg (uc (limN 4 q1))),(9,.agg (uc (limN 4 q2)))],.fresh (.cells zeros4 61)] (by kernel_rfl) (by kernel_rfl) rfl ?_ ?_ ?_
 ·simp only[take_succ_cons,List.take_zero,qaO,qaP,HeadSpec.val,HeadSpec.fresh,and_true];refine⟨?_,?_,?_,?_,?_,?_,?_⟩
  ·intro a w hb h;exact qab 61 (.tmp 1) rfl B (sd0 h) 61 _ (0,0) _ (hkq H1 hb) underlying61 rfl I1.out
  ·intro a w hb h;simp[go_sem,rd0 h,qaa];exact C.out w
  ·intro a w hb h;simp[go_sem,rd0 h,qaa];exact S1.out w
  ·intro a w hb h;exact qab 61 (.tmp 1) rfl B (sd0 h) 61 _ (0,0) _ (hkq H1 hb) underlying61 rfl I1.out
  ·intro a w hb h;simp[go_sem,rd0 h,qaa];exact S2.out w
  ·intro a w hb h;simp[go_sem,rd0 h,rd1 h,qaa];exact M1.out w
  ·intro a w hb;simp[go_sem,hz]
 ·simp[qay,qax,qaK,HeadSpec.val,HeadSpec.fresh,Act.put]
 ·simp only[zks,qaN,HeadSpec.val,HeadSpec.fresh,Act.put,zkt];intro g4 hgg4 _ v1 z0 z8;have HN:=hid (show v1.heap[g4]?=some (.cells zeros4 61) from z8 (g4,.cells zeros4 61) (by simp));have z2:Below B w v1:=hb.trans (z0.mono (by have:=qac H1.out;omega));have z1:=hid (jsh v1 (g4) _ (uc (limN 4 X)) _ _ HN.out);have z5:Hid ((v1.setRow (g4) (uc (limN 4 X))).heap[B]?=some (.cells (uc (limN 4 x)) 61)):=hid (by rw[jro _ _ _ _ (by have:=qac H1.out;omega)];exact hkq H1 z0);have z6:Hid ((v1.setRow (g4) (uc (limN 4 X))).heap[B+1]?=some (.cells zeros4 61)):=hid (by rw[jro _ _ _ _ (by have:=qac H2.out;omega)];exact hkq H2 z0);have z3:Below B w (v1.setRow (g4) (uc (limN 4 X))):=jbr z2 (by have:=qac H1.out;omega) _;have hg4:B+1<g4:=by have:=qac H2.out;omega
  clear H1 H2 z2 z0 z8 hb;go_wp2_with (with_reducible refine jsr rfl 61 _ _ rfl (g4) (uc (limN 4 X)) rfl rfl 61 _ HN.out IX.out ZX.out OX.out ?_);generalize World.setRow _ _ _=W1 at *;have H1:=z5;have H2:=z6;have H4:=z1;have hb:=z3;clear z5 z6 z1 HN z3 S1 M1 S2 C
  try simp only[Act.put]
  by_cases hc:XX=x
  ·have zj:=hc;have z9:=qac H4.out;refine qav (by kernel_rfl) (by kernel_rfl) ?_;refine qbK rfl 61 _ rfl ⟨g4,0,none⟩ rfl _ (qbE 61 g4 61 _ (0,0) _ H4.out underlying61 rfl IX.out) ?_;simp only[Act.put,zkt]
   first|go_big_quiet_step (exact Calls.regrown_of (S3.out _))|quiet_step (exact Calls.regrown_of (S3.out _))
   refine qbK rfl 61 _ rfl ⟨B,0,none⟩ rfl _ (qbE 61 B 61 _ (0,0) _ H1.out underlying61 rfl I1.out) ?_;simp only[Act.put,zkt];refine qft rfl _ _ rfl (limN 4 XX) (limN 4 x) false zc.out Lx.out rfl rfl (by rw[D1.out];simp[hc]) ?_;simp only[Act.put,zkt];refine jqn ?_;intro V hv;have H1:=hkp H1 hv;have H2:=hkp H2 hv;have H4:=hkp H4 hv;have hb:Below B w V:=hb.trans (hv.mono (by omega));go_wp2_with fail;have z9:=qac H4.out;refine qav (by kernel_rfl) (by kernel_rfl) ?_;refine qbK rfl 61 _ rfl ⟨g4,0,none⟩ rfl _ (qbE 61 g4 61 _ (0,0) _ H4.out underlying61 rfl IX.out) ?_;simp only[Act.put,zkt]
   first|go_big_quiet_step (exact Calls.regrown_of (S3.out _))|quiet_step (exact Calls.regrown_of (S3.out _))
   refine qbK rfl 61 _ rfl ⟨B,0,none⟩ rfl _ (qbE 61 B 61 _ (0,0) _ H1.out underlying61 rfl I1.out) ?_;simp only[Act.put,zkt];refine qft rfl _ _ rfl (limN 4 XX) (limN 4 x) false zc.out Lx.out rfl rfl (by rw[D1.out];simp[hc]) ?_;simp only[Act.put,zkt];refine jqn ?_;intro V hv;have H1:=hkp H1 hv;have H2:=hkp H2 hv;have H4:=hkp H4 hv;have hb:Below B w V:=hb.trans (hv.mono (by omega));go_wp2_with (with_reducible refine jlw rfl 61 _ rfl g4 rfl 61 _ (0,0) _ H4.out underlying61 rfl IX.out ?_);have zb:=HP.out.below hb ze.out;refine (E1.out _ zb).mono ?_;rintro e V2⟨rfl,z4⟩;have zd:=qac H4.out;have H2:=hkp H2 z4;have hb:Below B w V2:=hb.trans (z4.mono (by omega));go_wp2_with (with_reducible refine jsr rfl 61 _ _ rfl (B+1) (uc (limN 4 EX)) rfl rfl 61 _ H2.out zf.out zm.out zk.out ?_);exact jpr (qaC (by rfl) _ _ (B+1) 61 _ (0,0) _ rfl (jsh _ _ _ _ _ _ H2.out) underlying61 rfl zf.out) rfl ⟨by rw[V1.out hc];rfl,by rw[za.out];exact jbr hb (by omega) _⟩
  ·have HM:=hid (V2.out hc);rw[HM.out]at M2;have z9:=qac H4.out;refine qav (by kernel_rfl) (by kernel_rfl) ?_;refine qbK rfl 61 _ rfl ⟨g4,0,none⟩ rfl _ (qbE 61 g4 61 _ (0,0) _ H4.out underlying61 rfl IX.out) ?_;simp only[Act.put,zkt]
   first|go_big_quiet_step (exact Calls.regrown_of (S3.out _))|quiet_step (exact Calls.regrown_of (S3.out _))
   refine qbK rfl 61 _ rfl ⟨B,0,none⟩ rfl _ (qbE 61 B 61 _ (0,0) _ H1.out underlying61 rfl I1.out) ?_;simp only[Act.put,zkt];refine qft rfl _ _ rfl (limN 4 XX) (limN 4 x) true zc.out Lx.out rfl rfl (by rw[D1.out];simp[hc]) ?_;simp only[Act.put,zkt];refine jqn ?_;intro V hv;have H1:=hkp H1 hv;have H2:=hkp H2 hv;have H4:=hkp H4 hv;have hb:Below B w V:=hb.trans (hv.mono (by omega));go_wp2_with fail;refine qao 3 25 [.val (.agg (uc (limN 4 X))) [(4,.pointer (some ⟨g4,0,none⟩))],.val (.agg (uc (limN 4 rm))) [],.val (.agg (uc (limN 4 Y))) [(15,.agg (uc (limN 4 X))),(16,.agg (uc (limN 4 rm)))]] (by kernel_rfl) (by kernel_rfl) rfl ?_ ?_ ?_
   ·simp only[take_succ_cons,List.take_zero,qaO,qaP,HeadSpec.val,HeadSpec.fresh,and_true];refine⟨?_,?_,?_⟩
    ·intro a w hb h;exact qab 61 (.tmp 4) rfl g4 (sd0 h) 61 _ (0,0) _ (hkq H4 hb) underlying61 rfl IX.out
    ·intro a w hb h;simp[go_sem,qaa];exact R.out w
    ·intro a w hb h;simp[go_sem,rd0 h,rd1 h,qaa];exact M2.out w
   ·simp[qay,qax,qaK,HeadSpec.val,HeadSpec.fresh,Act.put]
   ·simp only[zks,qaN,HeadSpec.val,HeadSpec.fresh,Act.put,zkt];intro v1 z0 z8;have HN:=hkp H4 z0;have z2:Below B w v1:=hb.trans (z0.mono (by have:=qac H1.out;omega));have z1:=hid (jsh v1 (g4) _ (uc (limN 4 Y)) _ _ HN.out);have z5:Hid ((v1.setRow (g4) (uc (limN 4 Y))).heap[B]?=some (.cells (uc (limN 4 x)) 61)):=hid (by rw[jro _ _ _ _ (by have:=qac H1.out;omega)];exact hkq H1 z0);have z6:Hid ((v1.setRow (g4) (uc (limN 4 Y))).heap[B+1]?=some (.cells zeros4 61)):=hid (by rw[jro _ _ _ _ (by have:=qac H2.out;omega)];exact hkq H2 z0);have z3:Below B w (v1.setRow (g4) (uc (limN 4 Y))):=jbr z2 (by omega) _;clear H1 H2 z2 z0 z8 hb H4;go_wp2_with (with_reducible refine jsr rfl 61 _ _ rfl (g4) (uc (limN 4 Y)) rfl rfl 61 _ HN.out IY.out ZY.out OY.out ?_);have H1:=z5;have H2:=z6;have H4:=z1;have hb:=z3;clear z5 z6 z1 HN z3 HM hc;go_wp2_with fail;generalize World.setRow _ _ _=W2 at *;by_cases hc:YY=x
    ·have zj:=hc;have z9:=qac H4.out;refine qav (by kernel_rfl) (by kernel_rfl) ?_;refine qbK rfl 61 _ rfl ⟨g4,0,none⟩ rfl _ (qbE 61 g4 61 _ (0,0) _ H4.out underlying61 rfl IY.out) ?_;simp only[Act.put,zkt]
     first|go_big_quiet_step (exact Calls.regrown_of (S4.out _))|quiet_step (exact Calls.regrown_of (S4.out _))
     refine qbK rfl 61 _ rfl ⟨B,0,none⟩ rfl _ (qbE 61 B 61 _ (0,0) _ H1.out underlying61 rfl I1.out) ?_;simp only[Act.put,zkt];refine qft rfl _ _ rfl (limN 4 YY) (limN 4 x) false zh.out Lx.out rfl rfl (by rw[D2.out];simp[hc]) ?_;simp only[Act.put,zkt];refine jqn ?_;intro V hv;have H1:=hkp H1 hv;have H2:=hkp H2 hv;have H4:=hkp H4 hv;have hb:Below B w V:=hb.trans (hv.mono (by omega));go_wp2_with (with_reducible refine jlw rfl 61 _ rfl g4 rfl 61 _ (0,0) _ H4.out underlying61 rfl IY.out ?_);have zb:=HP.out.below hb ze.out;refine (E2.out _ zb).mono ?_;rintro e V2⟨rfl,z4⟩;have zd:=qac H4.out;have H2:=hkp H2 z4;have hb:Below B w V2:=hb.trans (z4.mono (by omega));go_wp2_with (with_reducible refine jsr rfl 61 _ _ rfl (B+1) (uc (limN 4 EY)) rfl rfl 61 _ H2.out zg.out zn.out zl.out ?_);exact jpr (qaC (by rfl) _ _ (B+1) 61 _ (0,0) _ rfl (jsh _ _ _ _ _ _ H2.out) underlying61 rfl zg.out) rfl ⟨by rw[V3.out hc];rfl,by rw[za.out];exact jbr hb (by omega) _⟩
    ·have zj:=hc;have z9:=qac H4.out;refine qav (by kernel_rfl) (by kernel_rfl) ?_;refine qbK rfl 61 _ rfl ⟨g4,0,none⟩ rfl _ (qbE 61 g4 61 _ (0,0) _ H4.out underlying61 rfl IY.out) ?_;simp only[Act.put,zkt]
     first|go_big_quiet_step (exact Calls.regrown_of (S4.out _))|quiet_step (exact Calls.regrown_of (S4.out _))
     refine qbK rfl 61 _ rfl ⟨B,0,none⟩ rfl _ (qbE 61 B 61 _ (0,0) _ H1.out underlying61 rfl I1.out) ?_;simp only[Act.put,zkt];refine qft rfl _ _ rfl (limN 4 YY) (limN 4 x) true zh.out Lx.out rfl rfl (by rw[D2.out];simp[hc]) ?_;simp only[Act.put,zkt];refine jqn ?_;intro V hv;have H1:=hkp H1 hv;have H2:=hkp H2 hv;have H4:=hkp H4 hv;have hb:Below B w V:=hb.trans (hv.mono (by omega));go_wp2_with (first
      | (with_reducible refine qfw rfl rfl ?_)
      | (with_reducible refine jsr rfl 61 _ _ rfl (B+1) (uc (limN 4 0)) rfl rfl 61 _ H2.out I0.out Z0.out O0.out ?_))
     exact jpr (qaC (by rfl) _ _ (B+1) 61 _ (0,0) _ rfl (jsh _ _ _ _ _ _ H2.out) underlying61 rfl I0.out) rfl ⟨by rw[V4.out hc];rfl,by rw[za.out];exact jbr hb (by omega) _⟩
theorem bw_256(i:Nat):bw i=256^(8*i):=by rw[bw,Nat.pow_mul]
theorem limb_byte(x k:Nat):dg x (k/8)/2^(k%8*8)%256=x/256^k%256:=by
 obtain⟨i,r,hr,rfl⟩:∃ i r,r<8∧k=8*i+r:=⟨k/8,k%8,by omega,by omega⟩;have h1:(8*i+r)/8=i:=by omega
 have h2:(8*i+r)%8=r:=by omega
 have h3:2^(r*8)=256^r:=by rw[Nat.mul_comm,Nat.pow_mul]
 obtain⟨d,hd⟩:∃ d,8-r=d+1:=⟨7-r,by omega⟩;have h4:18446744073709551616=256^r*256^(d+1):=by rw[← Nat.pow_add,← hd,show r+(8-r)=8 by omega]
 rw[h1,h2,h3,dg,h4,Nat.mod_mul_right_div_self,bw_256,Nat.div_div_eq_div_mul,← Nat.pow_add,Nat.pow_succ,Nat.mul_comm (256^d)];exact Nat.mod_mod_of_dvd _ ⟨256^d,rfl⟩
def outF(x k:Nat):List UInt8:=leF x k++List.replicate (32-k) 0
theorem outF_length(x k:Nat)(h:k≤32):(outF x k).length=32:=by simp[outF,qbb];omega
theorem leF_succ(x k:Nat):leF x (k+1)=leF x k++[UInt8.ofNat (x/256^k)]:=by rw[leF,List.range_succ,List.map_append];rfl
theorem outF_set(x k:Nat)(h:k<32):(outF x k).set k (UInt8.ofNat (x/256^k))=outF x (k+1):=by
 have e:List.replicate (32-k) (0:UInt8)=0 :: List.replicate (32-(k+1)) 0:=by rw[show 32-k=(32-(k+1))+1 by omega,List.replicate_succ]
 rw[outF,e,List.set_append,if_neg (by rw[qbb];omega),qbb,Nat.sub_self,set_cons_zero,outF,leF_succ];simp
theorem outF_full(x:Nat):outF x 32=leF x 32:=by simp[outF]
def qeg:Array Value:=qa0 (List.replicate 32 0)
theorem infoB32:(Tryz.prog.info? 153).map (fun i=>(i.zero,i.size))=some (some (.agg qeg),32):=by kernel_rfl
theorem qfC(x:Nat)(w:World):Rt 99 #[.agg (uc (limN 4 x))] w (.string ⟨(leF x 32).toArray⟩):=by
 unfold Rt;obtain⟨hz,hi⟩:=jzi infoB32;have z3:=hid (qah (o:=.cells qeg 153) (qad w (.cells (uc (limN 4 x)) 61)));have z4:=hid (qaz w (.cells (uc (limN 4 x)) 61) (.cells qeg 153));have z6:=qaL w (.cells (uc (limN 4 x)) 61) (.cells qeg 153);clear hi;go_enter func99,ntmps99;go_wp2_with fail;clear hz;generalize ((w.alloc _).alloc _)=W0 at *;generalize z5:w.heap.size=B at *;have z9:=hid z5;clear z5
 go_loopw [5] (fun iv wr=>∃ k:Nat,k≤32∧iv=.int .i64 (k:Int)∧wr.heap[B]?=some (.cells (uc (limN 4 x)) 61)∧wr.heap[B+1]?=some (.cells (qa0 (outF x k)) 153)∧Below B w wr) (fun iv _=>32-(intOf iv).toNat)
 case atStart=>exact⟨0,by omega,rfl,z3.out,z4.out,z6⟩
 case round=>
  clear z3 z4 z6;obtain⟨k,hk,rfl,hg,ho,hb⟩:=hrel;have HG:=hid hg;have HO:=hid ho;clear hg ho;by_cases z8:k<32
  ·have hd:decide ((k:Int)<32)=true:=by simp;omega
   have cx:=qbX HG.out (k/8) (by rw[qae];omega);rw[qbn _ _ _ (by omega)]at cx;have z2:=limb_byte x k;have hs:=outF_set x k z8;have z7:(UInt8.ofNat (x/256^k)).toNat=x/256^k%256:=by rw[UInt8.toNat_ofNat']
   rw[← z7]at z2;generalize UInt8.ofNat (x/256^k)=b8 at *;have r1:=bheap_set HO.out k b8;rw[hs]at r1;have co:=bcell_at HO.out k (by rw[outF_length _ _ (by omega)];exact z8);have fo:=jfr wr (B+1) k _ _ HO.out;generalize dg x (k/8)=d at *;have hv:(d:Int)/2^(k%8*8)%256=(b8.toNat:Int):=by rw[← z2];simp
   have zb:=hid r1;have za:=hid (show (wr.setCell ⟨B+1,k,none⟩ (.int .u8 (b8.toNat:Int))).heap[B]?=some (.cells (uc (limN 4 x)) 61) from by rw[jso _ _ _ _ (by simp)];exact HG.out);have zc:Below B w (wr.setCell ⟨B+1,k,none⟩ (.int .u8 (b8.toNat:Int))):=hb.setCell (by simp) _;clear r1 hb HG hs z7 z2;go_wp2_with fail;go_roundw
   case rel=>exact⟨k+1,by omega,by go_num,za.out,zb.out,zc⟩
   case measure=>simp[intOf];omega
  ·have hd:decide ((k:Int)<32)=false:=by simp;omega
   obtain rfl:k=32:=by omega
   rw[outF_full]at HO;have hl:=qbb x 32;have hc:=qbf wr (B+1) 32 (leF x 32) (qb0 HO.out);have sl:=qdg 153 32 (B+1) (by kernel_rfl) (by kernel_rfl) (by kernel_rfl) (by omega);rw[hl]at hc;generalize z0:leF x 32=row at *;have z1:=hid z0;clear z0;go_wp2_with fail;go_ret;exact⟨by rw[z1.out];rfl,by rw[z9.out];exact hb⟩
theorem lim_put(V b k:Nat)(hV:V<256^k)(hb:b<256)(hk:k<32):(limN 4 V).set (k/8) (dg V (k/8)+b*2^(k%8*8))=limN 4 (V+b*256^k)∧dg V (k/8)<2^(k%8*8)∧dg V (k/8)+b*2^(k%8*8)<18446744073709551616:=by
 obtain⟨i,r,hr,rfl⟩:∃ i r,r<8∧k=8*i+r:=⟨k/8,k%8,by omega,by omega⟩;have h1:(8*i+r)/8=i:=by omega
 have h2:(8*i+r)%8=r:=by omega
 have h3:2^(r*8)=256^r:=by rw[Nat.mul_comm,Nat.pow_mul]
 rw[h1,h2,h3];have hp:256^(8*i+r)=bw i*256^r:=by rw[Nat.pow_add,bw_256]
 have hd:V/bw i<256^r:=Nat.div_lt_of_lt_mul (by rw[← hp];exact hV);have hr7:256^r*256≤18446744073709551616:=by
  rw[← Nat.pow_succ,show 18446744073709551616=256^8 by decide];exact Nat.pow_le_pow_right (by decide) hr
 have hbr:b*256^r≤255*256^r:=Nat.mul_le_mul_right _ (by omega);have z1:dg V i=V/bw i:=Nat.mod_eq_of_lt (by omega);have z2:V/bw i+b*256^r<18446744073709551616:=by omega
 refine⟨?_,by rw[z1];exact hd,by rw[z1];exact z2⟩;refine qbU (by rw[List.length_set,qae]) (qae ..) fun j hj=>?_;rw[qcb _ _ _ _ (by rw[qae];omega),qbn _ _ _ hj,qbn _ _ _ hj];rw[hp,Nat.mul_left_comm];by_cases e:j=i
 ·subst e;rw[if_pos rfl,z1,dg,Nat.add_mul_div_left _ _ (qdI j),Nat.mod_eq_of_lt z2]
 ·rw[if_neg e];by_cases z3:j<i
  ·rw[dg_low_same _ _ _ _ z3]
  ·have z0:V+bw i*(b*256^r)<bw (i+1):=by
    have hm:=Nat.mod_lt V (qdI i);have hdm:=Nat.div_add_mod V (bw i);rw[bw_succ];have h5:bw i*(V/bw i+b*256^r+1)≤bw i*18446744073709551616:=Nat.mul_le_mul_left _ (by omega);rw[Nat.mul_add,Nat.mul_add,Nat.mul_one]at h5;omega
   rw[qdL _ (i+1) _ z0 (by omega),qdL V (i+1) _ (Nat.lt_of_le_of_lt (Nat.le_add_right _ _) z0) (by omega)]
theorem or_put(d b s:Nat)(hd:d<2^s)(h:d+b*2^s<18446744073709551616):bits .or .u64 (d:Int) ((b:Int)*2^s)=((d+b*2^s:Nat):Int):=by
 have e0:((b:Int)*2^s)=((2^s*b:Nat):Int):=by rw[Int.mul_comm];simp
 have hm:b*2^s=2^s*b:=Nat.mul_comm _ _;have e1:(BitVec.ofInt 64 (d:Int)).toNat=d:=by rw[BitVec.toNat_ofInt];omega
 have e2:(BitVec.ofInt 64 ((2^s*b:Nat):Int)).toNat=2^s*b:=by rw[BitVec.toNat_ofInt];omega
 rw[e0];show IntKind.u64.wrap (((BitVec.ofInt 64 (d:Int) ||| BitVec.ofInt 64 ((2^s*b:Nat):Int)).toNat:Nat):Int)=_;rw[BitVec.toNat_or,e1,e2,Nat.or_comm,← Nat.two_pow_add_eq_or_of_lt hd,IntKind.wrap_u64];omega
theorem of_any(s:ByteArray)(w:World)(h:s.size=32):Rt 183 #[.string s] w (.tuple #[.agg (uc (limN 4 (leV s.data.toList 32%pF))),.int .i64 0]):=by
 unfold Rt;obtain⟨hz,hi⟩:=jzi qbR;obtain⟨zn,zl⟩:=jzi infoL;have hd:((s.size:Int) != 32)=false:=by simp[h]
 have z4:=hid (qah (o:=.cells zeros4 59) (qad w (.cells zeros4 61)));have z3:=hid (qaz w (.cells zeros4 61) (.cells zeros4 59));have z8:=qaL w (.cells zeros4 61) (.cells zeros4 59);have HH:=hid h;clear hi zl;go_enter func183,ntmps183;go_wp2_with fail;clear hz zn h hd;generalize ((w.alloc _).alloc _)=W0 at *;generalize z6:w.heap.size=B at *;have ze:=hid z6;clear z6
 go_loopw [10] (fun iv wr=>∃ k:Nat,k≤32∧iv=.int .i64 (k:Int)∧wr.heap[B]?=some (.cells zeros4 61)∧wr.heap[B+1]?=some (.cells (uc (limN 4 (leV s.data.toList k))) 59)∧Below B w wr) (fun iv _=>32-(intOf iv).toNat)
 case atStart=>exact⟨0,by omega,rfl,z4.out,by rw[show leV s.data.toList 0=0 from rfl,← qeW];exact z3.out,z8⟩
 case round=>
  clear z3 z4 z8;obtain⟨k,hk,rfl,hr,hg,hb⟩:=hrel;have HG:=hid hg;have HR:=hid hr;clear hg hr;by_cases za:k<32
  ·have hd:decide ((k:Int)<32)=true:=by simp;omega
   have cx:=qbX HG.out (k/8) (by rw[qae];omega);rw[qbn _ _ _ (by omega)]at cx;obtain⟨p1,p2,p3⟩:=lim_put (leV s.data.toList k) (s.data.toList.getD k 0).toNat k (leV_lt _ k) (UInt8.toNat_lt _) za;have HS:=hid (show (limN 4 (leV s.data.toList k)).set (k/8) (dg (leV s.data.toList k) (k/8)+(s.data.toList.getD k 0).toNat*2^(k%8*8))=limN 4 (leV s.data.toList (k+1)) from p1);have z2:=or_put _ _ _ p2 p3;have zm:k<s.size:=by rw[HH.out];exact za
   have z9:s.data.toList.getD k 0=s[k]:=by rw[List.getD_eq_getElem?_getD,Array.getElem?_toList];simp[zm];rfl
   obtain⟨v,hv⟩:∃ v,v=dg (leV s.data.toList k) (k/8)+(s.data.toList.getD k 0).toNat*2^(k%8*8):=⟨_,rfl⟩;have hw:bits .or .u64 ((dg (leV s.data.toList k) (k/8):Nat):Int) (IntKind.u64.wrap (IntKind.u64.wrap (s[k].toNat:Int)*2^(k%8*8)))=(v:Int):=by
    have hb8:=UInt8.toNat_lt s[k];have e1:IntKind.u64.wrap (s[k].toNat:Int)=(s[k].toNat:Int):=by rw[IntKind.wrap_u64];omega
    have e2:((s[k].toNat:Int)*2^(k%8*8))=((s[k].toNat*2^(k%8*8):Nat):Int):=by simp
    rw[z9]at z2 p3 hv;rw[e1,hv,← z2,IntKind.wrap_u64,e2];congr 1;omega
   rw[← hv]at HS;have r1:=qb4 HG.out (k/8) v;rw[HS.out]at r1;clear p1 p2 p3 z2 z9 HS hv;have hll:=qae 4 (leV s.data.toList k);generalize zc:leV s.data.toList (k+1)=nx at *;have zg:=hid zc;clear zc;generalize dg (leV s.data.toList k) (k/8)=p at *;generalize limN 4 (leV s.data.toList k)=u at *;go_wp2_with fail;have ka:=jcr cx;refine qak 14 (by kernel_rfl) (by kernel_rfl) ?_;simp only[zks]
   repeat (first|go_big_quiet_step (fail)|quiet_step (fail))
   refine jqn ?_;intro W1 z0;have zb:=qac HG.out;have z7:=qap z0 (by omega) HR.out;have z1:=qap z0 zb HG.out;have fx:=jfr W1 (B+1) (k/8) _ _ z1;have cu:=qbX z1 (k/8) (by omega);have r2:=qb4 z1 (k/8) v;have zf:=hid (show (W1.setCell ⟨B+1,k/8,none⟩ (.int .u64 (v:Int))).heap[B+1]?=some (.cells (uc (limN 4 nx)) 59) from by
    have e:=(qb4 HG.out (k/8) v).symm.trans r1;simp only[Option.some.injEq,Obj.cells.injEq,and_true]at e;rw[← e];exact r2)
   have zh:=hid (show (W1.setCell ⟨B+1,k/8,none⟩ (.int .u64 (v:Int))).heap[B]?=some (.cells zeros4 61) from by rw[jso _ _ _ _ (by simp)];exact z7);have zk:Below B w (W1.setCell ⟨B+1,k/8,none⟩ (.int .u64 (v:Int))):=(hb.trans (z0.mono (by omega))).setCell (by simp) _;clear r1 r2 hb HR HG ka cx z1 z7 zb z0 hw;go_wp2_with fail;go_roundw
   case rel=>exact⟨k+1,by omega,by go_num,zh.out,by rw[zg.out];exact zf.out,zk⟩
   case measure=>simp[intOf];omega
  ·have hd:decide ((k:Int)<32)=false:=by simp;omega
   obtain rfl:k=32:=by omega
   have hx:=leV_lt s.data.toList 32;rw[show 256^32=mF by decide]at hx;have HC:=hid (fun W=>qeH (leV s.data.toList 32) 0 W hx (by omega));rw[Nat.zero_mul,Nat.add_zero]at HC;generalize hr:leV s.data.toList 32%pF=r at *;have zi:=hid hr;clear hr hx;generalize zd:leV s.data.toList 32=x at *;have zj:=hid zd;clear zd;have HI:=hid (qcu (limN 4 x) (qae _ _));have Ir:=hid (qal r);have Or:=hid (qar (limN 4 r));have Zr:=hid (qaw r);go_wp2_with (with_reducible refine jlw rfl 59 _ rfl (B+1) rfl 59 _ (0,0) _ HG.out underlying59 rfl HI.out ?_);refine (HC.out wr).mono ?_;rintro e W1⟨rfl,h1⟩;have z5:=hkp HR h1;have z0:Below B w W1:=hb.trans (h1.mono (by have:=qac HR.out;omega));clear HC h1 hb HG HR;go_wp2_with (with_reducible refine jsr rfl 61 _ _ rfl B (uc (limN 4 r)) rfl rfl 61 _ z5.out Ir.out Zr.out Or.out ?_);exact jpr (qaC (by rfl) _ _ B 61 _ (0,0) _ rfl (jsh _ _ _ _ _ _ z5.out) underlying61 rfl Ir.out) rfl ⟨by rw[zj.out,zi.out];rfl,by rw[ze.out];exact jbr z0 (jlr _) _⟩
end
end Go.Proofs.YteomfleofeeofaaGreatDoor
