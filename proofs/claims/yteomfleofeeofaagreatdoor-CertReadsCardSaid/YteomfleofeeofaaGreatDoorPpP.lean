/- Points as the program keeps them. -/
import Derived.LaidMore
import Derived.Stop.Joined
import Derived.Lib.LaidTab
import Derived.Test.YteomfleofeeofaaGreatDoorPrR
namespace Go.Proofs.YteomfleofeeofaaGreatDoor
open Go.Lib (hid)
open _root_.List (take_succ_cons drop_succ_cons set_cons_succ set_cons_zero setIfInBounds_toArray)
open _root_.Array (getD_eq_getD_getElem?)
set_option maxHeartbeats 16000000
open Go.Proofs.Tryz
set_option maxRecDepth 100000
set_option linter.unusedSimpArgs false
set_option linter.unusedVariables false
section
open Go.RowKit Go.Sort
def row4(a b c d:Nat):List Nat:=limN 4 a++limN 4 b++limN 4 c++limN 4 d
theorem qa6(a b c d:Nat):(row4 a b c d).length=16:=by simp[row4,qae]
def zrow4:Array Value:=uc (List.replicate 16 0)
theorem qc3:(Tryz.prog.info? 103).map (fun i=>(i.zero,i.size))=some (some (.agg zrow4),16):=by kernel_rfl
theorem qch:(Tryz.prog.info? 63).map (fun i=>(i.zero,i.size))=some (some (.agg zrow4),16):=by kernel_rfl
theorem qcD(l:List Nat)(h:l.length=16):(Tryz.prog.info? 103).map (·.size)=some (uc l).size:=by rw[qa9,h];exact (jzi qc3).2
theorem qaR(l:List Nat)(h:l.length=16):(Tryz.prog.info? 63).map (·.size)=some (uc l).size:=by rw[qa9,h];exact (jzi qch).2
theorem qaU(l:List Nat)(h:l.length=16):zrow4.size=(uc l).size:=by rw[qa9,h];exact qa9 _
theorem rows_size(l m:List Nat)(h:l.length=16)(k:m.length=16):(uc l).size=(uc m).size:=by rw[qa9,qa9,h,k]
theorem zrow4_row:zrow4=uc (row4 0 0 0 0):=rfl
theorem row_part(A B C:List Nat):((A++B++C).drop A.length).take B.length=B:=by simp[List.append_assoc]
theorem qec(a b c d:Nat):((row4 a b c d).drop 0).take 4=limN 4 a:=by
 have:=row_part [] (limN 4 a) (limN 4 b++limN 4 c++limN 4 d);rw[qae]at this;rwa[row4,List.append_assoc,List.append_assoc,← List.append_assoc (limN 4 b)]
theorem qed(a b c d:Nat):((row4 a b c d).drop 4).take 4=limN 4 b:=by
 have:=row_part (limN 4 a) (limN 4 b) (limN 4 c++limN 4 d);rw[qae,qae]at this;rwa[row4,List.append_assoc (limN 4 a++limN 4 b)]
theorem qeN(a b c d:Nat):((row4 a b c d).drop 8).take 4=limN 4 c:=by
 have:=row_part (limN 4 a++limN 4 b) (limN 4 c) (limN 4 d);rw[List.length_append,qae,qae,qae]at this;exact this
theorem qf0(a b c d:Nat):((row4 a b c d).drop 12).take 4=limN 4 d:=by
 have:=row_part (limN 4 a++limN 4 b++limN 4 c) (limN 4 d) [];rw[List.length_append,List.length_append,qae,qae,qae,qae,List.append_nil]at this;exact this
theorem qen(l:List Nat)(h:l.length=4):∃ a b c d,l=[a,b,c,d]:=by
 match l,h with
 | [a,b,c,d],_=>exact⟨a,b,c,d,rfl⟩
theorem build_ns(a b c d:Nat)(w:World):(Instr.build 103 #[(0,.agg (uc (limN 4 a))),(1,.agg (uc (limN 4 b))),(2,.agg (uc (limN 4 c))),(3,.agg (uc (limN 4 d)))]).run Tryz.prog w=.ok (.agg (uc (row4 a b c d))) w:=by
 unfold row4;obtain⟨a1,a2,a3,a4,ha⟩:=qen (limN 4 a) (qae _ _);obtain⟨b1,b2,b3,b4,hb⟩:=qen (limN 4 b) (qae _ _);obtain⟨c1,c2,c3,c4,hc⟩:=qen (limN 4 c) (qae _ _);obtain⟨d1,d2,d3,d4,hd⟩:=qen (limN 4 d) (qae _ _);rw[ha,hb,hc,hd];exact run_build w 103 _ _ (by kernel_rfl)
theorem build_point4(a b c d:Nat)(w:World):(Instr.build 63 #[(0,.agg (uc (limN 4 a))),(1,.agg (uc (limN 4 b))),(2,.agg (uc (limN 4 c))),(3,.agg (uc (limN 4 d)))]).run Tryz.prog w=.ok (.agg (uc (row4 a b c d))) w:=by
 unfold row4;obtain⟨a1,a2,a3,a4,ha⟩:=qen (limN 4 a) (qae _ _);obtain⟨b1,b2,b3,b4,hb⟩:=qen (limN 4 b) (qae _ _);obtain⟨c1,c2,c3,c4,hc⟩:=qen (limN 4 c) (qae _ _);obtain⟨d1,d2,d3,d4,hd⟩:=qen (limN 4 d) (qae _ _);rw[ha,hb,hc,hd];exact run_build w 63 _ _ (by kernel_rfl)
theorem build_point0(w:World):(Instr.build 63 #[]).run Tryz.prog w=.ok (.agg (uc (row4 0 0 0 0))) w:=by
 rw[← zrow4_row];exact run_build w 63 _ _ (by kernel_rfl)
theorem run_load_in4(w:World)(g z0:Nat)(t:TypeId)(l m:List Nat)(fr:Nat×Nat)(hg:w.heap[g]?=some (.cells (uc l) t fr))(hm:m.length=4)(hp:(l.drop z0).take 4=m):(loadVar 61 ⟨g,z0,none⟩).run Tryz.prog w=.ok (.agg (uc m)) w:=by
 have z3:(m.map fun n:Nat=>Value.int .u64 (n:Int)).length=4:=by simp[hm]
 have hl:(loadCells ⟨g,z0,none⟩ (m.map fun n:Nat=>Value.int .u64 (n:Int)).length).run Tryz.prog w=.ok (m.map fun n:Nat=>Value.int .u64 (n:Int)).toArray w:=
  run_loadCells_list (P:=Tryz.prog) w ⟨g,z0,none⟩ (m.map fun n:Nat=>Value.int .u64 (n:Int)) (fun j v hv=>by
   have z1:(⟨g,z0,none⟩:Addr).add j=⟨g,z0+j,none⟩:=by unfold Addr.add;split<;>simp_all
   have hj:j<4:=by have:=(List.getElem?_eq_some_iff.1 hv).1;omega
   simp only[List.getElem?_map,Option.map_eq_some_iff]at hv;obtain⟨x,hx,rfl⟩:=hv;rw[← hp,List.getElem?_take,if_pos hj,List.getElem?_drop]at hx;rw[z1,jco w g _ _ t fr hg];simp[uc,nc,hx])
 rw[z3]at hl;have hi:=(jzi qbR).2
 cases hq:Tryz.prog.info? 61 with
 | none=>simp[hq]at hi
 | some i=>
  have hs:i.size=4:=by simpa[hq]using hi
  have z2:(isAgg 61).run Tryz.prog w=.ok true w:=by
   unfold isAgg;rw[Sem.run_bind,run_underlying underlying61 w]
   rfl
  simp[loadVar,Sem.run_bind,z2,sizeOf,typeInfo,hq,hs,hl]
  rfl
theorem qat{o:Oper}{a:Act}{w:World}(x:Operand)(ho:o.op=.load 61 x)(g z0:Nat)(hx:a.eval x=.pointer (some ⟨g,z0,none⟩))(t:TypeId)(l m:List Nat)(fr:Nat×Nat)
  (hg:w.heap[g]?=some (.cells (uc l) t fr)) (hm:m.length=4) (hp:(l.drop z0).take 4=m):qaa Tryz.prog w (.agg (uc m)) ((execOp a.eval o).run Tryz.prog w):=by
 unfold execOp;simp only[ho,hx,Instr.loadAt,Instr.sureAddr,Sem.run_bind,Sem.run_pure,Result.andThen_ok,run_load_in4 w g z0 t l m fr hg hm hp];exact⟨rfl,rfl⟩
theorem wpList_load_in4{ops:Array Oper}{rest:List Oper}{o:Oper}{a:Act}{w:World}{Q:Exit→Act→World→Prop}(z1:o.guard=none)(x:Operand)(ho:o.op=.load 61 x)(g z0:Nat)(hx:a.eval x=.pointer (some ⟨g,z0,none⟩))(t:TypeId)(l m:List Nat)(fr:Nat×Nat)
  (hg:w.heap[g]?=some (.cells (uc l) t fr)) (hm:m.length=4) (hp:(l.drop z0).take 4=m)
  (h:wpList Tryz.prog ops Q rest (a.put o.dst (.agg (uc m))) w):wpList Tryz.prog ops Q (o :: rest) a w:=
 wpList_plain z1 fun _ hK=>by
  unfold Oper.wp execOp;simp only[ho,hx,Instr.loadAt,Instr.sureAddr,Sem.run_bind,Sem.run_pure,Result.andThen_ok,run_load_in4 w g z0 t l m fr hg hm hp];exact hK _ _ h
theorem qgs{P:Program}{o:Oper}{a:Act}{w:World}(t:TypeId)(parts:Array (Nat×Operand))(ho:o.op=.build t parts)(cells:Array Value)
  (hb:(Instr.build t (parts.map fun (i,x)=>(i,a.eval x))).run P w=.ok (.agg cells) w):qaa P w (.agg cells) ((execOp a.eval o).run P w):=by
 unfold execOp;simp only[ho,Sem.run_bind,hb,Result.andThen_ok];exact⟨rfl,rfl⟩
theorem qc6{o:Oper}{a:Act}{w:World}(x y z v:Operand)(ho:o.op=.build 103 #[(0,x),(1,y),(2,z),(3,v)])(p q r s:Nat)
  (hx:a.eval x=.agg (uc (limN 4 p))) (hy:a.eval y=.agg (uc (limN 4 q))) (hz:a.eval z=.agg (uc (limN 4 r))) (hv:a.eval v=.agg (uc (limN 4 s))):qaa Tryz.prog w (.agg (uc (row4 p q r s))) ((execOp a.eval o).run Tryz.prog w):=
 qgs 103 _ ho _ (by
  have e:(#[(0,x),(1,y),(2,z),(3,v)]:Array (Nat×Operand)).map (fun (i,x)=>(i,a.eval x))=#[(0,a.eval x),(1,a.eval y),(2,a.eval z),(3,a.eval v)]:=by simp
  rw[e,hx,hy,hz,hv];exact build_ns p q r s w)
theorem qeX{o:Oper}{a:Act}{w:World}(x y z v:Operand)(ho:o.op=.build 63 #[(0,x),(1,y),(2,z),(3,v)])(p q r s:Nat)
  (hx:a.eval x=.agg (uc (limN 4 p))) (hy:a.eval y=.agg (uc (limN 4 q))) (hz:a.eval z=.agg (uc (limN 4 r))) (hv:a.eval v=.agg (uc (limN 4 s))):qaa Tryz.prog w (.agg (uc (row4 p q r s))) ((execOp a.eval o).run Tryz.prog w):=
 qgs 63 _ ho _ (by
  have e:(#[(0,x),(1,y),(2,z),(3,v)]:Array (Nat×Operand)).map (fun (i,x)=>(i,a.eval x))=#[(0,a.eval x),(1,a.eval y),(2,a.eval z),(3,a.eval v)]:=by simp
  rw[e,hx,hy,hz,hv];exact build_point4 p q r s w)
theorem sQuiet_num0{o:Oper}{a:Act}{w:World}(ho:o.op=.build 61 #[]):qaa Tryz.prog w (.agg (uc (limN 4 0))) ((execOp a.eval o).run Tryz.prog w):=
 qgs 61 _ ho _ (by rw[← qeW,Array.map_empty];exact qgF w)
theorem wpList_build_point0{ops:Array Oper}{rest:List Oper}{o:Oper}{a:Act}{w:World}{Q:Exit→Act→World→Prop}(hg:o.guard=none)(ho:o.op=.build 63 #[])
  (h:wpList Tryz.prog ops Q rest (a.put o.dst (.agg (uc (row4 0 0 0 0)))) w):wpList Tryz.prog ops Q (o :: rest) a w:=
 wpList_plain hg fun _ hK=>qei 63 _ ho _ (by
  rw[Array.map_empty];exact build_point0 w) (hK _ _ h)
theorem blk_fourth(w:World)(P R A Q:Obj):((((w.alloc P).alloc R).alloc A).alloc Q).heap[w.heap.size+1+1+1]?=some Q:=by
 have h:=qad (((w.alloc P).alloc R).alloc A) Q;simpa using h
theorem below_four(w:World)(P R A Q:Obj):Below w.heap.size w ((((w.alloc P).alloc R).alloc A).alloc Q):=(qbd w P R A).alloc (by simp;omega) _
def numL(p:PtN):List Nat:=row4 p.x p.y p.z p.t
def ptL(p:PtN):List Nat:=row4 p.x (subF p.y 1) (subF p.z 1) p.t
theorem qbz(p:PtN):(numL p).length=16:=qa6 _ _ _ _
theorem qas(p:PtN):(ptL p).length=16:=qa6 _ _ _ _
theorem add_sub(a b:Nat)(ha:a<pF)(hb:b<pF):addF (subF a b) b=a:=by
 unfold addF subF;by_cases h:b≤a
 ·rw[show a+(pF-b)=(a-b)+pF by omega,Nat.add_mod_right,Nat.mod_eq_of_lt (show a-b<pF by omega),show a-b+b=a by omega,Nat.mod_eq_of_lt ha]
 ·rw[Nat.mod_eq_of_lt (show a+(pF-b)<pF by omega),show a+(pF-b)+b=a+pF by omega,Nat.add_mod_right,Nat.mod_eq_of_lt ha]
theorem ptL_zero:ptL zeroP=row4 0 0 0 0:=by
 rw[ptL,zeroP];show row4 0 (subF 1 1) (subF 1 1) 0=_;rw[sub_self 1 (by decide)]
theorem numbersL_any(a b c d y1 z1:Nat)(w:World)(zc:b<pF)(zd:c<pF)(hT:PrmQ w)
  (z2:addF b 1=y1) (z3:addF c 1=z1) :
  Rt 96 #[.agg (uc (row4 a b c d))] w (.agg (uc (row4 a y1 z1 d))):=by
 unfold Rt;have z9:y1<pF:=z2▸qb7 _ _;have za:z1<pF:=z3▸qb7 _ _;have z4:=hid (fun (W:World) (hW:PrmQ W)=>qdb b 1 W zc (by decide));rw[z2]at z4;have z5:=hid (fun (W:World) (hW:PrmQ W)=>qdb c 1 W zd (by decide));rw[z3]at z5;clear z2 z9 z3 za zc zd;have ze:Hid (∀ W:World,Calls Tryz.prog 131 #[.int .i64 1] W fun e w'=>e=.returned (.agg (uc (limN 4 1)))∧Below W.heap.size W w'):=hid (fun W=>qci 1 W (by decide));obtain⟨hz,hi⟩:=jzi qbR;obtain⟨zl,zj⟩:=jzi qc3;obtain⟨zm,zk⟩:=jzi qch;have hb:=qaL w (.cells (uc (row4 a b c d)) 63) (.cells zrow4 103);have HP:=hid (hT.step hb);have HQ:=hid (qah (o:=.cells zrow4 103) (qad w (.cells (uc (row4 a b c d)) 63)));have HR:=hid (qaz w (.cells (uc (row4 a b c d)) 63) (.cells zrow4 103));clear hi zj zk hT;go_enter func96,ntmps96;go_wp2_with fail
 try clear zl
 try clear zm
 generalize ((w.alloc _).alloc _)=W0 at *;have hB:=hid hb.size;generalize zb:w.heap.size=B at *;have zf:=hid zb;clear zb;refine (ze.out W0).mono ?_;rintro e W1⟨rfl,bk⟩;replace hb:=hb.trans (bk.mono hB.out);replace HP:=hid (HP.out.step bk);replace hB:=hid (jlt hB.out bk.size);replace HQ:=hkp HQ bk;replace HR:=hkp HR bk;clear bk;have HN:=hid (qad W1 (.cells zeros4 61));have bn:=qaf W1 (.cells zeros4 61);have z7:=hid (jsh _ W1.heap.size _ (uc (limN 4 1)) _ _ HN.out);go_wp2_with (first|(with_reducible refine jsr rfl 61 _ _ rfl W1.heap.size (uc (limN 4 1)) rfl rfl 61 _ HN.out (qal _) (qaw _) (qar _) ?_));have bk:=jbr bn (jlr _) (uc (limN 4 1));have b_g3:=hid hB.out;replace hb:=hb.trans (bk.mono hB.out);replace HP:=hid (HP.out.step bk);replace hB:=hid (jlt hB.out bk.size);replace HQ:=hkp HQ bk;replace HR:=hkp HR bk;clear bk;have z6:=z7;generalize (World.setRow (World.alloc _ _) _ _)=W2 at *;generalize W1.heap.size=g3 at *;clear bn HN z7
 try simp only[Act.put]
 refine qao 13 18 [.val (.pointer (some ⟨B,0,none⟩)) [(1,.pointer (some ⟨B,0,none⟩))],
   .val (.agg (uc (limN 4 a))) [(5,.pointer (some ⟨B,0,none⟩))],
   .val (.pointer (some ⟨B,4,none⟩)) [(1,.pointer (some ⟨B,0,none⟩))],
   .val (.agg (uc (limN 4 b))) [(7,.pointer (some ⟨B,4,none⟩))],
   .val (.agg (uc (limN 4 1))) [(3,.pointer (some ⟨g3,0,none⟩))],
   .val (.agg (uc (limN 4 y1))) [(8,.agg (uc (limN 4 b))),(9,.agg (uc (limN 4 1)))],
   .val (.pointer (some ⟨B,8,none⟩)) [(1,.pointer (some ⟨B,0,none⟩))],
   .val (.agg (uc (limN 4 c))) [(11,.pointer (some ⟨B,8,none⟩))],
   .val (.agg (uc (limN 4 1))) [(3,.pointer (some ⟨g3,0,none⟩))],
   .val (.agg (uc (limN 4 z1))) [(12,.agg (uc (limN 4 c))),(13,.agg (uc (limN 4 1)))],
   .val (.pointer (some ⟨B,12,none⟩)) [(1,.pointer (some ⟨B,0,none⟩))],
   .val (.agg (uc (limN 4 d))) [(15,.pointer (some ⟨B,12,none⟩))],
   .val (.agg (uc (row4 a y1 z1 d))) [(6,.agg (uc (limN 4 a))),(10,.agg (uc (limN 4 y1))),(14,.agg (uc (limN 4 z1))),(16,.agg (uc (limN 4 d)))]] (by kernel_rfl) (by kernel_rfl) rfl ?_ ?_ ?_
 ·simp only[take_succ_cons,List.take_zero,qaO,qaP,HeadSpec.val,HeadSpec.fresh,and_true];refine⟨?_,?_,?_,?_,?_,?_,?_,?_,?_,?_,?_,?_,?_⟩
  ·intro z0 w hb h;simp[go_sem,rd0 h,qaa]
  ·intro z0 w hb h;exact qat (.tmp 5) rfl (B) 0 (sd0 h) 63 _ _ (0,0) (hkq HQ hb) (qae _ _) (qec _ _ _ _)
  ·intro z0 w hb h;simp[go_sem,rd0 h,qaa]
  ·intro z0 w hb h;exact qat (.tmp 7) rfl (B) 4 (sd0 h) 63 _ _ (0,0) (hkq HQ hb) (qae _ _) (qed _ _ _ _)
  ·intro z0 w hb h;exact qab 61 (.tmp 3) rfl (g3) (sd0 h) 61 _ (0,0) _ (hkq z6 hb) underlying61 rfl (qal _)
  ·intro z0 w hb h;simp[go_sem,rd0 h,rd1 h,qaa];exact z4.out w (HP.out.step hb)
  ·intro z0 w hb h;simp[go_sem,rd0 h,qaa]
  ·intro z0 w hb h;exact qat (.tmp 11) rfl (B) 8 (sd0 h) 63 _ _ (0,0) (hkq HQ hb) (qae _ _) (qeN _ _ _ _)
  ·intro z0 w hb h;exact qab 61 (.tmp 3) rfl (g3) (sd0 h) 61 _ (0,0) _ (hkq z6 hb) underlying61 rfl (qal _)
  ·intro z0 w hb h;simp[go_sem,rd0 h,rd1 h,qaa];exact z5.out w (HP.out.step hb)
  ·intro z0 w hb h;simp[go_sem,rd0 h,qaa]
  ·intro z0 w hb h;exact qat (.tmp 15) rfl (B) 12 (sd0 h) 63 _ _ (0,0) (hkq HQ hb) (qae _ _) (qf0 _ _ _ _)
  ·intro z0 w hb h;exact qc6 (.tmp 6) (.tmp 10) (.tmp 14) (.tmp 16) rfl _ _ _ _ (sd0 h) (sd1 h) (sd2 h) (sd3 h)
 ·simp[qay,qax,qaK,HeadSpec.val,HeadSpec.fresh,Act.put]
 ·simp only[zks,qaN,HeadSpec.val,HeadSpec.fresh,Act.put,zkt];intro v1 z8 zi;have HN:=hkp HR z8;have zg:=hid (jsh v1 (B+1) _ (uc (row4 a y1 z1 d)) _ _ HN.out);have zh:Below B w (v1.setRow (B+1) (uc (row4 a y1 z1 d))):=jbr (hb.trans (z8.mono hB.out)) (by omega) _;clear zi z8 hb;go_wp2_with (with_reducible refine jsr rfl 103 _ _ rfl (B+1) (uc (row4 a y1 z1 d)) rfl rfl 103 _ HN.out (qcD _ (qa6 _ _ _ _)) (qaU _ (qa6 _ _ _ _)) (qar _) ?_);exact jpr (v:=.agg (uc (row4 a y1 z1 d))) (jrc (by rfl) _ _ (B+1) 103 _ (0,0) _ rfl zg.out underlying103 rfl (qcD _ (qa6 _ _ _ _))) rfl ⟨rfl,by rw[zf.out];exact zh⟩
theorem pointL_any(a b c d y1 z1:Nat)(w:World)(zc:b<pF)(zd:c<pF)(hT:PrmQ w)
  (z2:subF b 1=y1) (z3:subF c 1=z1) :
  Rt 132 #[.agg (uc (row4 a b c d))] w (.agg (uc (row4 a y1 z1 d))):=by
 unfold Rt;have z9:y1<pF:=z2▸qbt _ _;have za:z1<pF:=z3▸qbt _ _;have z4:=hid (fun (W:World) (hW:PrmQ W)=>qcA b 1 W zc (by decide) hW);rw[z2]at z4;have z5:=hid (fun (W:World) (hW:PrmQ W)=>qcA c 1 W zd (by decide) hW);rw[z3]at z5;clear z2 z9 z3 za zc zd;have ze:Hid (∀ W:World,Calls Tryz.prog 131 #[.int .i64 1] W fun e w'=>e=.returned (.agg (uc (limN 4 1)))∧Below W.heap.size W w'):=hid (fun W=>qci 1 W (by decide));obtain⟨hz,hi⟩:=jzi qbR;obtain⟨zl,zj⟩:=jzi qc3;obtain⟨zm,zk⟩:=jzi qch;have hb:=qaL w (.cells (uc (row4 a b c d)) 103) (.cells zrow4 63);have HP:=hid (hT.step hb);have HQ:=hid (qah (o:=.cells zrow4 63) (qad w (.cells (uc (row4 a b c d)) 103)));have HR:=hid (qaz w (.cells (uc (row4 a b c d)) 103) (.cells zrow4 63));clear hi zj zk hT;go_enter func132,ntmps132;go_wp2_with fail
 try clear zl
 try clear zm
 generalize ((w.alloc _).alloc _)=W0 at *;have hB:=hid hb.size;generalize zb:w.heap.size=B at *;have zf:=hid zb;clear zb;refine (ze.out W0).mono ?_;rintro e W1⟨rfl,bk⟩;replace hb:=hb.trans (bk.mono hB.out);replace HP:=hid (HP.out.step bk);replace hB:=hid (jlt hB.out bk.size);replace HQ:=hkp HQ bk;replace HR:=hkp HR bk;clear bk;have HN:=hid (qad W1 (.cells zeros4 61));have bn:=qaf W1 (.cells zeros4 61);have z7:=hid (jsh _ W1.heap.size _ (uc (limN 4 1)) _ _ HN.out);go_wp2_with (first|(with_reducible refine jsr rfl 61 _ _ rfl W1.heap.size (uc (limN 4 1)) rfl rfl 61 _ HN.out (qal _) (qaw _) (qar _) ?_));have bk:=jbr bn (jlr _) (uc (limN 4 1));have b_g3:=hid hB.out;replace hb:=hb.trans (bk.mono hB.out);replace HP:=hid (HP.out.step bk);replace hB:=hid (jlt hB.out bk.size);replace HQ:=hkp HQ bk;replace HR:=hkp HR bk;clear bk;have z6:=z7;generalize (World.setRow (World.alloc _ _) _ _)=W2 at *;generalize W1.heap.size=g3 at *;clear bn HN z7
 try simp only[Act.put]
 refine qao 13 18 [.val (.pointer (some ⟨B,0,none⟩)) [(1,.pointer (some ⟨B,0,none⟩))],
   .val (.agg (uc (limN 4 a))) [(5,.pointer (some ⟨B,0,none⟩))],
   .val (.pointer (some ⟨B,4,none⟩)) [(1,.pointer (some ⟨B,0,none⟩))],
   .val (.agg (uc (limN 4 b))) [(7,.pointer (some ⟨B,4,none⟩))],
   .val (.agg (uc (limN 4 1))) [(3,.pointer (some ⟨g3,0,none⟩))],
   .val (.agg (uc (limN 4 y1))) [(8,.agg (uc (limN 4 b))),(9,.agg (uc (limN 4 1)))],
   .val (.pointer (some ⟨B,8,none⟩)) [(1,.pointer (some ⟨B,0,none⟩))],
   .val (.agg (uc (limN 4 c))) [(11,.pointer (some ⟨B,8,none⟩))],
   .val (.agg (uc (limN 4 1))) [(3,.pointer (some ⟨g3,0,none⟩))],
   .val (.agg (uc (limN 4 z1))) [(12,.agg (uc (limN 4 c))),(13,.agg (uc (limN 4 1)))],
   .val (.pointer (some ⟨B,12,none⟩)) [(1,.pointer (some ⟨B,0,none⟩))],
   .val (.agg (uc (limN 4 d))) [(15,.pointer (some ⟨B,12,none⟩))],
   .val (.agg (uc (row4 a y1 z1 d))) [(6,.agg (uc (limN 4 a))),(10,.agg (uc (limN 4 y1))),(14,.agg (uc (limN 4 z1))),(16,.agg (uc (limN 4 d)))]] (by kernel_rfl) (by kernel_rfl) rfl ?_ ?_ ?_
 ·simp only[take_succ_cons,List.take_zero,qaO,qaP,HeadSpec.val,HeadSpec.fresh,and_true];refine⟨?_,?_,?_,?_,?_,?_,?_,?_,?_,?_,?_,?_,?_⟩
  ·intro z0 w hb h;simp[go_sem,rd0 h,qaa]
  ·intro z0 w hb h;exact qat (.tmp 5) rfl (B) 0 (sd0 h) 103 _ _ (0,0) (hkq HQ hb) (qae _ _) (qec _ _ _ _)
  ·intro z0 w hb h;simp[go_sem,rd0 h,qaa]
  ·intro z0 w hb h;exact qat (.tmp 7) rfl (B) 4 (sd0 h) 103 _ _ (0,0) (hkq HQ hb) (qae _ _) (qed _ _ _ _)
  ·intro z0 w hb h;exact qab 61 (.tmp 3) rfl (g3) (sd0 h) 61 _ (0,0) _ (hkq z6 hb) underlying61 rfl (qal _)
  ·intro z0 w hb h;simp[go_sem,rd0 h,rd1 h,qaa];exact z4.out w (HP.out.step hb)
  ·intro z0 w hb h;simp[go_sem,rd0 h,qaa]
  ·intro z0 w hb h;exact qat (.tmp 11) rfl (B) 8 (sd0 h) 103 _ _ (0,0) (hkq HQ hb) (qae _ _) (qeN _ _ _ _)
  ·intro z0 w hb h;exact qab 61 (.tmp 3) rfl (g3) (sd0 h) 61 _ (0,0) _ (hkq z6 hb) underlying61 rfl (qal _)
  ·intro z0 w hb h;simp[go_sem,rd0 h,rd1 h,qaa];exact z5.out w (HP.out.step hb)
  ·intro z0 w hb h;simp[go_sem,rd0 h,qaa]
  ·intro z0 w hb h;exact qat (.tmp 15) rfl (B) 12 (sd0 h) 103 _ _ (0,0) (hkq HQ hb) (qae _ _) (qf0 _ _ _ _)
  ·intro z0 w hb h;exact qeX (.tmp 6) (.tmp 10) (.tmp 14) (.tmp 16) rfl _ _ _ _ (sd0 h) (sd1 h) (sd2 h) (sd3 h)
 ·simp[qay,qax,qaK,HeadSpec.val,HeadSpec.fresh,Act.put]
 ·simp only[zks,qaN,HeadSpec.val,HeadSpec.fresh,Act.put,zkt];intro v1 z8 zi;have HN:=hkp HR z8;have zg:=hid (jsh v1 (B+1) _ (uc (row4 a y1 z1 d)) _ _ HN.out);have zh:Below B w (v1.setRow (B+1) (uc (row4 a y1 z1 d))):=jbr (hb.trans (z8.mono hB.out)) (by omega) _;clear zi z8 hb;go_wp2_with (with_reducible refine jsr rfl 63 _ _ rfl (B+1) (uc (row4 a y1 z1 d)) rfl rfl 63 _ HN.out (qaR _ (qa6 _ _ _ _)) (qaU _ (qa6 _ _ _ _)) (qar _) ?_);exact jpr (v:=.agg (uc (row4 a y1 z1 d))) (jrc (by rfl) _ _ (B+1) 63 _ (0,0) _ rfl zg.out underlying63 rfl (qaR _ (qa6 _ _ _ _))) rfl ⟨rfl,by rw[zf.out];exact zh⟩
def facT:ByteArray:=⟨#[163,120,89,19,202,77,235,117,171,216,65,65,77,10,112,0,152,232,121,119,121,64,199,140,115,254,111,43,238,108,3,82]⟩
theorem facT_val:leV facT.data.toList 32%pF=facF:=by rw[fac_val];decide +kernel
theorem coef_any(w:World)(hT:PrmQ w):Rt 184 #[] w (.agg (uc (limN 4 facF))):=by
 unfold Rt;have CO:=hid (fun W=>of_any facT W rfl);rw[facT_val]at CO;generalize z2:facF=d at *;have HFD:=hid z2;clear z2;unfold facT at CO;obtain⟨hz,hi⟩:=jzi qbR;obtain⟨z7,z5⟩:=jzi qc3;obtain⟨z8,z6⟩:=jzi qch;have hb:=qaf w (.cells zeros4 61);have HP:=hid (hT.step hb);have HR:=hid (qad w (.cells zeros4 61));clear hi z5 z6 hT;go_enter func184,ntmps184;go_wp2_with fail
 try clear z7
 try clear z8
 generalize (w.alloc _)=W0 at *;have hB:=hid hb.size;generalize z1:w.heap.size=B at *;have z3:=hid z1;clear z1;refine (CO.out W0).mono ?_;rintro e W1⟨rfl,bk⟩;replace hb:=hb.trans (bk.mono hB.out);replace HP:=hid (HP.out.step bk);replace hB:=hid (jlt hB.out bk.size);replace HR:=hkp HR bk;clear bk;have HN:=hid (qad W1 (.cells zeros4 61));have hr:=qac HR.out;have q1:=hid (jsh _ W1.heap.size _ (uc (limN 4 d)) _ _ HN.out);have z0:Hid (((W1.alloc (.cells zeros4 61)).setRow W1.heap.size (uc (limN 4 d))).heap[B]?=some (.cells zeros4 61)):=hid (by rw[jro _ _ _ _ (by omega)];exact qah HR.out);have z4:Below B w ((W1.alloc (.cells zeros4 61)).setRow W1.heap.size (uc (limN 4 d))):=jbr (hb.alloc (by omega) _) (by omega) _;clear CO HR hb;go_wp2_with (first
  | (with_reducible refine jsr rfl 61 _ _ rfl W1.heap.size (uc (limN 4 d)) rfl rfl 61 _ HN.out (qal _) (qaw _) (qar _) ?_)
  | (with_reducible refine jlw rfl 61 _ rfl (W1.heap.size) rfl 61 _ (0,0) _ q1.out underlying61 rfl (qal _) ?_)
  | (with_reducible refine jsr rfl 61 _ _ rfl B (uc (limN 4 d)) rfl rfl 61 _ z0.out (qal _) (qaw _) (qar _) ?_))
 exact jpr (v:=.agg (uc (limN 4 d))) (jrc (by rfl) _ _ B 61 _ (0,0) _ rfl (jsh _ _ _ _ _ _ z0.out) underlying61 rfl (qal _)) rfl ⟨rfl,by rw[z3.out];exact jbr z4 (jlr _) _⟩
theorem sumL_any(a b c d aa bb cc dd fd s1 s2 na p1 p2 nb k c1 nc m1 nm ne nf ng nh nx ny nz nt:Nat)(w:World)(x2:a<pF)(x3:b<pF)(x4:c<pF)(xb:d<pF)(ye:aa<pF)(yf:bb<pF)(yO:cc<pF)(yP:dd<pF)(yY:facF=fd)(hT:PrmQ w)
  (y7:subF b a=s1) (y8:subF bb aa=s2) (zT:mulF s1 s2=na) (y5:addF b a=p1) (y6:addF bb aa=p2) (zU:mulF p1 p2=nb) (yX:addF fd fd=k) (zR:mulF d k=c1) (zV:mulF c1 dd=nc) (zS:addF c c=m1) (y0:mulF m1 cc=nm) (zW:subF nb na=ne) (zX:subF nm nc=nf) (zY:addF nm nc=ng) (zZ:addF nb na=nh) (y2:mulF ne nf=nx) (y3:mulF ng nh=ny) (y4:mulF nf ng=nz) (y1:mulF ne nh=nt) :
  Rt 133 #[.agg (uc (row4 a b c d)),.agg (uc (row4 aa bb cc dd))] w (.agg (uc (row4 nx ny nz nt))):=by
 unfold Rt;have ys:=hid (fun (W:World) (hW:PrmQ W)=>coef_any W hW);have yg:fd<pF:=yY▸facF_lt;rw[yY]at ys;have yT:s1<pF:=y7▸qbt _ _;have yU:s2<pF:=y8▸qbt _ _;have yh:na<pF:=zT▸qaT _ _;have yR:p1<pF:=y5▸qb7 _ _;have yS:p2<pF:=y6▸qb7 _ _;have yi:nb<pF:=zU▸qaT _ _;have xc:k<pF:=yX▸qb7 _ _;have yN:c1<pF:=zR▸qaT _ _;have yj:nc<pF:=zV▸qaT _ _;have yQ:m1<pF:=zS▸qb7 _ _;have yo:nm<pF:=y0▸qaT _ _;have yk:ne<pF:=zW▸qbt _ _;have yl:nf<pF:=zX▸qbt _ _;have ym:ng<pF:=zY▸qb7 _ _;have yn:nh<pF:=zZ▸qb7 _ _;have x6:nx<pF:=y2▸qaT _ _;have x7:ny<pF:=y3▸qaT _ _;have x8:nz<pF:=y4▸qaT _ _;have x5:nt<pF:=y1▸qaT _ _;have yI:=hid (fun (W:World) (hW:PrmQ W)=>qcA b a W x3 x2 hW);rw[y7]at yI;have yJ:=hid (fun (W:World) (hW:PrmQ W)=>qcA bb aa W yf ye hW);rw[y8]at yJ;have yu:=hid (fun (W:World) (hW:PrmQ W)=>qaS s1 s2 W yT yU);rw[zT]at yu;have yG:=hid (fun (W:World) (hW:PrmQ W)=>qdb b a W x3 x2);rw[y5]at yG;have yH:=hid (fun (W:World) (hW:PrmQ W)=>qdb bb aa W yf ye);rw[y6]at yH;have yv:=hid (fun (W:World) (hW:PrmQ W)=>qaS p1 p2 W yR yS);rw[zU]at yv;have x9:=hid (fun (W:World) (hW:PrmQ W)=>qdb fd fd W yg yg);rw[yX]at x9;have yr:=hid (fun (W:World) (hW:PrmQ W)=>qaS d k W xb xc);rw[zR]at yr;have yw:=hid (fun (W:World) (hW:PrmQ W)=>qaS c1 dd W yN yP);rw[zV]at yw;have yt:=hid (fun (W:World) (hW:PrmQ W)=>qdb c c W x4 x4);rw[zS]at yt;have yB:=hid (fun (W:World) (hW:PrmQ W)=>qaS m1 cc W yQ yO);rw[y0]at yB;have yx:=hid (fun (W:World) (hW:PrmQ W)=>qcA nb na W yi yh hW);rw[zW]at yx
 have yy:=hid (fun (W:World) (hW:PrmQ W)=>qcA nm nc W yo yj hW);rw[zX]at yy;have yz:=hid (fun (W:World) (hW:PrmQ W)=>qdb nm nc W yo yj);rw[zY]at yz;have yA:=hid (fun (W:World) (hW:PrmQ W)=>qdb nb na W yi yh);rw[zZ]at yA;have yD:=hid (fun (W:World) (hW:PrmQ W)=>qaS ne nf W yk yl);rw[y2]at yD;have yE:=hid (fun (W:World) (hW:PrmQ W)=>qaS ng nh W ym yn);rw[y3]at yE;have yF:=hid (fun (W:World) (hW:PrmQ W)=>qaS nf ng W yl ym);rw[y4]at yF;have yC:=hid (fun (W:World) (hW:PrmQ W)=>qaS ne nh W yk yn);rw[y1]at yC;clear y7 yT y8 yU zT yh y5 yR y6 yS zU yi yX xc zR yN zV yj zS yQ y0 yo zW yk zX yl zY ym zZ yn y2 x6 y3 x7 y4 x8 y1 x5 x2 x3 x4 xb ye yf yO yP yg;clear yY;obtain⟨hz,hi⟩:=jzi qbR;obtain⟨xi,xg⟩:=jzi qc3;obtain⟨xj,xh⟩:=jzi qch;have hb:=qbd w (.cells (uc (row4 a b c d)) 103) (.cells (uc (row4 aa bb cc dd)) 103) (.cells zrow4 103);have HP:=hid (hT.step hb);have HQ:=hid (qah (o:=.cells zrow4 103) (qah (o:=.cells (uc (row4 aa bb cc dd)) 103) (qad w (.cells (uc (row4 a b c d)) 103))));have HX:=hid (qah (o:=.cells zrow4 103) (qaz w (.cells (uc (row4 a b c d)) 103) (.cells (uc (row4 aa bb cc dd)) 103)));have HR:=hid (qby w (.cells (uc (row4 a b c d)) 103) (.cells (uc (row4 aa bb cc dd)) 103) (.cells zrow4 103));clear hi xg xh hT
 go_enter func133,ntmps133;go_upto_region 1 with fail
 try clear xi
 try clear xj
 generalize (((w.alloc _).alloc _).alloc _)=W0 at *;have hB:=hid hb.size;generalize xa:w.heap.size=B at *;have xd:=hid xa;clear xa;refine qao 12 81 [.val (.pointer (some ⟨B,4,none⟩)) [(2,.pointer (some ⟨B,0,none⟩))],
   .val (.agg (uc (limN 4 b))) [(15,.pointer (some ⟨B,4,none⟩))],
   .val (.pointer (some ⟨B,0,none⟩)) [(2,.pointer (some ⟨B,0,none⟩))],
   .val (.agg (uc (limN 4 a))) [(17,.pointer (some ⟨B,0,none⟩))],
   .val (.agg (uc (limN 4 s1))) [(16,.agg (uc (limN 4 b))),(18,.agg (uc (limN 4 a)))],
   .val (.pointer (some ⟨B+1,4,none⟩)) [(3,.pointer (some ⟨B+1,0,none⟩))],
   .val (.agg (uc (limN 4 bb))) [(20,.pointer (some ⟨B+1,4,none⟩))],
   .val (.pointer (some ⟨B+1,0,none⟩)) [(3,.pointer (some ⟨B+1,0,none⟩))],
   .val (.agg (uc (limN 4 aa))) [(22,.pointer (some ⟨B+1,0,none⟩))],
   .val (.agg (uc (limN 4 s2))) [(21,.agg (uc (limN 4 bb))),(23,.agg (uc (limN 4 aa)))],
   .val (.agg (uc (limN 4 na))) [(19,.agg (uc (limN 4 s1))),(24,.agg (uc (limN 4 s2)))],
   .fresh (.cells zeros4 61)] (by kernel_rfl) (by kernel_rfl) rfl ?_ ?_ ?_
 ·simp only[take_succ_cons,List.take_zero,qaO,qaP,HeadSpec.val,HeadSpec.fresh,and_true];refine⟨?_,?_,?_,?_,?_,?_,?_,?_,?_,?_,?_,?_⟩
  ·intro z0 w hb h;simp[go_sem,rd0 h,qaa]
  ·intro z0 w hb h;exact qat (.tmp 15) rfl (B) 4 (sd0 h) 103 _ _ (0,0) (hkq HQ hb) (qae _ _) (qed _ _ _ _)
  ·intro z0 w hb h;simp[go_sem,rd0 h,qaa]
  ·intro z0 w hb h;exact qat (.tmp 17) rfl (B) 0 (sd0 h) 103 _ _ (0,0) (hkq HQ hb) (qae _ _) (qec _ _ _ _)
  ·intro z0 w hb h;simp[go_sem,rd0 h,rd1 h,qaa];exact yI.out w (HP.out.step hb)
  ·intro z0 w hb h;simp[go_sem,rd0 h,qaa]
  ·intro z0 w hb h;exact qat (.tmp 20) rfl (B+1) 4 (sd0 h) 103 _ _ (0,0) (hkq HX hb) (qae _ _) (qed _ _ _ _)
  ·intro z0 w hb h;simp[go_sem,rd0 h,qaa]
  ·intro z0 w hb h;exact qat (.tmp 22) rfl (B+1) 0 (sd0 h) 103 _ _ (0,0) (hkq HX hb) (qae _ _) (qec _ _ _ _)
  ·intro z0 w hb h;simp[go_sem,rd0 h,rd1 h,qaa];exact yJ.out w (HP.out.step hb)
  ·intro z0 w hb h;simp[go_sem,rd0 h,rd1 h,qaa];exact yu.out w (HP.out.step hb)
  ·intro z0 w hb;simp[go_sem,hz]
 ·simp[qay,qax,qaK,HeadSpec.val,HeadSpec.fresh,Act.put]
 ·simp only[zks,qaN,HeadSpec.val,HeadSpec.fresh,Act.put,zkt];intro g5 yZ _ v1 zk zi;have zO:=hid (show v1.heap[g5]?=some (.cells zeros4 61) from zi (g5,.cells zeros4 61) (by simp));have hk:Below W0.heap.size W0 (v1.setRow g5 (uc (limN 4 na))):=jbr zk yZ (uc (limN 4 na));have yK:=hid (show (v1.setRow g5 (uc (limN 4 na))).heap[g5]?=some (.cells (uc (limN 4 na)) 61) from by exact jsh _ g5 _ (uc (limN 4 na)) _ _ zO.out);have zq:=hb.trans (hk.mono hB.out);have zp:=hid (HP.out.step hk);have zr:=hkp HQ hk;have zt:=hkp HX hk;have zs:=hkp HR hk;have zo:=hid (jlt hB.out hk.size);have b_g5:=hid (jlt hB.out yZ);clear HQ HX HR zk zi hb HP hB hk yZ;go_wp2_with (first|(with_reducible refine jsr rfl 61 _ _ rfl g5 (uc (limN 4 na)) rfl rfl 61 _ zO.out (qal _) (qaw _) (qar _) ?_));generalize (World.setRow _ _ _)=W1 at *;clear zO;have HQ:=zr;have HX:=zt;have HR:=zs;have z1:=yK;have hb:=zq;have HP:=zp;have hB:=zo;clear zq zp zo zr zt zs yK
  try simp only[Act.put]
  refine qao 12 81 [.val (.pointer (some ⟨B,4,none⟩)) [(2,.pointer (some ⟨B,0,none⟩))],
   .val (.agg (uc (limN 4 b))) [(26,.pointer (some ⟨B,4,none⟩))],
   .val (.pointer (some ⟨B,0,none⟩)) [(2,.pointer (some ⟨B,0,none⟩))],
   .val (.agg (uc (limN 4 a))) [(28,.pointer (some ⟨B,0,none⟩))],
   .val (.agg (uc (limN 4 p1))) [(27,.agg (uc (limN 4 b))),(29,.agg (uc (limN 4 a)))],
   .val (.pointer (some ⟨B+1,4,none⟩)) [(3,.pointer (some ⟨B+1,0,none⟩))],
   .val (.agg (uc (limN 4 bb))) [(31,.pointer (some ⟨B+1,4,none⟩))],
   .val (.pointer (some ⟨B+1,0,none⟩)) [(3,.pointer (some ⟨B+1,0,none⟩))],
   .val (.agg (uc (limN 4 aa))) [(33,.pointer (some ⟨B+1,0,none⟩))],
   .val (.agg (uc (limN 4 p2))) [(32,.agg (uc (limN 4 bb))),(34,.agg (uc (limN 4 aa)))],
   .val (.agg (uc (limN 4 nb))) [(30,.agg (uc (limN 4 p1))),(35,.agg (uc (limN 4 p2)))],
   .fresh (.cells zeros4 61)] (by kernel_rfl) (by kernel_rfl) rfl ?_ ?_ ?_
  ·simp only[take_succ_cons,List.take_zero,qaO,qaP,HeadSpec.val,HeadSpec.fresh,and_true];refine⟨?_,?_,?_,?_,?_,?_,?_,?_,?_,?_,?_,?_⟩
   ·intro z0 w hb h;simp[go_sem,rd0 h,qaa]
   ·intro z0 w hb h;exact qat (.tmp 26) rfl (B) 4 (sd0 h) 103 _ _ (0,0) (hkq HQ hb) (qae _ _) (qed _ _ _ _)
   ·intro z0 w hb h;simp[go_sem,rd0 h,qaa]
   ·intro z0 w hb h;exact qat (.tmp 28) rfl (B) 0 (sd0 h) 103 _ _ (0,0) (hkq HQ hb) (qae _ _) (qec _ _ _ _)
   ·intro z0 w hb h;simp[go_sem,rd0 h,rd1 h,qaa];exact yG.out w (HP.out.step hb)
   ·intro z0 w hb h;simp[go_sem,rd0 h,qaa]
   ·intro z0 w hb h;exact qat (.tmp 31) rfl (B+1) 4 (sd0 h) 103 _ _ (0,0) (hkq HX hb) (qae _ _) (qed _ _ _ _)
   ·intro z0 w hb h;simp[go_sem,rd0 h,qaa]
   ·intro z0 w hb h;exact qat (.tmp 33) rfl (B+1) 0 (sd0 h) 103 _ _ (0,0) (hkq HX hb) (qae _ _) (qec _ _ _ _)
   ·intro z0 w hb h;simp[go_sem,rd0 h,rd1 h,qaa];exact yH.out w (HP.out.step hb)
   ·intro z0 w hb h;simp[go_sem,rd0 h,rd1 h,qaa];exact yv.out w (HP.out.step hb)
   ·intro z0 w hb;simp[go_sem,hz]
  ·simp[qay,qax,qaK,HeadSpec.val,HeadSpec.fresh,Act.put]
  ·simp only[zks,qaN,HeadSpec.val,HeadSpec.fresh,Act.put,zkt];intro g6 x0 _ v1 zk zi;have zP:=hid (show v1.heap[g6]?=some (.cells zeros4 61) from zi (g6,.cells zeros4 61) (by simp));have hk:Below W1.heap.size W1 (v1.setRow g6 (uc (limN 4 nb))):=jbr zk x0 (uc (limN 4 nb));have yL:=hid (show (v1.setRow g6 (uc (limN 4 nb))).heap[g6]?=some (.cells (uc (limN 4 nb)) 61) from by exact jsh _ g6 _ (uc (limN 4 nb)) _ _ zP.out);have zq:=hb.trans (hk.mono hB.out);have zp:=hid (HP.out.step hk);have zr:=hkp HQ hk;have zt:=hkp HX hk;have zs:=hkp HR hk;have z3:=hkp z1 hk;have zo:=hid (jlt hB.out hk.size);have b_g6:=hid (jlt hB.out x0);clear HQ HX HR z1 zk zi hb HP hB hk x0;go_wp2_with (first|(with_reducible refine jsr rfl 61 _ _ rfl g6 (uc (limN 4 nb)) rfl rfl 61 _ zP.out (qal _) (qaw _) (qar _) ?_));generalize (World.setRow _ _ _)=W2 at *;clear zP;have HQ:=zr;have HX:=zt;have HR:=zs;have z1:=z3;have z2:=yL;have hb:=zq;have HP:=zp;have hB:=zo;clear zq zp zo zr zt zs z3 yL
   try simp only[Act.put]
   refine (ys.out W2 HP.out).mono ?_;rintro e W3⟨rfl,bk⟩;replace hb:=hb.trans (bk.mono hB.out);replace HP:=hid (HP.out.step bk);replace hB:=hid (jlt hB.out bk.size);replace HQ:=hkp HQ bk;replace HX:=hkp HX bk;replace HR:=hkp HR bk;replace z1:=hkp z1 bk;replace z2:=hkp z2 bk;clear bk;have HN:=hid (qad W3 (.cells zeros4 61));have bn:=qaf W3 (.cells zeros4 61);have yq:=hid (jsh _ W3.heap.size _ (uc (limN 4 fd)) _ _ HN.out);go_wp2_with (first|(with_reducible refine jsr rfl 61 _ _ rfl W3.heap.size (uc (limN 4 fd)) rfl rfl 61 _ HN.out (qal _) (qaw _) (qar _) ?_)|(with_reducible refine jlw rfl 61 _ rfl (W3.heap.size) rfl 61 _ (0,0) _ yq.out underlying61 rfl (qal _) ?_));have bk:=jbr bn (jlr _) (uc (limN 4 fd));have b_g7:=hid hB.out;replace hb:=hb.trans (bk.mono hB.out);replace HP:=hid (HP.out.step bk);replace hB:=hid (jlt hB.out bk.size);replace HQ:=hkp HQ bk;replace HX:=hkp HX bk;replace HR:=hkp HR bk;replace z1:=hkp z1 bk;replace z2:=hkp z2 bk;clear bk;have za:=yq;generalize (World.setRow (World.alloc _ _) _ _)=W4 at *;generalize W3.heap.size=g7 at *;clear bn HN yq
   try simp only[Act.put]
   refine (x9.out W4 HP.out).mono ?_;rintro e W5⟨rfl,bk⟩;replace hb:=hb.trans (bk.mono hB.out);replace HP:=hid (HP.out.step bk);replace hB:=hid (jlt hB.out bk.size);replace HQ:=hkp HQ bk;replace HX:=hkp HX bk;replace HR:=hkp HR bk;replace z1:=hkp z1 bk;replace z2:=hkp z2 bk;replace za:=hkp za bk;clear bk;have HN:=hid (qad W5 (.cells zeros4 61));have bn:=qaf W5 (.cells zeros4 61);have yW:=hid (jsh _ W5.heap.size _ (uc (limN 4 k)) _ _ HN.out);go_wp2_with (first|(with_reducible refine jsr rfl 61 _ _ rfl W5.heap.size (uc (limN 4 k)) rfl rfl 61 _ HN.out (qal _) (qaw _) (qar _) ?_));have bk:=jbr bn (jlr _) (uc (limN 4 k));have b_g8:=hid hB.out;replace hb:=hb.trans (bk.mono hB.out);replace HP:=hid (HP.out.step bk);replace hB:=hid (jlt hB.out bk.size);replace HQ:=hkp HQ bk;replace HX:=hkp HX bk;replace HR:=hkp HR bk;replace z1:=hkp z1 bk;replace z2:=hkp z2 bk;replace za:=hkp za bk;clear bk;have zg:=yW;generalize (World.setRow (World.alloc _ _) _ _)=W6 at *;generalize W5.heap.size=g8 at *;clear bn HN yW
   try simp only[Act.put]
   refine qao 8 81 [.val (.pointer (some ⟨B,12,none⟩)) [(2,.pointer (some ⟨B,0,none⟩))],
   .val (.agg (uc (limN 4 d))) [(41,.pointer (some ⟨B,12,none⟩))],
   .val (.agg (uc (limN 4 k))) [(8,.pointer (some ⟨g8,0,none⟩))],
   .val (.agg (uc (limN 4 c1))) [(42,.agg (uc (limN 4 d))),(43,.agg (uc (limN 4 k)))],
   .val (.pointer (some ⟨B+1,12,none⟩)) [(3,.pointer (some ⟨B+1,0,none⟩))],
   .val (.agg (uc (limN 4 dd))) [(45,.pointer (some ⟨B+1,12,none⟩))],
   .val (.agg (uc (limN 4 nc))) [(44,.agg (uc (limN 4 c1))),(46,.agg (uc (limN 4 dd)))],
   .fresh (.cells zeros4 61)] (by kernel_rfl) (by kernel_rfl) rfl ?_ ?_ ?_
   ·simp only[take_succ_cons,List.take_zero,qaO,qaP,HeadSpec.val,HeadSpec.fresh,and_true];refine⟨?_,?_,?_,?_,?_,?_,?_,?_⟩
    ·intro z0 w hb h;simp[go_sem,rd0 h,qaa]
    ·intro z0 w hb h;exact qat (.tmp 41) rfl (B) 12 (sd0 h) 103 _ _ (0,0) (hkq HQ hb) (qae _ _) (qf0 _ _ _ _)
    ·intro z0 w hb h;exact qab 61 (.tmp 8) rfl (g8) (sd0 h) 61 _ (0,0) _ (hkq zg hb) underlying61 rfl (qal _)
    ·intro z0 w hb h;simp[go_sem,rd0 h,rd1 h,qaa];exact yr.out w (HP.out.step hb)
    ·intro z0 w hb h;simp[go_sem,rd0 h,qaa]
    ·intro z0 w hb h;exact qat (.tmp 45) rfl (B+1) 12 (sd0 h) 103 _ _ (0,0) (hkq HX hb) (qae _ _) (qf0 _ _ _ _)
    ·intro z0 w hb h;simp[go_sem,rd0 h,rd1 h,qaa];exact yw.out w (HP.out.step hb)
    ·intro z0 w hb;simp[go_sem,hz]
   ·simp[qay,qax,qaK,HeadSpec.val,HeadSpec.fresh,Act.put]
   ·simp only[zks,qaN,HeadSpec.val,HeadSpec.fresh,Act.put,zkt];intro g9 x1 _ v1 zk zi;have zQ:=hid (show v1.heap[g9]?=some (.cells zeros4 61) from zi (g9,.cells zeros4 61) (by simp));have hk:Below W6.heap.size W6 (v1.setRow g9 (uc (limN 4 nc))):=jbr zk x1 (uc (limN 4 nc));have yM:=hid (show (v1.setRow g9 (uc (limN 4 nc))).heap[g9]?=some (.cells (uc (limN 4 nc)) 61) from by exact jsh _ g9 _ (uc (limN 4 nc)) _ _ zQ.out);have zq:=hb.trans (hk.mono hB.out);have zp:=hid (HP.out.step hk);have zr:=hkp HQ hk;have zt:=hkp HX hk;have zs:=hkp HR hk;have z3:=hkp z1 hk;have zb:=hkp z2 hk;have zc:=hkp za hk;have zd:=hkp zg hk;have zo:=hid (jlt hB.out hk.size);have b_g9:=hid (jlt hB.out x1);clear HQ HX HR z1 z2 za zg zk zi hb HP hB hk x1;go_wp2_with (first|(with_reducible refine jsr rfl 61 _ _ rfl g9 (uc (limN 4 nc)) rfl rfl 61 _ zQ.out (qal _) (qaw _) (qar _) ?_));generalize (World.setRow _ _ _)=W7 at *;clear zQ;have HQ:=zr;have HX:=zt;have HR:=zs;have z1:=z3;have z2:=zb;have za:=zc;have zg:=zd;have zm:=yM;have hb:=zq;have HP:=zp;have hB:=zo;clear zq zp zo zr zt zs z3 zb zc zd yM
    try simp only[Act.put]
    refine qao 9 81 [.val (.pointer (some ⟨B,8,none⟩)) [(2,.pointer (some ⟨B,0,none⟩))],
   .val (.agg (uc (limN 4 c))) [(48,.pointer (some ⟨B,8,none⟩))],
   .val (.pointer (some ⟨B,8,none⟩)) [(2,.pointer (some ⟨B,0,none⟩))],
   .val (.agg (uc (limN 4 c))) [(50,.pointer (some ⟨B,8,none⟩))],
   .val (.agg (uc (limN 4 m1))) [(49,.agg (uc (limN 4 c))),(51,.agg (uc (limN 4 c)))],
   .val (.pointer (some ⟨B+1,8,none⟩)) [(3,.pointer (some ⟨B+1,0,none⟩))],
   .val (.agg (uc (limN 4 cc))) [(53,.pointer (some ⟨B+1,8,none⟩))],
   .val (.agg (uc (limN 4 nm))) [(52,.agg (uc (limN 4 m1))),(54,.agg (uc (limN 4 cc)))],
   .fresh (.cells zeros4 61)] (by kernel_rfl) (by kernel_rfl) rfl ?_ ?_ ?_
    ·simp only[take_succ_cons,List.take_zero,qaO,qaP,HeadSpec.val,HeadSpec.fresh,and_true];refine⟨?_,?_,?_,?_,?_,?_,?_,?_,?_⟩
     ·intro z0 w hb h;simp[go_sem,rd0 h,qaa]
     ·intro z0 w hb h;exact qat (.tmp 48) rfl (B) 8 (sd0 h) 103 _ _ (0,0) (hkq HQ hb) (qae _ _) (qeN _ _ _ _)
     ·intro z0 w hb h;simp[go_sem,rd0 h,qaa]
     ·intro z0 w hb h;exact qat (.tmp 50) rfl (B) 8 (sd0 h) 103 _ _ (0,0) (hkq HQ hb) (qae _ _) (qeN _ _ _ _)
     ·intro z0 w hb h;simp[go_sem,rd0 h,rd1 h,qaa];exact yt.out w (HP.out.step hb)
     ·intro z0 w hb h;simp[go_sem,rd0 h,qaa]
     ·intro z0 w hb h;exact qat (.tmp 53) rfl (B+1) 8 (sd0 h) 103 _ _ (0,0) (hkq HX hb) (qae _ _) (qeN _ _ _ _)
     ·intro z0 w hb h;simp[go_sem,rd0 h,rd1 h,qaa];exact yB.out w (HP.out.step hb)
     ·intro z0 w hb;simp[go_sem,hz]
    ·simp[qay,qax,qaK,HeadSpec.val,HeadSpec.fresh,Act.put]
    ·simp only[zks,qaN,HeadSpec.val,HeadSpec.fresh,Act.put,zkt];intro zz y9 _ v1 zk zi;have zx:=hid (show v1.heap[zz]?=some (.cells zeros4 61) from zi (zz,.cells zeros4 61) (by simp));have hk:Below W7.heap.size W7 (v1.setRow zz (uc (limN 4 nm))):=jbr zk y9 (uc (limN 4 nm));have zJ:=hid (show (v1.setRow zz (uc (limN 4 nm))).heap[zz]?=some (.cells (uc (limN 4 nm)) 61) from by exact jsh _ zz _ (uc (limN 4 nm)) _ _ zx.out);have zq:=hb.trans (hk.mono hB.out);have zp:=hid (HP.out.step hk);have zr:=hkp HQ hk;have zt:=hkp HX hk;have zs:=hkp HR hk;have z3:=hkp z1 hk;have zb:=hkp z2 hk;have zc:=hkp za hk;have zd:=hkp zg hk;have zn:=hkp zm hk;have zo:=hid (jlt hB.out hk.size);have b_g10:=hid (jlt hB.out y9);clear HQ HX HR z1 z2 za zg zm zk zi hb HP hB hk y9;go_wp2_with (first|(with_reducible refine jsr rfl 61 _ _ rfl zz (uc (limN 4 nm)) rfl rfl 61 _ zx.out (qal _) (qaw _) (qar _) ?_));generalize (World.setRow _ _ _)=W8 at *;clear zx;have HQ:=zr;have HX:=zt;have HR:=zs;have z1:=z3;have z2:=zb;have za:=zc;have zg:=zd;have zm:=zn;have zl:=zJ;have hb:=zq;have HP:=zp;have hB:=zo;clear zq zp zo zr zt zs z3 zb zc zd zn zJ
     try simp only[Act.put]
     refine qao 16 81 [.val (.agg (uc (limN 4 nb))) [(6,.pointer (some ⟨g6,0,none⟩))],
   .val (.agg (uc (limN 4 na))) [(5,.pointer (some ⟨g5,0,none⟩))],
   .val (.agg (uc (limN 4 ne))) [(56,.agg (uc (limN 4 nb))),(57,.agg (uc (limN 4 na)))],
   .val (.agg (uc (limN 4 nm))) [(10,.pointer (some ⟨zz,0,none⟩))],
   .val (.agg (uc (limN 4 nc))) [(9,.pointer (some ⟨g9,0,none⟩))],
   .val (.agg (uc (limN 4 nf))) [(59,.agg (uc (limN 4 nm))),(60,.agg (uc (limN 4 nc)))],
   .val (.agg (uc (limN 4 nm))) [(10,.pointer (some ⟨zz,0,none⟩))],
   .val (.agg (uc (limN 4 nc))) [(9,.pointer (some ⟨g9,0,none⟩))],
   .val (.agg (uc (limN 4 ng))) [(62,.agg (uc (limN 4 nm))),(63,.agg (uc (limN 4 nc)))],
   .val (.agg (uc (limN 4 nb))) [(6,.pointer (some ⟨g6,0,none⟩))],
   .val (.agg (uc (limN 4 na))) [(5,.pointer (some ⟨g5,0,none⟩))],
   .val (.agg (uc (limN 4 nh))) [(65,.agg (uc (limN 4 nb))),(66,.agg (uc (limN 4 na)))],
   .fresh (.cells zeros4 61),
   .fresh (.cells zeros4 61),
   .fresh (.cells zeros4 61),
   .fresh (.cells zeros4 61)] (by kernel_rfl) (by kernel_rfl) rfl ?_ ?_ ?_
     ·simp only[take_succ_cons,List.take_zero,qaO,qaP,HeadSpec.val,HeadSpec.fresh,and_true];refine⟨?_,?_,?_,?_,?_,?_,?_,?_,?_,?_,?_,?_,?_,?_,?_,?_⟩
      ·intro z0 w hb h;exact qab 61 (.tmp 6) rfl (g6) (sd0 h) 61 _ (0,0) _ (hkq z2 hb) underlying61 rfl (qal _)
      ·intro z0 w hb h;exact qab 61 (.tmp 5) rfl (g5) (sd0 h) 61 _ (0,0) _ (hkq z1 hb) underlying61 rfl (qal _)
      ·intro z0 w hb h;simp[go_sem,rd0 h,rd1 h,qaa];exact yx.out w (HP.out.step hb)
      ·intro z0 w hb h;exact qab 61 (.tmp 10) rfl (zz) (sd0 h) 61 _ (0,0) _ (hkq zl hb) underlying61 rfl (qal _)
      ·intro z0 w hb h;exact qab 61 (.tmp 9) rfl (g9) (sd0 h) 61 _ (0,0) _ (hkq zm hb) underlying61 rfl (qal _)
      ·intro z0 w hb h;simp[go_sem,rd0 h,rd1 h,qaa];exact yy.out w (HP.out.step hb)
      ·intro z0 w hb h;exact qab 61 (.tmp 10) rfl (zz) (sd0 h) 61 _ (0,0) _ (hkq zl hb) underlying61 rfl (qal _)
      ·intro z0 w hb h;exact qab 61 (.tmp 9) rfl (g9) (sd0 h) 61 _ (0,0) _ (hkq zm hb) underlying61 rfl (qal _)
      ·intro z0 w hb h;simp[go_sem,rd0 h,rd1 h,qaa];exact yz.out w (HP.out.step hb)
      ·intro z0 w hb h;exact qab 61 (.tmp 6) rfl (g6) (sd0 h) 61 _ (0,0) _ (hkq z2 hb) underlying61 rfl (qal _)
      ·intro z0 w hb h;exact qab 61 (.tmp 5) rfl (g5) (sd0 h) 61 _ (0,0) _ (hkq z1 hb) underlying61 rfl (qal _)
      ·intro z0 w hb h;simp[go_sem,rd0 h,rd1 h,qaa];exact yA.out w (HP.out.step hb)
      ·intro z0 w hb;simp[go_sem,hz]
      ·intro z0 w hb;simp[go_sem,hz]
      ·intro z0 w hb;simp[go_sem,hz]
      ·intro z0 w hb;simp[go_sem,hz]
     ·simp[qay,qax,qaK,HeadSpec.val,HeadSpec.fresh,Act.put]
     ·simp only[zks,qaN,HeadSpec.val,HeadSpec.fresh,Act.put,zkt];intro ze ya _ zf yb yV zh yc yp zj yd zB v1 zk zi;have z4:ze≠zf:=yV (ze,.cells zeros4 61) (by simp);have z5:ze≠zh:=yp (ze,.cells zeros4 61) (by simp);have z7:zf≠zh:=yp (zf,.cells zeros4 61) (by simp);have z6:ze≠zj:=zB (ze,.cells zeros4 61) (by simp);have z8:zf≠zj:=zB (zf,.cells zeros4 61) (by simp);have z9:zh≠zj:=zB (zh,.cells zeros4 61) (by simp);have zy:=hid (show v1.heap[ze]?=some (.cells zeros4 61) from zi (ze,.cells zeros4 61) (by simp));have zG:=hid (show v1.heap[zf]?=some (.cells zeros4 61) from zi (zf,.cells zeros4 61) (by simp));have zH:=hid (show v1.heap[zh]?=some (.cells zeros4 61) from zi (zh,.cells zeros4 61) (by simp));have zI:=hid (show v1.heap[zj]?=some (.cells zeros4 61) from zi (zj,.cells zeros4 61) (by simp));have zu:=hid (show (v1.setRow ze (uc (limN 4 ne))).heap[zf]?=some (.cells zeros4 61) from by rw[jro _ _ _ _ (Ne.symm z4)];exact zG.out);have zv:=hid (show ((v1.setRow ze (uc (limN 4 ne))).setRow zf (uc (limN 4 nf))).heap[zh]?=some (.cells zeros4 61) from by rw[jro _ _ _ _ (Ne.symm z7),jro _ _ _ _ (Ne.symm z5)];exact zH.out)
      have zw:=hid (show (((v1.setRow ze (uc (limN 4 ne))).setRow zf (uc (limN 4 nf))).setRow zh (uc (limN 4 ng))).heap[zj]?=some (.cells zeros4 61) from by rw[jro _ _ _ _ (Ne.symm z9),jro _ _ _ _ (Ne.symm z8),jro _ _ _ _ (Ne.symm z6)];exact zI.out);have hk:Below W8.heap.size W8 ((((v1.setRow ze (uc (limN 4 ne))).setRow zf (uc (limN 4 nf))).setRow zh (uc (limN 4 ng))).setRow zj (uc (limN 4 nh))):=jbr (jbr (jbr (jbr zk ya (uc (limN 4 ne))) yb (uc (limN 4 nf))) yc (uc (limN 4 ng))) yd (uc (limN 4 nh));have zK:=hid (show ((((v1.setRow ze (uc (limN 4 ne))).setRow zf (uc (limN 4 nf))).setRow zh (uc (limN 4 ng))).setRow zj (uc (limN 4 nh))).heap[ze]?=some (.cells (uc (limN 4 ne)) 61) from by rw[jro _ _ _ _ z6];rw[jro _ _ _ _ z5];rw[jro _ _ _ _ z4];exact jsh _ ze _ (uc (limN 4 ne)) _ _ zy.out);have zL:=hid (show ((((v1.setRow ze (uc (limN 4 ne))).setRow zf (uc (limN 4 nf))).setRow zh (uc (limN 4 ng))).setRow zj (uc (limN 4 nh))).heap[zf]?=some (.cells (uc (limN 4 nf)) 61) from by rw[jro _ _ _ _ z8];rw[jro _ _ _ _ z7];exact jsh _ zf _ (uc (limN 4 nf)) _ _ zu.out)
      have zM:=hid (show ((((v1.setRow ze (uc (limN 4 ne))).setRow zf (uc (limN 4 nf))).setRow zh (uc (limN 4 ng))).setRow zj (uc (limN 4 nh))).heap[zh]?=some (.cells (uc (limN 4 ng)) 61) from by rw[jro _ _ _ _ z9];exact jsh _ zh _ (uc (limN 4 ng)) _ _ zv.out);have zN:=hid (show ((((v1.setRow ze (uc (limN 4 ne))).setRow zf (uc (limN 4 nf))).setRow zh (uc (limN 4 ng))).setRow zj (uc (limN 4 nh))).heap[zj]?=some (.cells (uc (limN 4 nh)) 61) from by exact jsh _ zj _ (uc (limN 4 nh)) _ _ zw.out);have zq:=hb.trans (hk.mono hB.out);have zp:=hid (HP.out.step hk);have zr:=hkp HQ hk;have zt:=hkp HX hk;have zs:=hkp HR hk;have z3:=hkp z1 hk;have zb:=hkp z2 hk;have zc:=hkp za hk;have zd:=hkp zg hk;have zn:=hkp zm hk;have zA:=hkp zl hk;have zo:=hid (jlt hB.out hk.size);have b_g11:=hid (jlt hB.out ya);have b_g12:=hid (jlt hB.out yb);have b_g13:=hid (jlt hB.out yc);have b_g14:=hid (jlt hB.out yd);clear HQ HX HR z1 z2 za zg zm zl zk zi hb HP hB hk ya yb yc yd z4 z5 z7 z6 z8 z9 yV yp zB
      go_wp2_with (first|(with_reducible refine jsr rfl 61 _ _ rfl ze (uc (limN 4 ne)) rfl rfl 61 _ zy.out (qal _) (qaw _) (qar _) ?_)|(with_reducible refine jsr rfl 61 _ _ rfl zf (uc (limN 4 nf)) rfl rfl 61 _ zu.out (qal _) (qaw _) (qar _) ?_)|(with_reducible refine jsr rfl 61 _ _ rfl zh (uc (limN 4 ng)) rfl rfl 61 _ zv.out (qal _) (qaw _) (qar _) ?_)|(with_reducible refine jsr rfl 61 _ _ rfl zj (uc (limN 4 nh)) rfl rfl 61 _ zw.out (qal _) (qaw _) (qar _) ?_));generalize (World.setRow (World.setRow (World.setRow (World.setRow _ _ _) _ _) _ _) _ _)=W9 at *;clear zy zG zH zI zu zv zw;have HQ:=zr;have HX:=zt;have HR:=zs;have z1:=z3;have z2:=zb;have za:=zc;have zg:=zd;have zm:=zn;have zl:=zA;have zC:=zK;have zD:=zL;have zE:=zM;have zF:=zN;have hb:=zq;have HP:=zp;have hB:=zo;clear zq zp zo zr zt zs z3 zb zc zd zn zA zK zL zM zN
      try simp only[Act.put]
      refine qao 13 81 [.val (.agg (uc (limN 4 ne))) [(11,.pointer (some ⟨ze,0,none⟩))],
   .val (.agg (uc (limN 4 nf))) [(12,.pointer (some ⟨zf,0,none⟩))],
   .val (.agg (uc (limN 4 nx))) [(68,.agg (uc (limN 4 ne))),(69,.agg (uc (limN 4 nf)))],
   .val (.agg (uc (limN 4 ng))) [(13,.pointer (some ⟨zh,0,none⟩))],
   .val (.agg (uc (limN 4 nh))) [(14,.pointer (some ⟨zj,0,none⟩))],
   .val (.agg (uc (limN 4 ny))) [(71,.agg (uc (limN 4 ng))),(72,.agg (uc (limN 4 nh)))],
   .val (.agg (uc (limN 4 nf))) [(12,.pointer (some ⟨zf,0,none⟩))],
   .val (.agg (uc (limN 4 ng))) [(13,.pointer (some ⟨zh,0,none⟩))],
   .val (.agg (uc (limN 4 nz))) [(74,.agg (uc (limN 4 nf))),(75,.agg (uc (limN 4 ng)))],
   .val (.agg (uc (limN 4 ne))) [(11,.pointer (some ⟨ze,0,none⟩))],
   .val (.agg (uc (limN 4 nh))) [(14,.pointer (some ⟨zj,0,none⟩))],
   .val (.agg (uc (limN 4 nt))) [(77,.agg (uc (limN 4 ne))),(78,.agg (uc (limN 4 nh)))],
   .val (.agg (uc (row4 nx ny nz nt))) [(70,.agg (uc (limN 4 nx))),(73,.agg (uc (limN 4 ny))),(76,.agg (uc (limN 4 nz))),(79,.agg (uc (limN 4 nt)))]] (by kernel_rfl) (by kernel_rfl) rfl ?_ ?_ ?_
      ·simp only[take_succ_cons,List.take_zero,qaO,qaP,HeadSpec.val,HeadSpec.fresh,and_true];refine⟨?_,?_,?_,?_,?_,?_,?_,?_,?_,?_,?_,?_,?_⟩
       ·intro z0 w hb h;exact qab 61 (.tmp 11) rfl (ze) (sd0 h) 61 _ (0,0) _ (hkq zC hb) underlying61 rfl (qal _)
       ·intro z0 w hb h;exact qab 61 (.tmp 12) rfl (zf) (sd0 h) 61 _ (0,0) _ (hkq zD hb) underlying61 rfl (qal _)
       ·intro z0 w hb h;simp[go_sem,rd0 h,rd1 h,qaa];exact yD.out w (HP.out.step hb)
       ·intro z0 w hb h;exact qab 61 (.tmp 13) rfl (zh) (sd0 h) 61 _ (0,0) _ (hkq zE hb) underlying61 rfl (qal _)
       ·intro z0 w hb h;exact qab 61 (.tmp 14) rfl (zj) (sd0 h) 61 _ (0,0) _ (hkq zF hb) underlying61 rfl (qal _)
       ·intro z0 w hb h;simp[go_sem,rd0 h,rd1 h,qaa];exact yE.out w (HP.out.step hb)
       ·intro z0 w hb h;exact qab 61 (.tmp 12) rfl (zf) (sd0 h) 61 _ (0,0) _ (hkq zD hb) underlying61 rfl (qal _)
       ·intro z0 w hb h;exact qab 61 (.tmp 13) rfl (zh) (sd0 h) 61 _ (0,0) _ (hkq zE hb) underlying61 rfl (qal _)
       ·intro z0 w hb h;simp[go_sem,rd0 h,rd1 h,qaa];exact yF.out w (HP.out.step hb)
       ·intro z0 w hb h;exact qab 61 (.tmp 11) rfl (ze) (sd0 h) 61 _ (0,0) _ (hkq zC hb) underlying61 rfl (qal _)
       ·intro z0 w hb h;exact qab 61 (.tmp 14) rfl (zj) (sd0 h) 61 _ (0,0) _ (hkq zF hb) underlying61 rfl (qal _)
       ·intro z0 w hb h;simp[go_sem,rd0 h,rd1 h,qaa];exact yC.out w (HP.out.step hb)
       ·intro z0 w hb h;exact qc6 (.tmp 70) (.tmp 73) (.tmp 76) (.tmp 79) rfl _ _ _ _ (sd0 h) (sd1 h) (sd2 h) (sd3 h)
      ·simp[qay,qax,qaK,HeadSpec.val,HeadSpec.fresh,Act.put]
      ·simp only[zks,qaN,HeadSpec.val,HeadSpec.fresh,Act.put,zkt];intro v1 zk zi;have HN:=hkp HR zk;have xe:=hid (jsh v1 (B+1+1) _ (uc (row4 nx ny nz nt)) _ _ HN.out);have xf:Below B w (v1.setRow (B+1+1) (uc (row4 nx ny nz nt))):=jbr (hb.trans (zk.mono hB.out)) (by omega) _;clear zi zk hb;go_wp2_with (with_reducible refine jsr rfl 103 _ _ rfl (B+1+1) (uc (row4 nx ny nz nt)) rfl rfl 103 _ HN.out (qcD _ (qa6 _ _ _ _)) (qaU _ (qa6 _ _ _ _)) (qar _) ?_);exact jpr (v:=.agg (uc (row4 nx ny nz nt))) (jrc (by rfl) _ _ (B+1+1) 103 _ (0,0) _ rfl xe.out underlying103 rfl (qcD _ (qa6 _ _ _ _))) rfl ⟨rfl,by rw[xd.out];exact xf⟩
theorem or1_any(a b n t1 t2 r:Nat)(w:World)(z9:a<pF)(zc:b<pF)(zd:n<pF)(hT:PrmQ w)
  (z0:subF b a=t1) (z1:mulF n t1=t2) (z7:addF a t2=r) :
  Rt 188 #[.agg (uc (limN 4 a)),.agg (uc (limN 4 b)),.agg (uc (limN 4 n))] w (.agg (uc (limN 4 r))):=by
 unfold Rt;have z5:t1<pF:=z0▸qbt _ _;have z6:t2<pF:=z1▸qaT _ _;have zm:r<pF:=z7▸qb7 _ _;have z3:=hid (fun (W:World) (hW:PrmQ W)=>qcA b a W zc z9 hW);rw[z0]at z3;have z4:=hid (fun (W:World) (hW:PrmQ W)=>qaS n t1 W zd z5);rw[z1]at z4;have za:=hid (fun (W:World) (hW:PrmQ W)=>qdb a t2 W z9 z6);rw[z7]at za;clear z0 z5 z1 z6 z7 zm z9 zc zd;obtain⟨hz,hi⟩:=jzi qbR;obtain⟨zk,zi⟩:=jzi qc3;obtain⟨zl,zj⟩:=jzi qch;have hb:=below_four w (.cells (uc (limN 4 a)) 61) (.cells (uc (limN 4 b)) 61) (.cells (uc (limN 4 n)) 61) (.cells zeros4 61);have HP:=hid (hT.step hb);have HA:=hid (qah (o:=.cells zeros4 61) (qah (o:=.cells (uc (limN 4 n)) 61) (qah (o:=.cells (uc (limN 4 b)) 61) (qad w (.cells (uc (limN 4 a)) 61)))));have HD:=hid (qah (o:=.cells zeros4 61) (qah (o:=.cells (uc (limN 4 n)) 61) (qaz w (.cells (uc (limN 4 a)) 61) (.cells (uc (limN 4 b)) 61))));have HC:=hid (qah (o:=.cells zeros4 61) (qby w (.cells (uc (limN 4 a)) 61) (.cells (uc (limN 4 b)) 61) (.cells (uc (limN 4 n)) 61)));have HR:=hid (blk_fourth w (.cells (uc (limN 4 a)) 61) (.cells (uc (limN 4 b)) 61) (.cells (uc (limN 4 n)) 61) (.cells zeros4 61));clear hi zi zj hT;go_enter func188,ntmps188;go_upto_region 1 with fail
 try clear zk
 try clear zl
 generalize ((((w.alloc _).alloc _).alloc _).alloc _)=W0 at *;have hB:=hid hb.size;generalize zb:w.heap.size=B at *;have ze:=hid zb;clear zb;refine qao 7 14 [.val (.agg (uc (limN 4 a))) [(3,.pointer (some ⟨B,0,none⟩))],
   .val (.agg (uc (limN 4 n))) [(5,.pointer (some ⟨B+1+1,0,none⟩))],
   .val (.agg (uc (limN 4 b))) [(4,.pointer (some ⟨B+1,0,none⟩))],
   .val (.agg (uc (limN 4 a))) [(3,.pointer (some ⟨B,0,none⟩))],
   .val (.agg (uc (limN 4 t1))) [(9,.agg (uc (limN 4 b))),(10,.agg (uc (limN 4 a)))],
   .val (.agg (uc (limN 4 t2))) [(8,.agg (uc (limN 4 n))),(11,.agg (uc (limN 4 t1)))],
   .val (.agg (uc (limN 4 r))) [(7,.agg (uc (limN 4 a))),(12,.agg (uc (limN 4 t2)))]] (by kernel_rfl) (by kernel_rfl) rfl ?_ ?_ ?_
 ·simp only[take_succ_cons,List.take_zero,qaO,qaP,HeadSpec.val,HeadSpec.fresh,and_true];refine⟨?_,?_,?_,?_,?_,?_,?_⟩
  ·intro z2 w hb h;exact qab 61 (.tmp 3) rfl (B) (sd0 h) 61 _ (0,0) _ (hkq HA hb) underlying61 rfl (qal _)
  ·intro z2 w hb h;exact qab 61 (.tmp 5) rfl (B+1+1) (sd0 h) 61 _ (0,0) _ (hkq HC hb) underlying61 rfl (qal _)
  ·intro z2 w hb h;exact qab 61 (.tmp 4) rfl (B+1) (sd0 h) 61 _ (0,0) _ (hkq HD hb) underlying61 rfl (qal _)
  ·intro z2 w hb h;exact qab 61 (.tmp 3) rfl (B) (sd0 h) 61 _ (0,0) _ (hkq HA hb) underlying61 rfl (qal _)
  ·intro z2 w hb h;simp[go_sem,rd0 h,rd1 h,qaa];exact z3.out w (HP.out.step hb)
  ·intro z2 w hb h;simp[go_sem,rd0 h,rd1 h,qaa];exact z4.out w (HP.out.step hb)
  ·intro z2 w hb h;simp[go_sem,rd0 h,rd1 h,qaa];exact za.out w (HP.out.step hb)
 ·simp[qay,qax,qaK,HeadSpec.val,HeadSpec.fresh,Act.put]
 ·simp only[zks,qaN,HeadSpec.val,HeadSpec.fresh,Act.put,zkt];intro v1 z8 zh;have HN:=hkp HR z8;have zf:=hid (jsh v1 (B+1+1+1) _ (uc (limN 4 r)) _ _ HN.out);have zg:Below B w (v1.setRow (B+1+1+1) (uc (limN 4 r))):=jbr (hb.trans (z8.mono hB.out)) (by omega) _;clear zh z8 hb;go_wp2_with (with_reducible refine jsr rfl 61 _ _ rfl (B+1+1+1) (uc (limN 4 r)) rfl rfl 61 _ HN.out (qal _) (qaw _) (qar _) ?_);exact jpr (v:=.agg (uc (limN 4 r))) (jrc (by rfl) _ _ (B+1+1+1) 61 _ (0,0) _ rfl zf.out underlying61 rfl (qal _)) rfl ⟨rfl,by rw[ze.out];exact zg⟩
def selF(n a b:Nat):Nat:=if n=1 then b else a
theorem sel_eq(n a b:Nat)(hn:n=0∨n=1)(ha:a<pF)(hb:b<pF):addF a (mulF n (subF b a))=selF n a b:=by
 unfold selF;rcases hn with rfl|rfl
 ·rw[if_neg (by decide),mulF,Nat.zero_mul,Nat.zero_mod,addF,Nat.add_zero,Nat.mod_eq_of_lt ha]
 ·rw[if_pos rfl,mulF,Nat.one_mul,Nat.mod_eq_of_lt (qbt _ _),addF_comm,add_sub b a hb ha]
theorem or_any(a b n r:Nat)(w:World)(z0:a<pF)(z1:b<pF)(hn:n=0∨n=1)(hT:PrmQ w)(e:selF n a b=r):Calls Tryz.prog 188 #[.agg (uc (limN 4 a)),.agg (uc (limN 4 b)),.agg (uc (limN 4 n))] w fun e w'=>e=.returned (.agg (uc (limN 4 r)))∧Below w.heap.size w w':=
 or1_any a b n _ _ r w z0 z1 (by rcases hn with rfl|rfl<;>decide) hT rfl rfl (by rw[sel_eq n a b hn z0 z1,e])
theorem or4_any(a b c d aa bb cc dd n ra rb rc rd:Nat)(w:World)(zf:a<pF)(z1:aa<pF)(zg:b<pF)(z2:bb<pF)(zh:c<pF)(z3:cc<pF)(zi:d<pF)(z4:dd<pF)(hn:n=0∨n=1)(hT:PrmQ w)
  (za:selF n a aa=ra) (zb:selF n b bb=rb) (zc:selF n c cc=rc) (zd:selF n d dd=rd) :
  Rt 134 #[.agg (uc (row4 a b c d)),.agg (uc (row4 aa bb cc dd)),.agg (uc (limN 4 n))] w (.agg (uc (row4 ra rb rc rd))):=by
 unfold Rt;have z5:=hid (fun (W:World) (hW:PrmQ W)=>or_any a aa n ra W zf z1 hn hW za);have z6:=hid (fun (W:World) (hW:PrmQ W)=>or_any b bb n rb W zg z2 hn hW zb);have z7:=hid (fun (W:World) (hW:PrmQ W)=>or_any c cc n rc W zh z3 hn hW zc);have z8:=hid (fun (W:World) (hW:PrmQ W)=>or_any d dd n rd W zi z4 hn hW zd)
 clear hn zf z1 za zg z2 zb zh z3 zc zi z4 zd;obtain⟨hz,hi⟩:=jzi qbR;obtain⟨zp,zn⟩:=jzi qc3;obtain⟨zq,zo⟩:=jzi qch;have hb:=below_four w (.cells (uc (row4 a b c d)) 103) (.cells (uc (row4 aa bb cc dd)) 103) (.cells (uc (limN 4 n)) 61) (.cells zrow4 103);have HP:=hid (hT.step hb);have HQ:=hid (qah (o:=.cells zrow4 103) (qah (o:=.cells (uc (limN 4 n)) 61) (qah (o:=.cells (uc (row4 aa bb cc dd)) 103) (qad w (.cells (uc (row4 a b c d)) 103)))));have HX:=hid (qah (o:=.cells zrow4 103) (qah (o:=.cells (uc (limN 4 n)) 61) (qaz w (.cells (uc (row4 a b c d)) 103) (.cells (uc (row4 aa bb cc dd)) 103))));have HC:=hid (qah (o:=.cells zrow4 103) (qby w (.cells (uc (row4 a b c d)) 103) (.cells (uc (row4 aa bb cc dd)) 103) (.cells (uc (limN 4 n)) 61)));have HR:=hid (blk_fourth w (.cells (uc (row4 a b c d)) 103) (.cells (uc (row4 aa bb cc dd)) 103) (.cells (uc (limN 4 n)) 61) (.cells zrow4 103));clear hi zn zo hT;go_enter func134,ntmps134;go_upto_region 1 with fail
 try clear zp
 try clear zq
 generalize ((((w.alloc _).alloc _).alloc _).alloc _)=W0 at *;have hB:=hid hb.size;generalize ze:w.heap.size=B at *;have zj:=hid ze;clear ze;refine qao 25 32 [.val (.pointer (some ⟨B,0,none⟩)) [(3,.pointer (some ⟨B,0,none⟩))],
   .val (.agg (uc (limN 4 a))) [(7,.pointer (some ⟨B,0,none⟩))],
   .val (.pointer (some ⟨B+1,0,none⟩)) [(4,.pointer (some ⟨B+1,0,none⟩))],
   .val (.agg (uc (limN 4 aa))) [(9,.pointer (some ⟨B+1,0,none⟩))],
   .val (.agg (uc (limN 4 n))) [(5,.pointer (some ⟨B+1+1,0,none⟩))],
   .val (.agg (uc (limN 4 ra))) [(8,.agg (uc (limN 4 a))),(10,.agg (uc (limN 4 aa))),(11,.agg (uc (limN 4 n)))],
   .val (.pointer (some ⟨B,4,none⟩)) [(3,.pointer (some ⟨B,0,none⟩))],
   .val (.agg (uc (limN 4 b))) [(13,.pointer (some ⟨B,4,none⟩))],
   .val (.pointer (some ⟨B+1,4,none⟩)) [(4,.pointer (some ⟨B+1,0,none⟩))],
   .val (.agg (uc (limN 4 bb))) [(15,.pointer (some ⟨B+1,4,none⟩))],
   .val (.agg (uc (limN 4 n))) [(5,.pointer (some ⟨B+1+1,0,none⟩))],
   .val (.agg (uc (limN 4 rb))) [(14,.agg (uc (limN 4 b))),(16,.agg (uc (limN 4 bb))),(17,.agg (uc (limN 4 n)))],
   .val (.pointer (some ⟨B,8,none⟩)) [(3,.pointer (some ⟨B,0,none⟩))],
   .val (.agg (uc (limN 4 c))) [(19,.pointer (some ⟨B,8,none⟩))],
   .val (.pointer (some ⟨B+1,8,none⟩)) [(4,.pointer (some ⟨B+1,0,none⟩))],
   .val (.agg (uc (limN 4 cc))) [(21,.pointer (some ⟨B+1,8,none⟩))],
   .val (.agg (uc (limN 4 n))) [(5,.pointer (some ⟨B+1+1,0,none⟩))],
   .val (.agg (uc (limN 4 rc))) [(20,.agg (uc (limN 4 c))),(22,.agg (uc (limN 4 cc))),(23,.agg (uc (limN 4 n)))],
   .val (.pointer (some ⟨B,12,none⟩)) [(3,.pointer (some ⟨B,0,none⟩))],
   .val (.agg (uc (limN 4 d))) [(25,.pointer (some ⟨B,12,none⟩))],
   .val (.pointer (some ⟨B+1,12,none⟩)) [(4,.pointer (some ⟨B+1,0,none⟩))],
   .val (.agg (uc (limN 4 dd))) [(27,.pointer (some ⟨B+1,12,none⟩))],
   .val (.agg (uc (limN 4 n))) [(5,.pointer (some ⟨B+1+1,0,none⟩))],
   .val (.agg (uc (limN 4 rd))) [(26,.agg (uc (limN 4 d))),(28,.agg (uc (limN 4 dd))),(29,.agg (uc (limN 4 n)))],
   .val (.agg (uc (row4 ra rb rc rd))) [(12,.agg (uc (limN 4 ra))),(18,.agg (uc (limN 4 rb))),(24,.agg (uc (limN 4 rc))),(30,.agg (uc (limN 4 rd)))]] (by kernel_rfl) (by kernel_rfl) rfl ?_ ?_ ?_
 ·simp only[take_succ_cons,List.take_zero,qaO,qaP,HeadSpec.val,HeadSpec.fresh,and_true];refine⟨?_,?_,?_,?_,?_,?_,?_,?_,?_,?_,?_,?_,?_,?_,?_,?_,?_,?_,?_,?_,?_,?_,?_,?_,?_⟩
  ·intro z0 w hb h;simp[go_sem,rd0 h,qaa]
  ·intro z0 w hb h;exact qat (.tmp 7) rfl (B) 0 (sd0 h) 103 _ _ (0,0) (hkq HQ hb) (qae _ _) (qec _ _ _ _)
  ·intro z0 w hb h;simp[go_sem,rd0 h,qaa]
  ·intro z0 w hb h;exact qat (.tmp 9) rfl (B+1) 0 (sd0 h) 103 _ _ (0,0) (hkq HX hb) (qae _ _) (qec _ _ _ _)
  ·intro z0 w hb h;exact qab 61 (.tmp 5) rfl (B+1+1) (sd0 h) 61 _ (0,0) _ (hkq HC hb) underlying61 rfl (qal _)
  ·intro z0 w hb h;simp[go_sem,rd0 h,rd1 h,rd2 h,qaa];exact z5.out w (HP.out.step hb)
  ·intro z0 w hb h;simp[go_sem,rd0 h,qaa]
  ·intro z0 w hb h;exact qat (.tmp 13) rfl (B) 4 (sd0 h) 103 _ _ (0,0) (hkq HQ hb) (qae _ _) (qed _ _ _ _)
  ·intro z0 w hb h;simp[go_sem,rd0 h,qaa]
  ·intro z0 w hb h;exact qat (.tmp 15) rfl (B+1) 4 (sd0 h) 103 _ _ (0,0) (hkq HX hb) (qae _ _) (qed _ _ _ _)
  ·intro z0 w hb h;exact qab 61 (.tmp 5) rfl (B+1+1) (sd0 h) 61 _ (0,0) _ (hkq HC hb) underlying61 rfl (qal _)
  ·intro z0 w hb h;simp[go_sem,rd0 h,rd1 h,rd2 h,qaa];exact z6.out w (HP.out.step hb)
  ·intro z0 w hb h;simp[go_sem,rd0 h,qaa]
  ·intro z0 w hb h;exact qat (.tmp 19) rfl (B) 8 (sd0 h) 103 _ _ (0,0) (hkq HQ hb) (qae _ _) (qeN _ _ _ _)
  ·intro z0 w hb h;simp[go_sem,rd0 h,qaa]
  ·intro z0 w hb h;exact qat (.tmp 21) rfl (B+1) 8 (sd0 h) 103 _ _ (0,0) (hkq HX hb) (qae _ _) (qeN _ _ _ _)
  ·intro z0 w hb h;exact qab 61 (.tmp 5) rfl (B+1+1) (sd0 h) 61 _ (0,0) _ (hkq HC hb) underlying61 rfl (qal _)
  ·intro z0 w hb h;simp[go_sem,rd0 h,rd1 h,rd2 h,qaa];exact z7.out w (HP.out.step hb)
  ·intro z0 w hb h;simp[go_sem,rd0 h,qaa]
  ·intro z0 w hb h;exact qat (.tmp 25) rfl (B) 12 (sd0 h) 103 _ _ (0,0) (hkq HQ hb) (qae _ _) (qf0 _ _ _ _)
  ·intro z0 w hb h;simp[go_sem,rd0 h,qaa]
  ·intro z0 w hb h;exact qat (.tmp 27) rfl (B+1) 12 (sd0 h) 103 _ _ (0,0) (hkq HX hb) (qae _ _) (qf0 _ _ _ _)
  ·intro z0 w hb h;exact qab 61 (.tmp 5) rfl (B+1+1) (sd0 h) 61 _ (0,0) _ (hkq HC hb) underlying61 rfl (qal _)
  ·intro z0 w hb h;simp[go_sem,rd0 h,rd1 h,rd2 h,qaa];exact z8.out w (HP.out.step hb)
  ·intro z0 w hb h;exact qc6 (.tmp 12) (.tmp 18) (.tmp 24) (.tmp 30) rfl _ _ _ _ (sd0 h) (sd1 h) (sd2 h) (sd3 h)
 ·simp[qay,qax,qaK,HeadSpec.val,HeadSpec.fresh,Act.put]
 ·simp only[zks,qaN,HeadSpec.val,HeadSpec.fresh,Act.put,zkt];intro v1 z9 zm;have HN:=hkp HR z9;have zk:=hid (jsh v1 (B+1+1+1) _ (uc (row4 ra rb rc rd)) _ _ HN.out);have zl:Below B w (v1.setRow (B+1+1+1) (uc (row4 ra rb rc rd))):=jbr (hb.trans (z9.mono hB.out)) (by omega) _;clear zm z9 hb;go_wp2_with (with_reducible refine jsr rfl 103 _ _ rfl (B+1+1+1) (uc (row4 ra rb rc rd)) rfl rfl 103 _ HN.out (qcD _ (qa6 _ _ _ _)) (qaU _ (qa6 _ _ _ _)) (qar _) ?_);exact jpr (v:=.agg (uc (row4 ra rb rc rd))) (jrc (by rfl) _ _ (B+1+1+1) 103 _ (0,0) _ rfl zk.out underlying103 rfl (qcD _ (qa6 _ _ _ _))) rfl ⟨rfl,by rw[zj.out];exact zl⟩
theorem qd9(p:PtN)(w:World)(hp:p.Ok)(hT:PrmQ w):Calls Tryz.prog 96 #[.agg (uc (ptL p))] w fun e w'=>e=.returned (.agg (uc (numL p)))∧Below w.heap.size w w':=
 numbersL_any p.x (subF p.y 1) (subF p.z 1) p.t p.y p.z w (qbt _ _) (qbt _ _) hT (add_sub _ _ hp.2.1 (by decide)) (add_sub _ _ hp.2.2.1 (by decide))
theorem point_any(p:PtN)(w:World)(hp:p.Ok)(hT:PrmQ w):Calls Tryz.prog 132 #[.agg (uc (numL p))] w fun e w'=>e=.returned (.agg (uc (ptL p)))∧Below w.heap.size w w':=
 pointL_any p.x p.y p.z p.t _ _ w hp.2.1 hp.2.2.1 hT rfl rfl
theorem fac_two:addF facF facF=twoF:=by rw[addF_two,mulF_comm];rfl
theorem sum_any(p q:PtN)(w:World)(hp:p.Ok)(hq:q.Ok)(hT:PrmQ w):Calls Tryz.prog 133 #[.agg (uc (numL p)),.agg (uc (numL q))] w fun e w'=>e=.returned (.agg (uc (numL (sumP p q))))∧Below w.heap.size w w':=
 sumL_any p.x p.y p.z p.t q.x q.y q.z q.t facF _ _ _ _ _ _ twoF _ _ _ _ _ _ _ _ _ _ _ _ w hp.1 hp.2.1 hp.2.2.1 hp.2.2.2 hq.1 hq.2.1 hq.2.2.1 hq.2.2.2 rfl hT rfl rfl rfl rfl rfl rfl fac_two rfl rfl rfl rfl rfl rfl rfl rfl rfl rfl rfl rfl
theorem or_pt_any(p q:PtN)(n:Nat)(w:World)(hp:p.Ok)(hq:q.Ok)(hn:n=0∨n=1)(hT:PrmQ w):Rt 134 #[.agg (uc (numL p)),.agg (uc (numL q)),.agg (uc (limN 4 n))] w (.agg (uc (numL (if n=1 then q else p)))):=by
 unfold Rt;refine or4_any p.x p.y p.z p.t q.x q.y q.z q.t n _ _ _ _ w hp.1 hq.1 hp.2.1 hq.2.1 hp.2.2.1 hq.2.2.1 hp.2.2.2 hq.2.2.2 hn hT ?_ ?_ ?_ ?_<;>(unfold selF;split<;>rfl)
theorem qfH(w:World):Rt 126 #[] w (.agg (uc (ptL zeroP))):=by
 unfold Rt;obtain⟨hzp,z0⟩:=jzi qch;have HR:=hid (qad w (.cells zrow4 63));have hb:=qaf w (.cells zrow4 63);rw[ptL_zero];have HI:=hid (qaR (row4 0 0 0 0) (qa6 _ _ _ _));have HZ:=hid (qaU (row4 0 0 0 0) (qa6 _ _ _ _));have HB:=hid (fun (ops:Array Oper) (rest:List Oper) (o:Oper) (a:Act) (W:World) (Q:Exit→Act→World→Prop)=>wpList_build_point0 (ops:=ops) (rest:=rest) (o:=o) (a:=a) (w:=W) (Q:=Q));generalize row4 0 0 0 0=l at *;clear z0;go_enter func126,ntmps126;go_wp2_with (first
  | (with_reducible refine HB.out _ _ _ _ _ _ rfl rfl ?_)
  | (with_reducible refine jsr rfl 63 _ _ rfl w.heap.size (uc l) rfl rfl 63 _ HR.out HI.out HZ.out (qar _) ?_))
 exact jpr (v:=.agg (uc l)) (jrc (by rfl) _ _ w.heap.size 63 _ (0,0) _ rfl (jsh _ _ _ _ _ _ HR.out) underlying63 rfl HI.out) rfl ⟨rfl,jbr hb (jlr _) _⟩
theorem ptAdd_any(p q:PtN)(w:World)(hp:p.Ok)(hq:q.Ok)(hT:PrmQ w):Rt 75 #[.agg (uc (ptL p)),.agg (uc (ptL q))] w (.agg (uc (ptL (sumP p q)))):=by
 unfold Rt;have z3:=hid (fun (W:World) (hW:PrmQ W)=>qd9 p W hp hW);have z4:=hid (fun (W:World) (hW:PrmQ W)=>qd9 q W hq hW);have z5:=hid (fun (W:World) (hW:PrmQ W)=>sum_any p q W hp hq hW);have z6:=hid (fun (W:World) (hW:PrmQ W)=>point_any (sumP p q) W (qfc p q) hW);have lp:=qas p;have lq:=qas q;have lr:=qas (sumP p q);generalize ptL (sumP p q)=r at *;generalize numL (sumP p q)=nr at *;generalize ptL p=p1 at *;generalize ptL q=q1 at *;generalize numL p=np at *;generalize numL q=nq at *;have Lp:=hid lp;have Lq:=hid lq;have Lr:=hid lr;clear hp hq lp lq lr;obtain⟨hz,hi⟩:=jzi qbR;obtain⟨zd,zb⟩:=jzi qc3;obtain⟨ze,zc⟩:=jzi qch;have hb:=qbd w (.cells (uc p1) 63) (.cells (uc q1) 63) (.cells zrow4 63);have HP:=hid (hT.step hb);have HQ:=hid (qah (o:=.cells zrow4 63) (qah (o:=.cells (uc q1) 63) (qad w (.cells (uc p1) 63))));have HX:=hid (qah (o:=.cells zrow4 63) (qaz w (.cells (uc p1) 63) (.cells (uc q1) 63)));have HR:=hid (qby w (.cells (uc p1) 63) (.cells (uc q1) 63) (.cells zrow4 63));clear hi zb zc hT;go_enter func75,ntmps75;go_upto_region 1 with fail
 try clear zd
 try clear ze
 generalize (((w.alloc _).alloc _).alloc _)=W0 at *;have hB:=hid hb.size;generalize z2:w.heap.size=B at *;have z7:=hid z2;clear z2;refine qao 6 11 [.val (.agg (uc p1)) [(2,.pointer (some ⟨B,0,none⟩))],
   .val (.agg (uc np)) [(5,.agg (uc p1))],
   .val (.agg (uc q1)) [(3,.pointer (some ⟨B+1,0,none⟩))],
   .val (.agg (uc nq)) [(7,.agg (uc q1))],
   .val (.agg (uc nr)) [(6,.agg (uc np)),(8,.agg (uc nq))],
   .val (.agg (uc r)) [(9,.agg (uc nr))]] (by kernel_rfl) (by kernel_rfl) rfl ?_ ?_ ?_
 ·simp only[take_succ_cons,List.take_zero,qaO,qaP,HeadSpec.val,HeadSpec.fresh,and_true];refine⟨?_,?_,?_,?_,?_,?_⟩
  ·intro z0 w hb h;exact qab 63 (.tmp 2) rfl (B) (sd0 h) 63 _ (0,0) _ (hkq HQ hb) underlying63 rfl (qaR _ Lp.out)
  ·intro z0 w hb h;simp[go_sem,rd0 h,qaa];exact z3.out w (HP.out.step hb)
  ·intro z0 w hb h;exact qab 63 (.tmp 3) rfl (B+1) (sd0 h) 63 _ (0,0) _ (hkq HX hb) underlying63 rfl (qaR _ Lq.out)
  ·intro z0 w hb h;simp[go_sem,rd0 h,qaa];exact z4.out w (HP.out.step hb)
  ·intro z0 w hb h;simp[go_sem,rd0 h,rd1 h,qaa];exact z5.out w (HP.out.step hb)
  ·intro z0 w hb h;simp[go_sem,rd0 h,qaa];exact z6.out w (HP.out.step hb)
 ·simp[qay,qax,qaK,HeadSpec.val,HeadSpec.fresh,Act.put]
 ·simp only[zks,qaN,HeadSpec.val,HeadSpec.fresh,Act.put,zkt];intro v1 z1 za;have HN:=hkp HR z1;have z8:=hid (jsh v1 (B+1+1) _ (uc r) _ _ HN.out);have z9:Below B w (v1.setRow (B+1+1) (uc r)):=jbr (hb.trans (z1.mono hB.out)) (by omega) _;clear za z1 hb;go_wp2_with (with_reducible refine jsr rfl 63 _ _ rfl (B+1+1) (uc r) rfl rfl 63 _ HN.out (qaR _ Lr.out) (qaU _ Lr.out) (qar _) ?_);exact jpr (v:=.agg (uc r)) (jrc (by rfl) _ _ (B+1+1) 63 _ (0,0) _ rfl z8.out underlying63 rfl (qaR _ Lr.out)) rfl ⟨rfl,by rw[z7.out];exact z9⟩
theorem negL_any(a b c d na nd:Nat)(w:World)(z9:a<pF)(za:d<pF)(hT:PrmQ w)
  (z1:subF 0 a=na) (z2:subF 0 d=nd) :
  Rt 76 #[.agg (uc (row4 a b c d))] w (.agg (uc (row4 na b c nd))):=by
 unfold Rt;have z6:na<pF:=z1▸qbt _ _;have z7:nd<pF:=z2▸qbt _ _;have z3:=hid (fun (W:World) (hW:PrmQ W)=>qcA 0 a W (by decide) z9 hW);rw[z1]at z3;have z4:=hid (fun (W:World) (hW:PrmQ W)=>qcA 0 d W (by decide) za hW);rw[z2]at z4;clear z1 z6 z2 z7 z9 za;obtain⟨hz,hi⟩:=jzi qbR;obtain⟨zh,zf⟩:=jzi qc3;obtain⟨zi,zg⟩:=jzi qch;have hb:=qaL w (.cells (uc (row4 a b c d)) 63) (.cells zrow4 63);have HP:=hid (hT.step hb);have HQ:=hid (qah (o:=.cells zrow4 63) (qad w (.cells (uc (row4 a b c d)) 63)));have HR:=hid (qaz w (.cells (uc (row4 a b c d)) 63) (.cells zrow4 63));clear hi zf zg hT;go_enter func76,ntmps76;go_upto_region 1 with fail
 try clear zh
 try clear zi
 generalize ((w.alloc _).alloc _)=W0 at *;have hB:=hid hb.size;generalize z8:w.heap.size=B at *;have zb:=hid z8;clear z8;refine qao 13 16 [.val (.agg (uc (limN 4 0))) [],
   .val (.pointer (some ⟨B,0,none⟩)) [(1,.pointer (some ⟨B,0,none⟩))],
   .val (.agg (uc (limN 4 a))) [(4,.pointer (some ⟨B,0,none⟩))],
   .val (.agg (uc (limN 4 na))) [(3,.agg (uc (limN 4 0))),(5,.agg (uc (limN 4 a)))],
   .val (.pointer (some ⟨B,4,none⟩)) [(1,.pointer (some ⟨B,0,none⟩))],
   .val (.agg (uc (limN 4 b))) [(7,.pointer (some ⟨B,4,none⟩))],
   .val (.pointer (some ⟨B,8,none⟩)) [(1,.pointer (some ⟨B,0,none⟩))],
   .val (.agg (uc (limN 4 c))) [(9,.pointer (some ⟨B,8,none⟩))],
   .val (.agg (uc (limN 4 0))) [],
   .val (.pointer (some ⟨B,12,none⟩)) [(1,.pointer (some ⟨B,0,none⟩))],
   .val (.agg (uc (limN 4 d))) [(12,.pointer (some ⟨B,12,none⟩))],
   .val (.agg (uc (limN 4 nd))) [(11,.agg (uc (limN 4 0))),(13,.agg (uc (limN 4 d)))],
   .val (.agg (uc (row4 na b c nd))) [(6,.agg (uc (limN 4 na))),(8,.agg (uc (limN 4 b))),(10,.agg (uc (limN 4 c))),(14,.agg (uc (limN 4 nd)))]] (by kernel_rfl) (by kernel_rfl) rfl ?_ ?_ ?_
 ·simp only[take_succ_cons,List.take_zero,qaO,qaP,HeadSpec.val,HeadSpec.fresh,and_true];refine⟨?_,?_,?_,?_,?_,?_,?_,?_,?_,?_,?_,?_,?_⟩
  ·intro z0 w hb h;exact sQuiet_num0 rfl
  ·intro z0 w hb h;simp[go_sem,rd0 h,qaa]
  ·intro z0 w hb h;exact qat (.tmp 4) rfl (B) 0 (sd0 h) 63 _ _ (0,0) (hkq HQ hb) (qae _ _) (qec _ _ _ _)
  ·intro z0 w hb h;simp[go_sem,rd0 h,rd1 h,qaa];exact z3.out w (HP.out.step hb)
  ·intro z0 w hb h;simp[go_sem,rd0 h,qaa]
  ·intro z0 w hb h;exact qat (.tmp 7) rfl (B) 4 (sd0 h) 63 _ _ (0,0) (hkq HQ hb) (qae _ _) (qed _ _ _ _)
  ·intro z0 w hb h;simp[go_sem,rd0 h,qaa]
  ·intro z0 w hb h;exact qat (.tmp 9) rfl (B) 8 (sd0 h) 63 _ _ (0,0) (hkq HQ hb) (qae _ _) (qeN _ _ _ _)
  ·intro z0 w hb h;exact sQuiet_num0 rfl
  ·intro z0 w hb h;simp[go_sem,rd0 h,qaa]
  ·intro z0 w hb h;exact qat (.tmp 12) rfl (B) 12 (sd0 h) 63 _ _ (0,0) (hkq HQ hb) (qae _ _) (qf0 _ _ _ _)
  ·intro z0 w hb h;simp[go_sem,rd0 h,rd1 h,qaa];exact z4.out w (HP.out.step hb)
  ·intro z0 w hb h;exact qeX (.tmp 6) (.tmp 8) (.tmp 10) (.tmp 14) rfl _ _ _ _ (sd0 h) (sd1 h) (sd2 h) (sd3 h)
 ·simp[qay,qax,qaK,HeadSpec.val,HeadSpec.fresh,Act.put]
 ·simp only[zks,qaN,HeadSpec.val,HeadSpec.fresh,Act.put,zkt];intro v1 z5 ze;have HN:=hkp HR z5;have zc:=hid (jsh v1 (B+1) _ (uc (row4 na b c nd)) _ _ HN.out);have zd:Below B w (v1.setRow (B+1) (uc (row4 na b c nd))):=jbr (hb.trans (z5.mono hB.out)) (by omega) _;clear ze z5 hb;go_wp2_with (with_reducible refine jsr rfl 63 _ _ rfl (B+1) (uc (row4 na b c nd)) rfl rfl 63 _ HN.out (qaR _ (qa6 _ _ _ _)) (qaU _ (qa6 _ _ _ _)) (qar _) ?_);exact jpr (v:=.agg (uc (row4 na b c nd))) (jrc (by rfl) _ _ (B+1) 63 _ (0,0) _ rfl zc.out underlying63 rfl (qaR _ (qa6 _ _ _ _))) rfl ⟨rfl,by rw[zb.out];exact zd⟩
theorem ptNeg_any(p:PtN)(w:World)(hp:p.Ok)(hT:PrmQ w):Calls Tryz.prog 76 #[.agg (uc (ptL p))] w fun e w'=>e=.returned (.agg (uc (ptL (negP p))))∧Below w.heap.size w w':=
 negL_any p.x (subF p.y 1) (subF p.z 1) p.t _ _ w hp.1 hp.2.2.2 hT rfl rfl
theorem and_one8(y:Nat)(h:y<256):bits .and .u8 (y:Int) 1=((y%2:Nat):Int):=by
 have e:(UInt8.ofNat y).toNat=y:=by simp;omega
 have h1:=byte_and (UInt8.ofNat y) 1;rw[e,UInt8.toNat_and,e]at h1;rw[show (((1:UInt8).toNat:Nat):Int)=1 from rfl]at h1;rw[h1,show (1:UInt8).toNat=1 from rfl,Nat.and_one_is_mod]
theorem bit_and(l:List UInt8)(i:Nat):bits .and .u8 (((l.getD (i/8) 0).toNat:Int)/2^(i%8)) 1=(bitP l i:Int):=by
 have h:=(l.getD (i/8) 0).toNat_lt;have e:((l.getD (i/8) 0).toNat:Int)/2^(i%8)=(((l.getD (i/8) 0).toNat/2^(i%8):Nat):Int):=by simp
 rw[e];have h2:(l.getD (i/8) 0).toNat/2^(i%8)<256:=Nat.lt_of_le_of_lt (Nat.div_le_self _ _) h;rw[show bitP l i=(l.getD (i/8) 0).toNat/2^(i%8)%2 from rfl];exact and_one8 _ h2
theorem ptBit_any(s:ByteArray)(n:Nat)(w:World)(hs:s.size=32)(hn:n<256):Rt 129 #[.string s,.int .i64 (n:Int)] w (.int .i64 ((bitP s.data.toList n:Nat):Int)):=by
 unfold Rt;have z0:=bit_and s.data.toList n;have z2:n/8<s.size:=by omega
 have z1:=qc1 s (n/8) z2;rw[z1]at z0;have f1:((n:Int)/8).toNat=n/8:=by omega
 have f2:((n:Int)%8).toNat=n%8:=by omega
 have hwr:IntKind.i64.wrap ((bitP s.data.toList n:Nat):Int)=((bitP s.data.toList n:Nat):Int):=by rcases bitP_two s.data.toList n with h|h<;>rw[h]<;>rfl
 generalize bitP s.data.toList n=b at *;go_enter func129,ntmps129;go_wp2_with fail;go_ret;exact⟨rfl,Below.refl _ _⟩
theorem without_top(x:UInt8):bits .andNot .u8 (x.toNat:Int) 128=((x &&& 127).toNat:Int):=by
 show IntKind.u8.wrap ((BitVec.ofInt 8 (x.toNat:Int) &&& ~~~BitVec.ofInt 8 128).toNat:Nat)=_;have hx:BitVec.ofInt 8 (x.toNat:Int)=x.toBitVec:=by apply BitVec.eq_of_toNat_eq;simp
 rw[hx];have h:=(x &&& 127).toNat_lt;have e:(x.toBitVec &&& ~~~BitVec.ofInt 8 128).toNat=(x &&& 127).toNat:=rfl;rw[e,IntKind.wrap_u8];omega
theorem low_set(l:List UInt8)(h:l.length=32):l.set 31 (l.getD 31 0 &&& 127)=lowL l:=by
 have hb:∀ x:UInt8,x &&& 127=UInt8.ofNat (x.toNat%128):=fun x=>by
  apply UInt8.toNat_inj.1;rw[UInt8.toNat_and,UInt8.toNat_ofNat',show (127:UInt8).toNat=2^7-1 from rfl,Nat.and_two_pow_sub_one_eq_mod];omega
 rw[lowL,hb,List.set_eq_take_append_cons_drop,if_pos (by omega),List.drop_of_length_le (by omega)]
theorem txt_eq(a b:List UInt8):((⟨a.toArray⟩:ByteArray).toList==(⟨b.toArray⟩:ByteArray).toList)=(a==b):=by
 rw[ByteArray.toList_eq,ByteArray.toList_eq]
theorem heightOf_any(s:ByteArray)(w:World)(hs:s.size=32):Rt 127 #[.string s] w (.tuple #[.agg (uc (limN 4 (lowP s.data.toList%pF))),.bool (decide (lowP s.data.toList<pF))]):=by
 unfold Rt;obtain⟨hz,hi⟩:=jzi qbR;have hl:s.data.toList.length=32:=by rw[← Lib.size_eq];exact hs
 have zg:=qad w (.cells zeros4 61);have zj:=qaf w (.cells zeros4 61);have zo:(w.alloc (.cells zeros4 61)).heap.size=w.heap.size+1:=by simp
 obtain⟨z1,za,z2,z8⟩:=qgG s (w.alloc (.cells zeros4 61));rw[zo]at za z2 z8;rw[hs]at za;have z4:=qap z8 (by omega) zg;have zk:Below w.heap.size w _:=zj.trans (z8.mono (by omega));clear z8 zj zg zo hi;generalize Lib.bytesWorld _ _ _=V1 at *;generalize s.data.toList=l at *;have z5:=lowL_length l hl;have zn:=low_set l hl;have z6:=hid (fun W=>of_any (⟨(lowL l).toArray⟩:ByteArray) W (by show (lowL l).toArray.size=32;simp[z5]));have z6:Hid (∀ W,Calls Tryz.prog 183 #[.string (⟨(lowL l).toArray⟩:ByteArray)] W fun e w'=>e=.returned (.tuple #[.agg (uc (limN 4 (leV (lowL l) 32%pF))),.int .i64 0])∧Below W.heap.size W w'):=z6;have hn:=nV_leV (lowL l);rw[z5]at hn;rw[hn]at z6;have zr:=hid ((txt_eq (leF (nV (lowL l)%pF) 32) (lowL l)).trans (low_same (lowL l) pF z5 qdx (by decide)));have CB:=hid (fun W=>qfC (nV (lowL l)%pF) W);rw[show lowP l=nV (lowL l) from rfl];clear hn;generalize decide (nV (lowL l)<pF)=bb at *;generalize nV (lowL l)%pF=y at *;obtain⟨c0,f0⟩:=qdp z2 31 (by rw[hl];decide);have z0:=qdQ z2 31 (by rw[hl];decide) (l.getD 31 0 &&& 127);rw[zn]at z0;have ht:=qcW z0 z5 z1;have a0:=without_top (l.getD 31 0);have HR:=hid ((jso V1 ⟨w.heap.size+1,31,none⟩ w.heap.size (.int .u8 ((l.getD 31 0 &&& 127).toNat:Int)) (by simp)).trans z4);have z9:=zk.setCell (p:=⟨w.heap.size+1,31,none⟩) (by simp) (.int .u8 ((l.getD 31 0 &&& 127).toNat:Int))
 have HO:=hid z0;have zs:=hid z5;clear z2 z0 z4 zk z5 hl zn;generalize (l.getD 31 0 &&& 127).toNat=v1 at *;generalize (l.getD 31 0).toNat=v2 at *;generalize lowL l=tl at *;generalize zp:(⟨tl.toArray⟩:ByteArray)=tx at *;have zt:=hid zp;clear zp;generalize zu:(⟨(leF y 32).toArray⟩:ByteArray)=ty at *;clear zu;have hp32:(31:Int)<(32:Int):=by omega
 go_enter func127,ntmps127;go_wp2_with fail;clear ht c0 f0 a0 za;generalize (World.setCell _ _ _)=W0 at *;have hB:=z9.size;generalize zi:w.heap.size=B at *;have zq:=hid zi;clear zi;refine (z6.out W0).mono ?_;rintro e W1⟨rfl,bk⟩;have z4:=hkp HR bk;have ze:=hid (HO.out.stays bk);have zl:=z9.trans (bk.mono hB);have zb:=qac z4.out;have HN:=hid (qad W1 (.cells zeros4 61));have zd:=hid (jsh _ W1.heap.size _ (uc (limN 4 y)) _ _ HN.out);have z7:=jbr (qaf W1 (.cells zeros4 61)) (jlr _) (uc (limN 4 y));have zh:=hkp z4 z7;have zf:=hid (ze.out.stays z7);have zm:=zl.trans (z7.mono (jll zb));have hgB:B<W1.heap.size:=zb;clear z6 HR z4 HO ze z9 zl bk z7 zb;go_wp2_with (with_reducible refine jsr rfl 61 _ _ rfl W1.heap.size (uc (limN 4 y)) rfl rfl 61 _ HN.out (qal _) (qaw _) (qar _) ?_);clear HN;generalize (World.setRow (World.alloc _ _) _ _)=W2 at *;generalize W1.heap.size=g5 at *;clear hB;refine qej 6 26 [.val (.agg (uc (limN 4 y))) [(5,.pointer (some ⟨g5,0,none⟩))],.val (.agg (uc (limN 4 y))) [(5,.pointer (some ⟨g5,0,none⟩))],.val (.string ty) [(21,.agg (uc (limN 4 y)))],
   .val (.slice (some ⟨B+1,0,none⟩) 32 z1) [(4,.slice (some ⟨B+1,0,none⟩) 32 z1)],.val (.string tx) [(23,.slice (some ⟨B+1,0,none⟩) 32 z1)],.val (.bool bb) [(22,.string ty),(24,.string tx)]]
  [(2,.pointer (some ⟨B,0,none⟩)),(20,.agg (uc (limN 4 y)))]
  (fun w'=>Below B w w'∧w'.heap[B]?=some (.cells zeros4 61)∧w'.heap[g5]?=some (.cells (uc (limN 4 y)) 61)∧OwnS w' (B+1) (B+1) z1 (Lib.byteCells tl))
  (fun w'=>Below B w w'∧w'.heap[B]?=some (.cells (uc (limN 4 y)) 61)∧w'.heap[g5]?=some (.cells (uc (limN 4 y)) 61)∧OwnS w' (B+1) (B+1) z1 (Lib.byteCells tl))
  _ rfl rfl (by kernel_rfl) rfl ?_ ?_ ?_ ?_ ?_ ?_ ?_ ?_
 ·exact⟨zm.trans ⟨rfl,rfl,rfl,jlr _,fun _ _=>rfl⟩,zh.out,zd.out,zf.out.keep rfl⟩
 ·rintro w1 w2⟨k1,k2,k3,k4⟩ hb;exact⟨k1.trans (hb.mono (jll (qac k2))),qap hb (qac k2) k2,qap hb (qac k3) k3,k4.stays hb⟩
 ·rintro w1 w2⟨k1,k2,k3,k4⟩ hb;exact⟨k1.trans (hb.mono (jll (qac k2))),qap hb (qac k2) k2,qap hb (qac k3) k3,k4.stays hb⟩
 ·simp only[take_succ_cons,List.take_zero,qeu,HeadSpec.val,and_true];have hK:∀ w':World,((Below B w w'∧w'.heap[B]?=some (.cells zeros4 61)∧w'.heap[g5]?=some (.cells (uc (limN 4 y)) 61)∧OwnS w' (B+1) (B+1) z1 (Lib.byteCells tl))∨(Below B w w'∧w'.heap[B]?=some (.cells (uc (limN 4 y)) 61)∧w'.heap[g5]?=some (.cells (uc (limN 4 y)) 61)∧OwnS w' (B+1) (B+1) z1 (Lib.byteCells tl)))→w'.heap[g5]?=some (.cells (uc (limN 4 y)) 61)∧OwnS w' (B+1) (B+1) z1 (Lib.byteCells tl):=by
   rintro w' (⟨_,_,h1,h2⟩|⟨_,_,h1,h2⟩)
   ·exact⟨h1,h2⟩
   ·exact⟨h1,h2⟩
  refine⟨?_,?_,?_,?_,?_,?_⟩
  ·intro z3 w' hk h;have e0:=h (5,.pointer (some ⟨g5,0,none⟩)) (by simp);exact qab 61 (.tmp 5) rfl g5 e0 61 _ (0,0) _ (hK w' hk).1 underlying61 rfl (qal _)
  ·intro z3 w' hk h;have e0:=h (5,.pointer (some ⟨g5,0,none⟩)) (by simp);exact qab 61 (.tmp 5) rfl g5 e0 61 _ (0,0) _ (hK w' hk).1 underlying61 rfl (qal _)
  ·intro z3 w' hk h;have e0:=h (21,.agg (uc (limN 4 y))) (by simp);simp only[getD_eq_getD_getElem?]at e0;simp[go_sem,e0,qaa];exact CB.out w'
  ·intro z3 w' hk h;have e0:=h (4,.slice (some ⟨B+1,0,none⟩) 32 z1) (by simp);simp only[getD_eq_getD_getElem?]at e0;simp[go_sem,e0,qaa]
  ·intro z3 w' hk h;have e0:=h (23,.slice (some ⟨B+1,0,none⟩) 32 z1) (by simp);simp only[getD_eq_getD_getElem?]at e0;have ht:=qcW (hK w' hk).2 zs.out z1;rw[zt.out]at ht;simp[go_sem,e0,qaa,ht]
  ·intro z3 w' hk h;have e0:=h (22,.string ty) (by simp);have e1:=h (24,.string tx) (by simp);simp only[getD_eq_getD_getElem?]at e0 e1;have:=zr.out;simp[go_sem,e0,e1,qaa,this]
 ·rintro z3 w' ⟨k1,k2,k3,k4⟩ h;have e0:z3.eval (.tmp 2)=.pointer (some ⟨B,0,none⟩):=h (2,.pointer (some ⟨B,0,none⟩)) (by simp);have e1:z3.eval (.tmp 20)=.agg (uc (limN 4 y)):=h (20,.agg (uc (limN 4 y))) (by simp);refine⟨w'.setRow B (uc (limN 4 y)),?_,jbr k1 (jlr _) _,jsh _ _ _ _ _ _ k2,by rw[jro _ _ _ _ (by omega)];exact k3,k4.keep (jro _ _ _ _ (by omega))⟩;have zc:=run_storeVar_row (P:=Tryz.prog) w' B 61 61 zeros4 (uc (limN 4 y)) k2 (qal _) (qaw _) (qar _);unfold execOp;simp only[e0,e1,Instr.storeAt,Instr.sureAddr,Sem.run_bind,Sem.run_pure,Result.andThen_ok,zc]
 ·simp[qay,qax,qaK,HeadSpec.val,Act.put]
 ·simp[qay,qax,qaK,HeadSpec.val,Act.put]
 ·rintro w' ⟨k1,k2,k3,k4⟩;have HN:=hid k2;clear k2 k3 k4 zh zd zf zm;simp only[zks,qax,qaK,HeadSpec.val,Act.put,zkt,List.getElem?_cons_succ,List.getElem?_cons_zero,Option.map_some,Option.getD_some];go_wp2_with fail;exact jpr (qaC (by rfl) _ _ B 61 _ (0,0) _ rfl HN.out underlying61 rfl (qal _)) rfl ⟨rfl,by rw[zq.out];exact k1⟩
theorem rootL_any(y fd sq m be u v q r:Nat)(b:Bool)(w:World)(zC:y<pF)(zx:facF=fd)(hT:PrmQ w)
  (zc:mulF y y=sq) (zu:mulF fd sq=m) (z4:addF m 1=be) (zr:subF sq 1=u) (zw:invF be=v) (zv:mulF u v=q) (zH:qbj q=(r,b)) :
  Rt 128 #[.agg (uc (limN 4 y))] w (.tuple #[.agg (uc (limN 4 r)),.bool b]):=by
 unfold Rt;have zf:=hid (fun (W:World) (hW:PrmQ W)=>coef_any W hW);have zq:fd<pF:=zx▸facF_lt;rw[zx]at zf;have zL:v<pF:=zw▸qa4 _ _;have zK:q<pF:=zv▸qaT _ _;have zG:=hid (fun (W:World) (hW:PrmQ W)=>invF_any be W (z4▸qb7 _ _));rw[zw]at zG;have zE:=hid (fun (W:World) (hW:PrmQ W)=>qaS u v W (zr▸qbt _ _) zL);rw[zv]at zE;have zs:=hid (fun (W:World) (hW:PrmQ W)=>rootF_any q W zK hW);rw[zH]at zs;dsimp only at zs;have zd:sq<pF:=zc▸qaT _ _;have zJ:m<pF:=zu▸qaT _ _;have zB:be<pF:=z4▸qb7 _ _;have zV:u<pF:=zr▸qbt _ _;have zg:=hid (fun (W:World) (hW:PrmQ W)=>qaS y y W zC zC);rw[zc]at zg;have zD:=hid (fun (W:World) (hW:PrmQ W)=>qaS fd sq W zq zd);rw[zu]at zD;have ze:=hid (fun (W:World) (hW:PrmQ W)=>qdb m 1 W zJ (by decide));rw[z4]at ze;have zF:=hid (fun (W:World) (hW:PrmQ W)=>qcA sq 1 W zd (by decide) hW);rw[zr]at zF;clear zc zd zu zJ z4 zB zr zV zC zq zL zK;clear zx zw zv zH;have zN:Hid (∀ W:World,Calls Tryz.prog 131 #[.int .i64 1] W fun e w'=>e=.returned (.agg (uc (limN 4 1)))∧Below W.heap.size W w'):=hid (fun W=>qci 1 W (by decide));obtain⟨hz,hi⟩:=jzi qbR;obtain⟨zT,zR⟩:=jzi qc3;obtain⟨zU,zS⟩:=jzi qch;have hb:=qaL w (.cells (uc (limN 4 y)) 61) (.cells zeros4 61);have HP:=hid (hT.step hb);have HQ:=hid (qah (o:=.cells zeros4 61) (qad w (.cells (uc (limN 4 y)) 61)));have HR:=hid (qaz w (.cells (uc (limN 4 y)) 61) (.cells zeros4 61));clear hi zR zS hT
 go_enter func128,ntmps128;go_upto_region 1 with fail
 try clear zT
 try clear zU
 generalize ((w.alloc _).alloc _)=W0 at *;have hB:=hid hb.size;generalize zI:w.heap.size=B at *;have zO:=hid zI;clear zI;refine qao 6 25 [.val (.agg (uc (limN 4 1))) [],
   .val (.agg (uc (limN 4 y))) [(1,.pointer (some ⟨B,0,none⟩))],
   .val (.agg (uc (limN 4 y))) [(1,.pointer (some ⟨B,0,none⟩))],
   .val (.agg (uc (limN 4 sq))) [(8,.agg (uc (limN 4 y))),(9,.agg (uc (limN 4 y)))],
   .fresh (.cells zeros4 61),
   .fresh (.cells zeros4 61)] (by kernel_rfl) (by kernel_rfl) rfl ?_ ?_ ?_
 ·simp only[take_succ_cons,List.take_zero,qaO,qaP,HeadSpec.val,HeadSpec.fresh,and_true];refine⟨?_,?_,?_,?_,?_,?_⟩
  ·intro z1 w hb h;simp[go_sem,qaa];exact zN.out w
  ·intro z1 w hb h;exact qab 61 (.tmp 1) rfl (B) (sd0 h) 61 _ (0,0) _ (hkq HQ hb) underlying61 rfl (qal _)
  ·intro z1 w hb h;exact qab 61 (.tmp 1) rfl (B) (sd0 h) 61 _ (0,0) _ (hkq HQ hb) underlying61 rfl (qal _)
  ·intro z1 w hb h;simp[go_sem,rd0 h,rd1 h,qaa];exact zg.out w (HP.out.step hb)
  ·intro z1 w hb;simp[go_sem,hz]
  ·intro z1 w hb;simp[go_sem,hz]
 ·simp[qay,qax,qaK,HeadSpec.val,HeadSpec.fresh,Act.put]
 ·simp only[zks,qaN,HeadSpec.val,HeadSpec.fresh,Act.put,zkt];intro g4 zy _ g5 zz zM v1 z5 z6;have z0:g4≠g5:=zM (g4,.cells zeros4 61) (by simp);have za:=hid (show v1.heap[g4]?=some (.cells zeros4 61) from z6 (g4,.cells zeros4 61) (by simp));have zh:=hid (show v1.heap[g5]?=some (.cells zeros4 61) from z6 (g5,.cells zeros4 61) (by simp));have z9:=hid (show (v1.setRow g4 (uc (limN 4 1))).heap[g5]?=some (.cells zeros4 61) from by rw[jro _ _ _ _ (Ne.symm z0)];exact zh.out);have hk:Below W0.heap.size W0 ((v1.setRow g4 (uc (limN 4 1))).setRow g5 (uc (limN 4 sq))):=jbr (jbr z5 zy (uc (limN 4 1))) zz (uc (limN 4 sq));have zn:=hid (show ((v1.setRow g4 (uc (limN 4 1))).setRow g5 (uc (limN 4 sq))).heap[g4]?=some (.cells (uc (limN 4 1)) 61) from by rw[jro _ _ _ _ z0];exact jsh _ g4 _ (uc (limN 4 1)) _ _ za.out);have zo:=hid (show ((v1.setRow g4 (uc (limN 4 1))).setRow g5 (uc (limN 4 sq))).heap[g5]?=some (.cells (uc (limN 4 sq)) 61) from by exact jsh _ g5 _ (uc (limN 4 sq)) _ _ z9.out)
  have zk:=hb.trans (hk.mono hB.out);have zj:=hid (HP.out.step hk);have zl:=hkp HQ hk;have zm:=hkp HR hk;have zi:=hid (jlt hB.out hk.size);have b_g4:=hid (jlt hB.out zy);have b_g5:=hid (jlt hB.out zz);clear HQ HR z5 z6 hb HP hB hk zy zz z0 zM;go_wp2_with (first|(with_reducible refine jsr rfl 61 _ _ rfl g4 (uc (limN 4 1)) rfl rfl 61 _ za.out (qal _) (qaw _) (qar _) ?_)|(with_reducible refine jsr rfl 61 _ _ rfl g5 (uc (limN 4 sq)) rfl rfl 61 _ z9.out (qal _) (qaw _) (qar _) ?_));generalize (World.setRow (World.setRow _ _ _) _ _)=W1 at *;clear za zh z9;have HQ:=zl;have HR:=zm;have z2:=zn;have z3:=zo;have hb:=zk;have HP:=zj;have hB:=zi;clear zk zj zi zl zm zn zo
  try simp only[Act.put]
  refine qao 6 25 [.val (.agg (uc (limN 4 fd))) [],
   .val (.agg (uc (limN 4 sq))) [(5,.pointer (some ⟨g5,0,none⟩))],
   .val (.agg (uc (limN 4 m))) [(11,.agg (uc (limN 4 fd))),(12,.agg (uc (limN 4 sq)))],
   .val (.agg (uc (limN 4 1))) [(4,.pointer (some ⟨g4,0,none⟩))],
   .val (.agg (uc (limN 4 be))) [(13,.agg (uc (limN 4 m))),(14,.agg (uc (limN 4 1)))],
   .fresh (.cells zeros4 61)] (by kernel_rfl) (by kernel_rfl) rfl ?_ ?_ ?_
  ·simp only[take_succ_cons,List.take_zero,qaO,qaP,HeadSpec.val,HeadSpec.fresh,and_true];refine⟨?_,?_,?_,?_,?_,?_⟩
   ·intro z1 w hb h;simp[go_sem,qaa];exact zf.out w (HP.out.step hb)
   ·intro z1 w hb h;exact qab 61 (.tmp 5) rfl (g5) (sd0 h) 61 _ (0,0) _ (hkq z3 hb) underlying61 rfl (qal _)
   ·intro z1 w hb h;simp[go_sem,rd0 h,rd1 h,qaa];exact zD.out w (HP.out.step hb)
   ·intro z1 w hb h;exact qab 61 (.tmp 4) rfl (g4) (sd0 h) 61 _ (0,0) _ (hkq z2 hb) underlying61 rfl (qal _)
   ·intro z1 w hb h;simp[go_sem,rd0 h,rd1 h,qaa];exact ze.out w (HP.out.step hb)
   ·intro z1 w hb;simp[go_sem,hz]
  ·simp[qay,qax,qaK,HeadSpec.val,HeadSpec.fresh,Act.put]
  ·simp only[zks,qaN,HeadSpec.val,HeadSpec.fresh,Act.put,zkt];intro g6 zA _ v1 z5 z6;have zb:=hid (show v1.heap[g6]?=some (.cells zeros4 61) from z6 (g6,.cells zeros4 61) (by simp));have hk:Below W1.heap.size W1 (v1.setRow g6 (uc (limN 4 be))):=jbr z5 zA (uc (limN 4 be));have zp:=hid (show (v1.setRow g6 (uc (limN 4 be))).heap[g6]?=some (.cells (uc (limN 4 be)) 61) from by exact jsh _ g6 _ (uc (limN 4 be)) _ _ zb.out);have zk:=hb.trans (hk.mono hB.out);have zj:=hid (HP.out.step hk);have zl:=hkp HQ hk;have zm:=hkp HR hk;have z7:=hkp z2 hk;have z8:=hkp z3 hk;have zi:=hid (jlt hB.out hk.size);have b_g6:=hid (jlt hB.out zA);clear HQ HR z2 z3 z5 z6 hb HP hB hk zA;go_wp2_with (first|(with_reducible refine jsr rfl 61 _ _ rfl g6 (uc (limN 4 be)) rfl rfl 61 _ zb.out (qal _) (qaw _) (qar _) ?_));generalize (World.setRow _ _ _)=W2 at *;clear zb;have HQ:=zl;have HR:=zm;have z2:=z7;have z3:=z8;have zt:=zp;have hb:=zk;have HP:=zj;have hB:=zi;clear zk zj zi zl zm z7 z8 zp
   try simp only[Act.put]
   refine qao 9 25 [.val (.agg (uc (limN 4 sq))) [(5,.pointer (some ⟨g5,0,none⟩))],
   .val (.agg (uc (limN 4 1))) [(4,.pointer (some ⟨g4,0,none⟩))],
   .val (.agg (uc (limN 4 u))) [(16,.agg (uc (limN 4 sq))),(17,.agg (uc (limN 4 1)))],
   .val (.agg (uc (limN 4 be))) [(6,.pointer (some ⟨g6,0,none⟩))],
   .val (.agg (uc (limN 4 v))) [(19,.agg (uc (limN 4 be)))],
   .val (.agg (uc (limN 4 q))) [(18,.agg (uc (limN 4 u))),(20,.agg (uc (limN 4 v)))],
   .val (.tuple #[.agg (uc (limN 4 r)),.bool b]) [(21,.agg (uc (limN 4 q)))],
   .val (.agg (uc (limN 4 r))) [(22,.tuple #[.agg (uc (limN 4 r)),.bool b])],
   .val (.bool b) [(22,.tuple #[.agg (uc (limN 4 r)),.bool b])]] (by kernel_rfl) (by kernel_rfl) rfl ?_ ?_ ?_
   ·simp only[take_succ_cons,List.take_zero,qaO,qaP,HeadSpec.val,HeadSpec.fresh,and_true];refine⟨?_,?_,?_,?_,?_,?_,?_,?_,?_⟩
    ·intro z1 w hb h;exact qab 61 (.tmp 5) rfl (g5) (sd0 h) 61 _ (0,0) _ (hkq z3 hb) underlying61 rfl (qal _)
    ·intro z1 w hb h;exact qab 61 (.tmp 4) rfl (g4) (sd0 h) 61 _ (0,0) _ (hkq z2 hb) underlying61 rfl (qal _)
    ·intro z1 w hb h;simp[go_sem,rd0 h,rd1 h,qaa];exact zF.out w (HP.out.step hb)
    ·intro z1 w hb h;exact qab 61 (.tmp 6) rfl (g6) (sd0 h) 61 _ (0,0) _ (hkq zt hb) underlying61 rfl (qal _)
    ·intro z1 w hb h;simp[go_sem,rd0 h,qaa];exact zG.out w (HP.out.step hb)
    ·intro z1 w hb h;simp[go_sem,rd0 h,rd1 h,qaa];exact zE.out w (HP.out.step hb)
    ·intro z1 w hb h;simp[go_sem,rd0 h,qaa];exact zs.out w (HP.out.step hb)
    ·intro z1 w hb h;simp[go_sem,rd0 h,qaa]
    ·intro z1 w hb h;simp[go_sem,rd0 h,qaa]
   ·simp[qay,qax,qaK,HeadSpec.val,HeadSpec.fresh,Act.put]
   ·simp only[zks,qaN,HeadSpec.val,HeadSpec.fresh,Act.put,zkt];intro v1 z5 z6;have HN:=hkp HR z5;have zP:=hid (jsh v1 (B+1) _ (uc (limN 4 r)) _ _ HN.out);have zQ:Below B w (v1.setRow (B+1) (uc (limN 4 r))):=jbr (hb.trans (z5.mono hB.out)) (by omega) _;clear z6 z5 hb;go_wp2_with (with_reducible refine jsr rfl 61 _ _ rfl (B+1) (uc (limN 4 r)) rfl rfl 61 _ HN.out (qal _) (qaw _) (qar _) ?_);exact jpr (qaC (by rfl) _ _ (B+1) 61 _ (0,0) _ rfl zP.out underlying61 rfl (qal _)) rfl ⟨rfl,by rw[zO.out];exact zQ⟩
theorem rootAt_any(y:Nat)(w:World)(hy:y<pF)(hT:PrmQ w):Rt 128 #[.agg (uc (limN 4 y))] w (.tuple #[.agg (uc (limN 4 (qbj (sqrP y)).1)),.bool (qbj (sqrP y)).2]):=by
 unfold Rt;have e (x:Nat×Bool):x=(x.1,x.2):=rfl;exact rootL_any y facF (mulF y y) (mulF facF (mulF y y)) (addF (mulF facF (mulF y y)) 1) (subF (mulF y y) 1) (invF (addF (mulF facF (mulF y y)) 1)) (sqrP y) (qbj (sqrP y)).1 (qbj (sqrP y)).2 w hy rfl hT rfl rfl rfl rfl rfl rfl (e _)
theorem ptMulBad_any(p:PtN)(s:ByteArray)(w:World)(h:s.size≠32):Rt 74 #[.agg (uc (ptL p)),.string s] w (.tuple #[.agg (uc (ptL zeroP)),.int .i64 1]):=by
 unfold Rt;obtain⟨z5,z4⟩:=jzi qch;have d1:((s.size:Int) != 32)=true:=by simp;omega
 have z1:=hid (qaz w (.cells (uc (ptL p)) 63) (.cells zrow4 63));have z0:=qaL w (.cells (uc (ptL p)) 63) (.cells zrow4 63);have CZ:=hid qfH;clear z4 h;go_enter func74,ntmps74;go_wp2_with fail;clear z5;generalize ((w.alloc _).alloc _)=W0 at *;have hB:=z0.size;generalize z2:w.heap.size=B at *;refine (CZ.out W0).mono ?_;rintro e W1⟨rfl,bk⟩;have HR:=hkp z1 bk;have z3:=z0.trans (bk.mono hB);clear z1 z0 bk;go_wp2_with (with_reducible refine jsr rfl 63 _ _ rfl (B+1) (uc (ptL zeroP)) rfl rfl 63 _ HR.out (qaR _ (qas _)) (qaU _ (qas _)) (qar _) ?_);exact jpr (qaC (by rfl) _ _ (B+1) 63 _ (0,0) _ rfl (jsh _ _ _ _ _ _ HR.out) underlying63 rfl (qaR _ (qas _))) rfl ⟨rfl,by rw[z2];exact jbr z3 (by omega) _⟩
theorem ptMul_any(p:PtN)(s:ByteArray)(w:World)(hp:p.Ok)(hs:s.size=32)(hT:PrmQ w):Rt 74 #[.agg (uc (ptL p)),.string s] w (.tuple #[.agg (uc (ptL (mulP p s.data.toList 256))),.int .i64 0]):=by
 unfold Rt;have d1:((s.size:Int) != 32)=false:=by simp;omega
 have HT:=hid hT;have zx:=hid hT.lt;have CB:=hid (fun (n:Nat) (hn:n<256) (W:World)=>ptBit_any s n W hs hn);have zs:=hid qfH;have z7:=hid (fun (W:World) (hW:PrmQ W)=>qd9 zeroP W qf5 hW);have z8:=hid (fun (W:World) (hW:PrmQ W)=>qd9 p W hp hW);have CS:=hid sum_any;have CO:=hid or_pt_any;have CP:=hid point_any;have zt:=hid hp;generalize s.data.toList=l at *;have zm:=hid (mulP_ok p l);have zk:Hid (mulP p l 0=zeroP):=hid rfl;have zl:=hid (fun n:Nat=>show mulP p l (n+1)=if bitP l (255-n)=1 then sumP (sumP (mulP p l n) (mulP p l n)) p else sumP (mulP p l n) (mulP p l n) from rfl);clear hp hs;obtain⟨hz,hi⟩:=jzi qbR;obtain⟨zD,zN⟩:=jzi qc3;obtain⟨hzp,zO⟩:=jzi qch;have hb:=qaL w (.cells (uc (ptL p)) 63) (.cells zrow4 63);have HP:=hid (hT.step hb);have HQ:=hid (qah (o:=.cells zrow4 63) (qad w (.cells (uc (ptL p)) 63)));have HR:=hid (qaz w (.cells (uc (ptL p)) 63) (.cells zrow4 63));clear hi zN zO hT;go_enter func74,ntmps74;go_upto_region 3 with fail;generalize ((w.alloc _).alloc _)=W0 at *;have hB:=hid hb.size;generalize zv:w.heap.size=B at *;have zJ:=hid zv;clear zv;refine qao 6 35 [.val (.agg (uc (ptL zeroP))) [],
   .val (.agg (uc (numL zeroP))) [(13,.agg (uc (ptL zeroP)))],
   .val (.agg (uc (ptL p))) [(2,.pointer (some ⟨B,0,none⟩))],
   .val (.agg (uc (numL p))) [(15,.agg (uc (ptL p)))],
   .fresh (.cells zrow4 103),
   .fresh (.cells zrow4 103)] (by kernel_rfl) (by kernel_rfl) rfl ?_ ?_ ?_
 ·simp only[take_succ_cons,List.take_zero,qaO,qaP,HeadSpec.val,HeadSpec.fresh,and_true];refine⟨?_,?_,?_,?_,?_,?_⟩
  ·intro z3 w hb h;simp[go_sem,qaa];exact zs.out w
  ·intro z3 w hb h;simp[go_sem,rd0 h,qaa];exact z7.out w (HP.out.step hb)
  ·intro z3 w hb h;exact qab 63 (.tmp 2) rfl (B) (sd0 h) 63 _ (0,0) _ (hkq HQ hb) underlying63 rfl (qaR _ (qas _))
  ·intro z3 w hb h;simp[go_sem,rd0 h,qaa];exact z8.out w (HP.out.step hb)
  ·intro z3 w hb;simp[go_sem,zD]
  ·intro z3 w hb;simp[go_sem,zD]
 ·simp[qay,qax,qaK,HeadSpec.val,HeadSpec.fresh,Act.put]
 ·simp only[zks,qaN,HeadSpec.val,HeadSpec.fresh,Act.put,zkt];intro g6 zf _ g7 zg zG v1 z4 za;have z2:g6≠g7:=zG (g6,.cells zrow4 103) (by simp);have z6:=hid (show v1.heap[g6]?=some (.cells zrow4 103) from za (g6,.cells zrow4 103) (by simp));have z9:=hid (show v1.heap[g7]?=some (.cells zrow4 103) from za (g7,.cells zrow4 103) (by simp));have r6:=hid (jl3 (qac HR.out) zf);have r7:=hid (jl3 (qac HR.out) zg);have zI:=hid z2;have z5:=hid (show (v1.setRow g6 (uc (numL zeroP))).heap[g7]?=some (.cells zrow4 103) from by rw[jro _ _ _ _ (Ne.symm z2)];exact z9.out);have hk:Below W0.heap.size W0 ((v1.setRow g6 (uc (numL zeroP))).setRow g7 (uc (numL p))):=jbr (jbr z4 zf (uc (numL zeroP))) zg (uc (numL p));have zd:=hid (show ((v1.setRow g6 (uc (numL zeroP))).setRow g7 (uc (numL p))).heap[g6]?=some (.cells (uc (numL zeroP)) 103) from by rw[jro _ _ _ _ z2];exact jsh _ g6 _ (uc (numL zeroP)) _ _ z6.out);have ze:=hid (show ((v1.setRow g6 (uc (numL zeroP))).setRow g7 (uc (numL p))).heap[g7]?=some (.cells (uc (numL p)) 103) from by exact jsh _ g7 _ (uc (numL p)) _ _ z5.out)
  have zy:=hb.trans (hk.mono hB.out);have zw:=hid (HP.out.step hk);have zE:=hkp HQ hk;have zF:=hkp HR hk;have zu:=hid (jlt hB.out hk.size);have b_g6:=hid (jlt hB.out zf);have b_g7:=hid (jlt hB.out zg);clear HQ HR z4 za hb HP hB hk zf zg z2 zG;go_wp2_with (first|(with_reducible refine jsr rfl 103 _ _ rfl g6 (uc (numL zeroP)) rfl rfl 103 _ z6.out (qcD _ (qbz _)) (qaU _ (qbz _)) (qar _) ?_)|(with_reducible refine jsr rfl 103 _ _ rfl g7 (uc (numL p)) rfl rfl 103 _ z5.out (qcD _ (qbz _)) (qaU _ (qbz _)) (qar _) ?_));generalize (World.setRow (World.setRow _ _ _) _ _)=W1 at *;clear z6 z9 z5;have HQ:=zE;have HR:=zF;have z0:=zd;have z1:=ze;have hb:=zy;have HP:=zw;have hB:=zu;clear zy zw zu zE zF zd ze
  try simp only[Act.put]
  clear zs z7 z8 HQ
  go_loopw [8] (fun iv wr=>∃ n:Nat,n≤256∧iv=.int .i64 (255-(n:Int))∧wr.heap[B+1]?=some (.cells zrow4 63)∧wr.heap[g6]?=some (.cells (uc (numL (mulP p l n))) 103)∧wr.heap[g7]?=some (.cells (uc (numL p)) 103)∧Below B w wr) (fun iv _=>(intOf iv+1).toNat)
  case atStart=>exact⟨0,by omega,rfl,HR.out,by rw[zk.out];exact z0.out,z1.out,hb⟩
  case round=>
   clear HR z0 z1 hb hB HP;obtain⟨n,hn,rfl,zC,zA,zB,hb⟩:=hrel;have HR:=hid zC;have z0:=hid zA;have z1:=hid zB;clear zC zA zB;have hB:Hid (B≤wr.heap.size):=hid (by have:=qac HR.out;omega);have HP:=hid (HT.out.below hb zx.out);have zc:=zm.out n;by_cases hlt:n<256
   ·obtain⟨i,hi⟩:∃ i,i=255-n:=⟨_,rfl⟩;have zM:(255:Int)-(n:Int)=(i:Int):=by omega
    have hd:decide ((0:Int)≤(i:Int))=true:=by simp
    have zb:i<256:=by omega
    have zn:=hid (zl.out n);rw[← hi]at zn;have zz:=bitP_two l i;have zp:=hid (CB.out i zb);rw[zM];generalize mulP p l n=q at *;generalize bitP l i=t at *;obtain⟨d,ed⟩:∃ d,sumP q q=d:=⟨_,rfl⟩;obtain⟨x,ex⟩:∃ x,sumP d p=x:=⟨_,rfl⟩;obtain⟨r,er⟩:∃ r,(if t=1 then x else d)=r:=⟨_,rfl⟩;have zL:Hid (mulP p l (n+1)=r):=hid (by rw[zn.out,ed,ex,er]);have zh:=hid (fun (W:World) (hW:PrmQ W)=>CS.out q q W zc zc hW);rw[ed]at zh;have zo:d.Ok:=ed▸qfc _ _;have zH:x.Ok:=ex▸qfc _ _;have zi:=hid (fun (W:World) (hW:PrmQ W)=>CS.out d p W zo zt.out hW);rw[ex]at zi;have zj:=hid (fun (W:World) (hW:PrmQ W)=>CO.out d x t W zo zH zz hW);rw[er]at zj;have zr:Hid (∀ W:World,Calls Tryz.prog 131 #[.int .i64 (t:Int)] W fun e w'=>e=.returned (.agg (uc (limN 4 t)))∧Below W.heap.size W w'):=hid (fun W=>qci t W (by omega));clear zn ed ex er zo zH zc zz hi CB CO CP CS zm zl zk zt;go_wp2_with (with_reducible refine jlw rfl 103 _ rfl g6 rfl 103 _ (0,0) _ z0.out underlying103 rfl (qcD _ (qbz _)) ?_);refine (zh.out wr HP.out).mono ?_;rintro e V1⟨rfl,bk⟩;replace hb:=hb.trans (bk.mono hB.out);replace hB:=hid (jlt hB.out bk.size);replace HR:=hkp HR bk;replace z0:=hkp z0 bk;replace z1:=hkp z1 bk;clear bk;have k6:=hid (jsh V1 g6 _ (uc (numL d)) _ _ z0.out);have k7:=hid ((jro V1 g6 g7 (uc (numL d)) (Ne.symm zI.out)).trans z1.out);have kR:=hid ((jro V1 g6 (B+1) (uc (numL d)) (by have:=r6.out;omega)).trans HR.out)
    have kb:Below B w (V1.setRow g6 (uc (numL d))):=jbr hb (by have:=r6.out;omega) _;have kB:Hid (B≤(V1.setRow g6 (uc (numL d))).heap.size):=hid (by have:=qac kR.out;omega);have kP:=hid (HT.out.below kb zx.out);clear HR z1 hb hB HP;go_wp2_with (with_reducible refine jsr rfl 103 _ _ rfl g6 (uc (numL d)) rfl rfl 103 _ z0.out (qcD _ (qbz _)) (rows_size _ _ (qbz _) (qbz _)) (qar _) ?_);clear z0;generalize (World.setRow _ _ _)=V2 at *;have HR:=kR;have z0:=k6;have z1:=k7;have hb:=kb;have hB:=kB;have HP:=kP;clear kR k6 k7 kb kB kP zh
    try simp only[Act.put]
    refine qao 9 35 [.val (.agg (uc (numL d))) [(6,.pointer (some ⟨g6,0,none⟩))],
   .val (.agg (uc (numL d))) [(6,.pointer (some ⟨g6,0,none⟩))],
   .val (.agg (uc (numL p))) [(7,.pointer (some ⟨g7,0,none⟩))],
   .val (.agg (uc (numL x))) [(25,.agg (uc (numL d))),(26,.agg (uc (numL p)))],
   .val (.string s) [(1,.string s)],
   .val (.int .i64 (i:Int)) [(8,.int .i64 (i:Int))],
   .val (.int .i64 (t:Int)) [(28,.string s),(29,.int .i64 (i:Int))],
   .val (.agg (uc (limN 4 t))) [(30,.int .i64 (t:Int))],
   .val (.agg (uc (numL r))) [(24,.agg (uc (numL d))),(27,.agg (uc (numL x))),(31,.agg (uc (limN 4 t)))]] (by kernel_rfl) (by kernel_rfl) rfl ?_ ?_ ?_
    ·simp only[take_succ_cons,List.take_zero,qaO,qaP,HeadSpec.val,HeadSpec.fresh,and_true];refine⟨?_,?_,?_,?_,?_,?_,?_,?_,?_⟩
     ·intro z3 w hb h;exact qab 103 (.tmp 6) rfl (g6) (sd0 h) 103 _ (0,0) _ (hkq z0 hb) underlying103 rfl (qcD _ (qbz _))
     ·intro z3 w hb h;exact qab 103 (.tmp 6) rfl (g6) (sd0 h) 103 _ (0,0) _ (hkq z0 hb) underlying103 rfl (qcD _ (qbz _))
     ·intro z3 w hb h;exact qab 103 (.tmp 7) rfl (g7) (sd0 h) 103 _ (0,0) _ (hkq z1 hb) underlying103 rfl (qcD _ (qbz _))
     ·intro z3 w hb h;simp[go_sem,rd0 h,rd1 h,qaa];exact zi.out w (HP.out.step hb)
     ·intro z3 w hb h;simp[go_sem,rd0 h,qaa]
     ·intro z3 w hb h;simp[go_sem,rd0 h,qaa]
     ·intro z3 w hb h;simp[go_sem,rd0 h,rd1 h,qaa];exact zp.out w
     ·intro z3 w hb h;simp[go_sem,rd0 h,qaa];exact zr.out w
     ·intro z3 w hb h;simp[go_sem,rd0 h,rd1 h,rd2 h,qaa];exact zj.out w (HP.out.step hb)
    ·simp[qay,qax,qaK,HeadSpec.val,HeadSpec.fresh,Act.put]
    ·simp only[zks,qaN,HeadSpec.val,HeadSpec.fresh,Act.put,zkt];intro v1 z4 za;replace hb:=hb.trans (z4.mono hB.out);replace HR:=hkp HR z4;replace z0:=hkp z0 z4;replace z1:=hkp z1 z4;clear z4 za zi zj zp zr HP hB;have k6:=hid (jsh v1 g6 _ (uc (numL r)) _ _ z0.out);have k7:=hid ((jro v1 g6 g7 (uc (numL r)) (Ne.symm zI.out)).trans z1.out);have kR:=hid ((jro v1 g6 (B+1) (uc (numL r)) (by have:=r6.out;omega)).trans HR.out);have kb:Below B w (v1.setRow g6 (uc (numL r))):=jbr hb (by have:=r6.out;omega) _;clear HR z1 hb;go_wp2_with (with_reducible refine jsr rfl 103 _ _ rfl g6 (uc (numL r)) rfl rfl 103 _ z0.out (qcD _ (qbz _)) (rows_size _ _ (qbz _) (qbz _)) (qar _) ?_);go_roundw
     case rel=>exact⟨n+1,by omega,by go_num,kR.out,by rw[zL.out];exact k6.out,k7.out,kb⟩
     case measure=>simp[intOf]<;>omega
   ·have hd:decide ((0:Int)≤(255:Int)-(n:Int))=false:=by simp;omega
    obtain rfl:n=256:=by omega
    have zq:=hid (fun (W:World) (hW:PrmQ W)=>CP.out _ W zc hW);obtain⟨q,hq⟩:∃ q,mulP p l 256=q:=⟨_,rfl⟩;rw[hq]at zq z0;have zK:=hid hq;clear hq zc CP CB CS CO zm zl zk;go_wp2_with (with_reducible refine jlw rfl 103 _ rfl g6 rfl 103 _ (0,0) _ z0.out underlying103 rfl (qcD _ (qbz _)) ?_);refine (zq.out wr HP.out).mono ?_;rintro e V1⟨rfl,bk⟩;replace hb:=hb.trans (bk.mono hB.out);have HN:=hkp HR bk;clear HR z0 z1 HP hB bk;go_wp2_with (with_reducible refine jsr rfl 63 _ _ rfl (B+1) (uc (ptL q)) rfl rfl 63 _ HN.out (qaR _ (qas _)) (qaU _ (qas _)) (qar _) ?_);exact jpr (qaC (by rfl) _ _ (B+1) 63 _ (0,0) _ rfl (jsh _ _ _ _ _ _ HN.out) underlying63 rfl (qaR _ (qas _))) rfl ⟨by rw[zK.out];rfl,by rw[zJ.out];exact jbr hb (by omega) _⟩
theorem ptMulT_any(p:PtN)(s:ByteArray)(w:World)(hp:p.Ok)(hT:PrmQ w):Rt 74 #[.agg (uc (ptL p)),.string s] w (.tuple #[.agg (uc (ptL (qbB p s))),.int .i64 (mulET s)]):=by
 unfold Rt;by_cases h:s.size=32
 ·rw[qbB,mulET,if_pos h,if_pos h];exact ptMul_any p s w hp h hT
 ·rw[qbB,mulET,if_neg h,if_neg h];exact ptMulBad_any p s w h
def tBytes(base:Nat)(n:Nat)(l:List UInt8):Told:=⟨fun w v=>∃ g z0:Nat,v=.slice (some ⟨g,0,none⟩) n z0∧OwnS w base g z0 (Lib.byteCells l),fun w w' v hb ⟨g,z0,h1,h2⟩=>⟨g,z0,h1,h2.stays hb⟩⟩
theorem byte_told(s:ByteArray)(i:Nat)(b:UInt8)(h:s.data.toList.getD i 0=b)(hi:i<s.size):∀ k:i<s.size,((s[i]'k).toNat:Int)=(b.toNat:Int):=fun k=>by
 rw[← h,qc1 s i k]
theorem top_or(x y:Nat)(hy:y<57896044618658097711785492504343953926634992332820282019728792003956564819968):bits .or .u8 (((leF y 32).getD 31 0).toNat:Int) ((((leF x 32).getD 0 0).toNat:Int)*128%256)=((UInt8.ofNat (((leF y 32).getD 31 0).toNat+128*(x%2))).toNat:Int):=by
 obtain⟨t1,_⟩:=leF_top y (x%2) hy (by omega);have h0:((leF x 32).getD 0 0).toNat=x%256:=by rw[leF_get _ _ _ (by decide),UInt8.toNat_ofNat',Nat.pow_zero,Nat.div_one]
 have e:(((leF x 32).getD 0 0).toNat:Int)*128%256=((x%2:Nat):Int)*128:=by
  rw[h0];omega
 rw[e,or_bit7 _ _ t1 (by omega),UInt8.toNat_ofNat'];omega
theorem ptBytes_any(p:PtN)(w:World)(hp:p.Ok)(hT:PrmQ w):Rt 47 #[.agg (uc (ptL p))] w (.string (txtP p)):=by
 unfold Rt;have zq:invF p.z<pF:=qa4 _ _;have zc:=hid (fun (W:World) (hW:PrmQ W)=>qd9 p W hp hW);have zi:=hid (fun (W:World) (hW:PrmQ W)=>invF_any p.z W hp.2.2.1);have z3:=hid (fun (W:World) (hW:PrmQ W)=>qaS p.x (invF p.z) W hp.1 zq);have z4:=hid (fun (W:World) (hW:PrmQ W)=>qaS p.y (invF p.z) W hp.2.1 zq);have zh:mulF p.y (invF p.z)<57896044618658097711785492504343953926634992332820282019728792003956564819968:=Nat.lt_trans (qaT _ _) (by decide);have ze:Hid (txtP p=⟨(leF (mulF p.y (invF p.z)+mulF p.x (invF p.z)%2*57896044618658097711785492504343953926634992332820282019728792003956564819968) 32).toArray⟩):=hid rfl;have hn:numL p=row4 p.x p.y p.z p.t:=rfl;rw[hn]at zc;clear hn hp zq;generalize invF p.z=i at *;skip;have Lp:=hid (qas p);generalize ptL p=pl at *;generalize txtP p=tp at *;obtain⟨a,b,c,d⟩:=p;dsimp only at zc zi z3 z4 zh ze;generalize mulF a i=xa at *;generalize mulF b i=ya at *;have z8:=hid (fun (W:World)=>qfC xa W);have z9:=hid (fun (W:World)=>qfC ya W);obtain⟨_,zy⟩:=leF_top ya (xa%2) zh (by omega);have zp:=top_or xa ya zh;rw[← zy]at ze;clear zy zh;have zm:(leF xa 32).length=32:=qbb _ _;have zn:(leF ya 32).length=32:=qbb _ _;have zf:=byte_told (⟨(leF xa 32).toArray⟩:ByteArray) 0 _ rfl (by show 0<(leF xa 32).toArray.size;simp[zm]);have zo:(⟨(leF xa 32).toArray⟩:ByteArray).size=32:=by show (leF xa 32).toArray.size=32;simp[zm]
 have zx:(⟨(leF ya 32).toArray⟩:ByteArray).size=32:=by show (leF ya 32).toArray.size=32;simp[zn]
 have zv:(⟨(leF xa 32).toArray⟩:ByteArray).data.toList=leF xa 32:=rfl;have zw:(⟨(leF ya 32).toArray⟩:ByteArray).data.toList=leF ya 32:=rfl;rw[zv]at zf;generalize (⟨(leF xa 32).toArray⟩:ByteArray)=tx at *;generalize (⟨(leF ya 32).toArray⟩:ByteArray)=ty at *;generalize leF ya 32=ly at *;generalize ((leF xa 32).getD 0 0).toNat=x0 at *;clear zv zm;have zD:=hid zx;have zB:=hid zw;have zd:=hid zn;have zr:=hid zp;have zz:=hid zf;have zC:=hid zo;clear zx zw zn zp zf zo;obtain⟨hz,hi⟩:=jzi qbR;obtain⟨hzn,zI⟩:=jzi qc3;obtain⟨hzp,zJ⟩:=jzi qch;have hb:=qaf w (.cells (uc pl) 63);have HP:=hid (hT.step hb);have HQ:=hid (qad w (.cells (uc pl) 63));clear hi zI zJ hT;go_enter func47,ntmps47;go_wp2_with (with_reducible refine jlw rfl 63 _ rfl w.heap.size rfl 63 _ (0,0) _ HQ.out underlying63 rfl (qaR _ Lp.out) ?_);generalize (w.alloc _)=W0 at *;have hB:=hid hb.size;generalize zt:w.heap.size=B at *;have zA:=hid zt;clear zt;refine (zc.out W0 HP.out).mono ?_;rintro e W1⟨rfl,bk⟩;replace hb:=hb.trans (bk.mono hB.out);replace HP:=hid (HP.out.step bk);replace hB:=hid (jlt hB.out bk.size);replace HQ:=hkp HQ bk;clear bk;have HN:=hid (qad W1 (.cells zrow4 103));have bn:=qaf W1 (.cells zrow4 103);have z7:=hid (jsh _ W1.heap.size _ (uc (row4 a b c d)) _ _ HN.out)
 go_wp2_with (first|(with_reducible refine jsr rfl 103 _ _ rfl W1.heap.size (uc (row4 a b c d)) rfl rfl 103 _ HN.out (qcD _ (qa6 _ _ _ _)) (qaU _ (qa6 _ _ _ _)) (qar _) ?_)|(with_reducible refine wpList_load_in4 rfl _ rfl W1.heap.size 8 rfl 103 _ _ (0,0) z7.out (qae _ _) (qeN _ _ _ _) ?_));have bk:=jbr bn (jlr _) (uc (row4 a b c d));have b_g3:=hid hB.out;replace hb:=hb.trans (bk.mono hB.out);replace HP:=hid (HP.out.step bk);replace hB:=hid (jlt hB.out bk.size);replace HQ:=hkp HQ bk;clear bk;have z1:=z7;generalize (World.setRow (World.alloc _ _) _ _)=W2 at *;generalize W1.heap.size=g3 at *;clear bn HN z7
 try simp only[Act.put]
 refine (zi.out W2 HP.out).mono ?_;rintro e W3⟨rfl,bk⟩;replace hb:=hb.trans (bk.mono hB.out);replace HP:=hid (HP.out.step bk);replace hB:=hid (jlt hB.out bk.size);replace HQ:=hkp HQ bk;replace z1:=hkp z1 bk;clear bk;have HN:=hid (qad W3 (.cells zeros4 61));have bn:=qaf W3 (.cells zeros4 61);have zb:=hid (jsh _ W3.heap.size _ (uc (limN 4 i)) _ _ HN.out);go_wp2_with (first|(with_reducible refine jsr rfl 61 _ _ rfl W3.heap.size (uc (limN 4 i)) rfl rfl 61 _ HN.out (qal _) (qaw _) (qar _) ?_));have bk:=jbr bn (jlr _) (uc (limN 4 i));have b_g4:=hid hB.out;replace hb:=hb.trans (bk.mono hB.out);replace HP:=hid (HP.out.step bk);replace hB:=hid (jlt hB.out bk.size);replace HQ:=hkp HQ bk;replace z1:=hkp z1 bk;clear bk;have z5:=zb;generalize (World.setRow (World.alloc _ _) _ _)=W4 at *;generalize W3.heap.size=g4 at *;clear bn HN zb
 try simp only[Act.put]
 refine qaA 12 33 [(Told.val (.pointer (some ⟨g3,0,none⟩)),[3]),
  (Told.val (.agg (uc (limN 4 a))),[12]),
  (Told.val (.agg (uc (limN 4 i))),[4]),
  (Told.val (.agg (uc (limN 4 xa))),[13,14]),
  (Told.val (.string tx),[15]),
  (Told.val (.pointer (some ⟨g3,4,none⟩)),[3]),
  (Told.val (.agg (uc (limN 4 b))),[17]),
  (Told.val (.agg (uc (limN 4 i))),[4]),
  (Told.val (.agg (uc (limN 4 ya))),[18,19]),
  (Told.val (.string ty),[20]),
  (tBytes W4.heap.size 32 ly,[21]),
  (Told.val (.string tx),[16])]
  (by kernel_rfl) (by kernel_rfl) rfl ?_ ?_
 ·simp only[take_succ_cons,List.take_zero,qaQ,and_true];refine⟨?_,?_,?_,?_,?_,?_,?_,?_,?_,?_,?_,?_⟩
  ·intro z0 w hb h;have e0:z0.tmps.getD 3 undef=.pointer (some ⟨g3,0,none⟩):=h 3 (by simp);simp only[getD_eq_getD_getElem?]at e0;refine qan ?_;simp[go_sem,e0,qaa]
  ·intro z0 w hb h;have e0:z0.tmps.getD 12 undef=.pointer (some ⟨g3,0,none⟩):=h 12 (by simp);exact qan (qat (.tmp 12) rfl (g3) 0 e0 103 _ _ (0,0) (hkq z1 hb) (qae _ _) (qec _ _ _ _))
  ·intro z0 w hb h;have e0:z0.tmps.getD 4 undef=.pointer (some ⟨g4,0,none⟩):=h 4 (by simp);exact qan (qab 61 (.tmp 4) rfl (g4) e0 61 _ (0,0) _ (hkq z5 hb) underlying61 rfl (qal _))
  ·intro z0 w hb h;have e0:z0.tmps.getD 13 undef=.agg (uc (limN 4 a)):=h 13 (by simp);have e1:z0.tmps.getD 14 undef=.agg (uc (limN 4 i)):=h 14 (by simp);simp only[getD_eq_getD_getElem?]at e0 e1;refine qan ?_;simp[go_sem,e0,e1,qaa];exact z3.out w (HP.out.step hb)
  ·intro z0 w hb h;have e0:z0.tmps.getD 15 undef=.agg (uc (limN 4 xa)):=h 15 (by simp);simp only[getD_eq_getD_getElem?]at e0;refine qan ?_;simp[go_sem,e0,qaa];exact z8.out w
  ·intro z0 w hb h;have e0:z0.tmps.getD 3 undef=.pointer (some ⟨g3,0,none⟩):=h 3 (by simp);simp only[getD_eq_getD_getElem?]at e0;refine qan ?_;simp[go_sem,e0,qaa]
  ·intro z0 w hb h;have e0:z0.tmps.getD 17 undef=.pointer (some ⟨g3,4,none⟩):=h 17 (by simp);exact qan (qat (.tmp 17) rfl (g3) 4 e0 103 _ _ (0,0) (hkq z1 hb) (qae _ _) (qed _ _ _ _))
  ·intro z0 w hb h;have e0:z0.tmps.getD 4 undef=.pointer (some ⟨g4,0,none⟩):=h 4 (by simp);exact qan (qab 61 (.tmp 4) rfl (g4) e0 61 _ (0,0) _ (hkq z5 hb) underlying61 rfl (qal _))
  ·intro z0 w hb h;have e0:z0.tmps.getD 18 undef=.agg (uc (limN 4 b)):=h 18 (by simp);have e1:z0.tmps.getD 19 undef=.agg (uc (limN 4 i)):=h 19 (by simp);simp only[getD_eq_getD_getElem?]at e0 e1;refine qan ?_;simp[go_sem,e0,e1,qaa];exact z4.out w (HP.out.step hb)
  ·intro z0 w hb h;have e0:z0.tmps.getD 20 undef=.agg (uc (limN 4 ya)):=h 20 (by simp);simp only[getD_eq_getD_getElem?]at e0;refine qan ?_;simp[go_sem,e0,qaa];exact z9.out w
  ·intro z0 w hb h;have e0:z0.tmps.getD 21 undef=.string ty:=h 21 (by simp);simp only[getD_eq_getD_getElem?]at e0;obtain⟨zs,zu,z2,zH⟩:=qgG ty w;rw[zD.out]at zu;rw[zB.out]at z2;simp[go_sem,e0,qai,zu];exact⟨zH,_,_,rfl,⟨hb.size,z2.le,z2.cells,z2.room⟩⟩
  ·intro z0 w hb h;have e0:z0.tmps.getD 16 undef=.string tx:=h 16 (by simp);simp only[getD_eq_getD_getElem?]at e0;refine qan ?_;simp[go_sem,e0,qaa]
 ·simp only[zks,qaW,Act.put,zkt];rintro X bk v12 zK v13 zL v14 zM v15 zN v16 zO v17 zP v18 zQ v19 zR v20 zS v21 zT v22⟨g,zs,zU,zg⟩ v5 q5;obtain rfl:=zK.symm;obtain rfl:=zL.symm;obtain rfl:=zM.symm;obtain rfl:=zN.symm;obtain rfl:=zO.symm;obtain rfl:=zP.symm;obtain rfl:=zQ.symm;obtain rfl:=zR.symm;obtain rfl:=zS.symm;obtain rfl:=zT.symm;obtain rfl:=zU.symm;obtain rfl:=q5.symm;replace hb:=hb.trans (bk.mono hB.out);have zF:B≤g:=jlt hB.out zg.base;clear bk HP z1 z5 HQ zc zi z3 z4 z8 z9 hB;go_wp2_with fail;obtain⟨zk,zE⟩:=qdp zg 31 (by rw[zd.out];decide);have ka:=jcr zk;have hi31:(31:Int)<(32:Int):=by omega
  have zf:=zz.out;have zo:=zC.out;have hl0:0<tx.size:=by omega
  have hi0:(0:Int)<(tx.size:Int):=by omega
  generalize ly.getD 31 0=zj at *;refine qak 7 (by kernel_rfl) (by kernel_rfl) ?_;simp only[zks]
  repeat (first|go_big_quiet_step (fail)|quiet_step (fail))
  refine jqn ?_;intro X1 zl;have z6:=zg.stays zl;replace hb:=hb.trans (zl.mono (jlt (by omega) (jll (jbc zk))));obtain⟨c1,f1⟩:=qdp z6 31 (by rw[zd.out];decide);have za:=qdQ z6 31 (by rw[zd.out];decide) (UInt8.ofNat (zj.toNat+128*(xa%2)));have ht:=qcW za (n:=32) (by rw[List.length_set];exact zd.out) zs;have zG:=hb.setCell (p:=⟨g,31,none⟩) zF (.int .u8 ((UInt8.ofNat (zj.toNat+128*(xa%2))).toNat:Int));rw[← ze.out]at ht;have zp:=zr.out;clear zr ze;generalize UInt8.ofNat (zj.toNat+128*(xa%2))=cb at *;clear hb zl zg z6 za ka zk zE;go_wp2_with fail;go_ret;exact⟨rfl,by rw[zA.out];exact zG⟩
theorem qgj{ops:Array Oper}{rest:List Oper}{o:Oper}{a:Act}{w:World}{Q:Exit→Act→World→Prop}(hw:Region.wanted o (yielded ops a.tmps)=true)(x y:Operand)(ho:o.op=.binOp .eql 61 x y 61)(l m:List Nat)(b:Bool)
  (hl:l.length=4) (hm:m.length=4) (hx:a.eval x=.agg (uc l)) (hy:a.eval y=.agg (uc m)) (hb:decide (l=m)=b)
  (h:wpList Tryz.prog ops Q rest (a.put o.dst (.bool b)) w):wpList Tryz.prog ops Q (o :: rest) a w:=
 BigFrame.wpList_want hw fun _ hK=>by
  have e1:(eqGuard .eql 61 x y (.agg (uc l)) (.agg (uc m))).run Tryz.prog w=.ok () w:=run_eqGuard_agg w .eql 61 x y _ _ (by kernel_rfl);have e2:(binOp .eql 61 (.agg (uc l)) (.agg (uc m))).run Tryz.prog w=.ok (.bool b) w:=by
   rw[run_eql_struct,num_eq l m hl hm];simp only[Result.andThen_ok,hb]
  unfold Oper.wp execOp;simp only[ho,hx,hy,Sem.run_bind,e1,e2,Result.andThen_ok];exact hK _ _ h
theorem qf4{ops:Array Oper}{rest:List Oper}{o:Oper}{a:Act}{w:World}{Q:Exit→Act→World→Prop}(hw:Region.wanted o (yielded ops a.tmps)=true)(ho:o.op=.build 61 #[])
  (h:wpList Tryz.prog ops Q rest (a.put o.dst (.agg (uc (limN 4 0)))) w):wpList Tryz.prog ops Q (o :: rest) a w:=
 BigFrame.wpList_want hw fun _ hK=>qei 61 #[] ho _ (by rw[Array.map_empty,← qeW];exact qgF w) (hK _ _ h)
theorem ptOfBad_any(s:ByteArray)(w:World)(h:s.size≠32):Rt 72 #[.string s] w (.tuple #[.agg (uc (ptL zeroP)),.int .i64 1]):=by
 unfold Rt;obtain⟨z5,z4⟩:=jzi qch;have d1:((s.size:Int) != 32)=true:=by simp;omega
 have z1:=hid (qad w (.cells zrow4 63));have z0:=qaf w (.cells zrow4 63);have CZ:=hid qfH;clear z4 h;go_enter func72,ntmps72;go_wp2_with fail;clear z5;generalize (w.alloc _)=W0 at *;have hB:=z0.size;generalize z2:w.heap.size=B at *;refine (CZ.out W0).mono ?_;rintro e W1⟨rfl,bk⟩;have HR:=hkp z1 bk;have z3:=z0.trans (bk.mono hB);clear z1 z0 bk;go_wp2_with (with_reducible refine jsr rfl 63 _ _ rfl B (uc (ptL zeroP)) rfl rfl 63 _ HR.out (qaR _ (qas _)) (qaU _ (qas _)) (qar _) ?_);exact jpr (qaC (by rfl) _ _ B 63 _ (0,0) _ rfl (jsh _ _ _ _ _ _ HR.out) underlying63 rfl (qaR _ (qas _))) rfl ⟨rfl,by rw[z2];exact jbr z3 (jlr _) _⟩
def ansP(z0:Bool)(y r:Nat)(is z1:Bool):PtN:=if z0&&is&&!(z1&&decide (r=0)) then ⟨if z1 then subF 0 r else r,y,1,mulF (if z1 then subF 0 r else r) y⟩ else zeroP
def ansE(z0:Bool)(r:Nat)(is z1:Bool):Int:=if z0&&is&&!(z1&&decide (r=0)) then 0 else 21
theorem ptOfL_any(s:ByteArray)(z3 is zk:Bool)(y r t:Nat)(w:World)(hs:s.size=32)(zs:y<pF)(zj:r<pF)(hT:PrmQ w)(hneg:((t:Int)==1)=zk)
  (zc:∀ W:World,Calls Tryz.prog 127 #[.string s] W fun e w'=>e=.returned (.tuple #[.agg (uc (limN 4 y)),.bool z3])∧Below W.heap.size W w')
  (zd:∀ W:World,PrmQ W→Calls Tryz.prog 128 #[.agg (uc (limN 4 y))] W fun e w'=>e=.returned (.tuple #[.agg (uc (limN 4 r)),.bool is])∧Below W.heap.size W w')
  (zb:∀ W:World,Calls Tryz.prog 129 #[.string s,.int .i64 255] W fun e w'=>e=.returned (.int .i64 (t:Int))∧Below W.heap.size W w') :
  Rt 72 #[.string s] w (.tuple #[.agg (uc (ptL (ansP z3 y r is zk))),.int .i64 (ansE z3 r is zk)]):=by
 unfold Rt;have d1:((s.size:Int) != 32)=false:=by simp;omega
 have HT:=hid hT;have zG:=hid hT.lt;have zw:=hid zc;have zx:=hid zd;have zv:=hid zb;have CZ:=hid qfH;have zu:Hid (∀ W:World,Calls Tryz.prog 131 #[.int .i64 1] W fun e w'=>e=.returned (.agg (uc (limN 4 1)))∧Below W.heap.size W w'):=hid (fun W=>qci 1 W (by decide));have zl:=hid (fun (W:World) (hW:PrmQ W)=>qcA 0 r W (by decide) zj hW);have zF:subF 0 r<pF:=qbt _ _;have za:=hid (fun (x:Nat) (hx:x<pF) (W:World)=>qaS x y W hx zs);have zt:Hid (∀ x:Nat,x<pF→∀ W:World,PrmQ W→Calls Tryz.prog 132 #[.agg (uc (row4 x y 1 (mulF x y)))] W fun e w'=>e=.returned (.agg (uc (ptL ⟨x,y,1,mulF x y⟩)))∧Below W.heap.size W w'):=hid (fun x hx W hW=>point_any ⟨x,y,1,mulF x y⟩ W ⟨hx,zs,(by decide:1<pF),qaT _ _⟩ hW);have zf:Hid (∀ l i n:Bool,ansP l y r i n=if l&&i&&!(n&&decide (r=0)) then ⟨if n then subF 0 r else r,y,1,mulF (if n then subF 0 r else r) y⟩ else zeroP):=hid (fun _ _ _=>rfl);have ze:Hid (∀ l i n:Bool,ansE l r i n=if l&&i&&!(n&&decide (r=0)) then 0 else 21):=hid (fun _ _ _=>rfl);have zA:=hid (lim_same r 0 zj qdx);have zC:=hid (qae 4 r);have zB:=hid (qae 4 0);have zz:=hid zj;have zy:=hid zF;clear zc zd zb zs zj zF hs;obtain⟨hz,hi⟩:=jzi qbR;obtain⟨zJ,zH⟩:=jzi qc3;obtain⟨zK,zI⟩:=jzi qch;have hb:=qaf w (.cells zrow4 63);have HP:=hid (hT.step hb);have HR:=hid (qad w (.cells zrow4 63));clear hi zH zI hT;go_enter func72,ntmps72;go_wp2_with fail
 try clear zJ
 try clear zK
 generalize (w.alloc _)=W0 at *;have hB:=hid hb.size;generalize zD:w.heap.size=B at *;have zg:=hid zD;clear zD;refine (zw.out W0).mono ?_;rintro e W1⟨rfl,bk⟩;replace hb:=hb.trans (bk.mono hB.out);replace HP:=hid (HP.out.step bk);replace hB:=hid (jlt hB.out bk.size);replace HR:=hkp HR bk;clear bk;have r_g4_HR:=hid (qac HR.out);have HN:=hid (qad W1 (.cells zeros4 61));have bn:=qaf W1 (.cells zeros4 61);have z9:=hid (jsh _ W1.heap.size _ (uc (limN 4 y)) _ _ HN.out);go_wp2_with (first|(with_reducible refine jsr rfl 61 _ _ rfl W1.heap.size (uc (limN 4 y)) rfl rfl 61 _ HN.out (qal _) (qaw _) (qar _) ?_)|(with_reducible refine jlw rfl 61 _ rfl (W1.heap.size) rfl 61 _ (0,0) _ z9.out underlying61 rfl (qal _) ?_));have bk:=jbr bn (jlr _) (uc (limN 4 y));have b_g4:=hid hB.out;replace hb:=hb.trans (bk.mono hB.out);replace HP:=hid (HP.out.step bk);replace hB:=hid (jlt hB.out bk.size);replace HR:=hkp HR bk;clear bk;have z0:=z9;generalize (World.setRow (World.alloc _ _) _ _)=W2 at *;generalize W1.heap.size=g4 at *;clear bn HN z9
 try simp only[Act.put]
 refine (zx.out W2 HP.out).mono ?_;rintro e W3⟨rfl,bk⟩;replace hb:=hb.trans (bk.mono hB.out);replace HP:=hid (HP.out.step bk);replace hB:=hid (jlt hB.out bk.size);replace HR:=hkp HR bk;replace z0:=hkp z0 bk;clear bk;have z6:=hid (qac HR.out);have z4:=hid (qac z0.out);have HN:=hid (qad W3 (.cells zeros4 61));have bn:=qaf W3 (.cells zeros4 61);have zi:=hid (jsh _ W3.heap.size _ (uc (limN 4 r)) _ _ HN.out);go_wp2_with (first|(with_reducible refine jsr rfl 61 _ _ rfl W3.heap.size (uc (limN 4 r)) rfl rfl 61 _ HN.out (qal _) (qaw _) (qar _) ?_));have bk:=jbr bn (jlr _) (uc (limN 4 r));have zp:=hid hB.out;replace hb:=hb.trans (bk.mono hB.out);replace HP:=hid (HP.out.step bk);replace hB:=hid (jlt hB.out bk.size);replace HR:=hkp HR bk;replace z0:=hkp z0 bk;clear bk;have z1:=zi;generalize (World.setRow (World.alloc _ _) _ _)=W4 at *;generalize W3.heap.size=g6 at *;clear bn HN zi
 try simp only[Act.put]
 refine (zv.out W4).mono ?_;rintro e W5⟨rfl,bk⟩;replace hb:=hb.trans (bk.mono hB.out);replace HP:=hid (HP.out.step bk);replace hB:=hid (jlt hB.out bk.size);replace HR:=hkp HR bk;replace z0:=hkp z0 bk;replace z1:=hkp z1 bk;clear bk;clear zw zx zv
 cases z3 with
 | false=>
  go_wp2_with fail;refine (CZ.out _).mono ?_;rintro e X⟨rfl,bk⟩;replace hb:=hb.trans (bk.mono hB.out);replace HR:=hkp HR bk;go_wp2_with (with_reducible refine jsr rfl 63 _ _ rfl B (uc (ptL zeroP)) rfl rfl 63 _ HR.out (qaR _ (qas _)) (qaU _ (qas _)) (qar _) ?_);exact jpr (qaC (by rfl) _ _ B 63 _ (0,0) _ rfl (jsh _ _ _ _ _ _ HR.out) underlying63 rfl (qaR _ (qas _))) rfl ⟨by rw[zf.out,ze.out];rfl,by rw[zg.out];exact jbr hb (jlr _) _⟩
 | true=>
  cases is with
  | false=>
   go_wp2_with fail;refine (CZ.out _).mono ?_;rintro e X⟨rfl,bk⟩;replace hb:=hb.trans (bk.mono hB.out);replace HR:=hkp HR bk;go_wp2_with (with_reducible refine jsr rfl 63 _ _ rfl B (uc (ptL zeroP)) rfl rfl 63 _ HR.out (qaR _ (qas _)) (qaU _ (qas _)) (qar _) ?_);exact jpr (qaC (by rfl) _ _ B 63 _ (0,0) _ rfl (jsh _ _ _ _ _ _ HR.out) underlying63 rfl (qaR _ (qas _))) rfl ⟨by rw[zf.out,ze.out];rfl,by rw[zg.out];exact jbr hb (jlr _) _⟩
  | true=>
   cases zE:zk with
   | false=>
    subst zE;have z7:=hid (za.out _ zz.out);have zm:=hid (zt.out _ zz.out);have z5:Hid (ptL (ansP true y r true false)=ptL ⟨r,y,1,mulF (r) y⟩∧ansE true r true false=0):=hid (by rw[zf.out,ze.out];exact⟨rfl,rfl⟩);generalize zh:ptL ⟨r,y,1,mulF (r) y⟩=pl at *;have Lp:Hid (pl.length=16):=hid (by rw[← zh];exact qas _);clear zh;generalize mulF (r) y=xy at *;go_wp2_with fail;refine qao 8 53 [.val (.agg (uc (limN 4 r))) [(6,.pointer (some ⟨g6,0,none⟩))],
   .val (.agg (uc (limN 4 y))) [(4,.pointer (some ⟨g4,0,none⟩))],
   .val (.agg (uc (limN 4 1))) [],
   .val (.agg (uc (limN 4 r))) [(6,.pointer (some ⟨g6,0,none⟩))],
   .val (.agg (uc (limN 4 y))) [(4,.pointer (some ⟨g4,0,none⟩))],
   .val (.agg (uc (limN 4 xy))) [(48,.agg (uc (limN 4 r))),(49,.agg (uc (limN 4 y)))],
   .val (.agg (uc (row4 r y 1 xy))) [(45,.agg (uc (limN 4 r))),(46,.agg (uc (limN 4 y))),(47,.agg (uc (limN 4 1))),(50,.agg (uc (limN 4 xy)))],
   .val (.agg (uc pl)) [(51,.agg (uc (row4 r y 1 xy)))]] (by kernel_rfl) (by kernel_rfl) rfl ?_ ?_ ?_
    ·simp only[take_succ_cons,List.take_zero,qaO,qaP,HeadSpec.val,HeadSpec.fresh,and_true];refine⟨?_,?_,?_,?_,?_,?_,?_,?_⟩
     ·intro z2 w hb h;exact qab 61 (.tmp 6) rfl (g6) (sd0 h) 61 _ (0,0) _ (hkq z1 hb) underlying61 rfl (qal _)
     ·intro z2 w hb h;exact qab 61 (.tmp 4) rfl (g4) (sd0 h) 61 _ (0,0) _ (hkq z0 hb) underlying61 rfl (qal _)
     ·intro z2 w hb h;simp[go_sem,qaa];exact zu.out w
     ·intro z2 w hb h;exact qab 61 (.tmp 6) rfl (g6) (sd0 h) 61 _ (0,0) _ (hkq z1 hb) underlying61 rfl (qal _)
     ·intro z2 w hb h;exact qab 61 (.tmp 4) rfl (g4) (sd0 h) 61 _ (0,0) _ (hkq z0 hb) underlying61 rfl (qal _)
     ·intro z2 w hb h;simp[go_sem,rd0 h,rd1 h,qaa];exact z7.out w
     ·intro z2 w hb h;exact qc6 (.tmp 45) (.tmp 46) (.tmp 47) (.tmp 50) rfl _ _ _ _ (sd0 h) (sd1 h) (sd2 h) (sd3 h)
     ·intro z2 w hb h;simp[go_sem,rd0 h,qaa];exact zm.out w (HP.out.step hb)
    ·simp[qay,qax,qaK,HeadSpec.val,HeadSpec.fresh,Act.put]
    ·simp only[zks,qaN,HeadSpec.val,HeadSpec.fresh,Act.put,zkt];intro v1 z8 zr;have HN:=hkp HR z8;have zo:=hid (jsh v1 B _ (uc pl) _ _ HN.out);have zq:Below B w (v1.setRow B (uc pl)):=jbr (hb.trans (z8.mono hB.out)) (jlr _) _;clear zr z8 hb;go_wp2_with (with_reducible refine jsr rfl 63 _ _ rfl B (uc pl) rfl rfl 63 _ HN.out (qaR _ Lp.out) (qaU _ Lp.out) (qar _) ?_);exact jpr (qaC (by rfl) _ _ B 63 _ (0,0) _ rfl zo.out underlying63 rfl (qaR _ Lp.out)) rfl ⟨by rw[z5.out.1,z5.out.2];rfl,by rw[zg.out];exact zq⟩
   | true=>
    subst zE;by_cases h0:r=0
    ·have zn:Hid (decide (limN 4 r=limN 4 0)=true):=hid (by rw[zA.out];simp[h0]);go_wp2_with (first|((with_reducible refine qf3 ?hw 61 _ rfl g6 rfl 61 _ (0,0) _ z1.out underlying61 rfl (qal _) ?_);(case hw=>rfl))|((with_reducible refine qf4 ?hw rfl ?_);(case hw=>rfl))|((with_reducible refine qgj ?hw _ _ rfl (limN 4 r) (limN 4 0) true zC.out zB.out rfl rfl zn.out ?_);(case hw=>rfl)));refine (CZ.out _).mono ?_;rintro e X⟨rfl,bk⟩;replace hb:=hb.trans (bk.mono hB.out);replace HR:=hkp HR bk;go_wp2_with (with_reducible refine jsr rfl 63 _ _ rfl B (uc (ptL zeroP)) rfl rfl 63 _ HR.out (qaR _ (qas _)) (qaU _ (qas _)) (qar _) ?_);exact jpr (qaC (by rfl) _ _ B 63 _ (0,0) _ rfl (jsh _ _ _ _ _ _ HR.out) underlying63 rfl (qaR _ (qas _))) rfl ⟨by rw[zf.out,ze.out];simp[h0],by rw[zg.out];exact jbr hb (jlr _) _⟩
    ·have zn:Hid (decide (limN 4 r=limN 4 0)=false):=hid (by rw[zA.out];simp[h0]);go_wp2_with (first|((with_reducible refine qf3 ?hw 61 _ rfl g6 rfl 61 _ (0,0) _ z1.out underlying61 rfl (qal _) ?_);(case hw=>rfl))|((with_reducible refine qf4 ?hw rfl ?_);(case hw=>rfl))|((with_reducible refine qgj ?hw _ _ rfl (limN 4 r) (limN 4 0) false zC.out zB.out rfl rfl zn.out ?_);(case hw=>rfl))|(with_reducible refine qfw rfl rfl ?_)|(with_reducible refine jlw rfl 61 _ rfl (g6) rfl 61 _ (0,0) _ z1.out underlying61 rfl (qal _) ?_));refine (zl.out _ HP.out).mono ?_;rintro e X⟨rfl,bk⟩;replace hb:=hb.trans (bk.mono hB.out);replace HP:=hid (HP.out.step bk);replace hB:=hid (jlt hB.out bk.size);replace HR:=hkp HR bk;replace z0:=hkp z0 bk;replace z1:=hkp z1 bk;clear bk;have k6:=hid (jsh X g6 _ (uc (limN 4 (subF 0 r))) _ _ z1.out);have k4:=hid ((jro X g6 g4 (uc (limN 4 (subF 0 r))) (by have:=z4.out;omega)).trans z0.out);have kR:=hid ((jro X g6 B (uc (limN 4 (subF 0 r))) (by have:=z6.out;omega)).trans HR.out);have kb:Below B w (X.setRow g6 (uc (limN 4 (subF 0 r)))):=jbr hb zp.out _;have kP:Hid (PrmQ (X.setRow g6 (uc (limN 4 (subF 0 r))))):=hid (HT.out.below kb zG.out);have kB:Hid (B≤(X.setRow g6 (uc (limN 4 (subF 0 r)))).heap.size):=hid (jll (qac kR.out));clear z0 HR hb hB HP
     go_wp2_with (with_reducible refine jsr rfl 61 _ _ rfl g6 (uc (limN 4 (subF 0 r))) rfl rfl 61 _ z1.out (qal _) (by rw[qa9,qa9,qae,qae]) (qar _) ?_);clear z1;generalize (World.setRow _ _ _)=X2 at *;have z0:=k4;have z1:=k6;have HR:=kR;have hb:=kb;have HP:=kP;have hB:=kB;clear k4 k6 kR kb kP kB;have z7:=hid (za.out _ zy.out);have zm:=hid (zt.out _ zy.out);have z5:Hid (ptL (ansP true y r true true)=ptL ⟨subF 0 r,y,1,mulF (subF 0 r) y⟩∧ansE true r true true=0):=hid (by rw[zf.out,ze.out];rw[show decide (r=0)=false by simp[h0]];exact⟨rfl,rfl⟩);generalize zh:ptL ⟨subF 0 r,y,1,mulF (subF 0 r) y⟩=pl at *;have Lp:Hid (pl.length=16):=hid (by rw[← zh];exact qas _);clear zh;generalize mulF (subF 0 r) y=xy at *;generalize subF 0 r=x at *;skip;refine qao 8 53 [.val (.agg (uc (limN 4 x))) [(6,.pointer (some ⟨g6,0,none⟩))],
   .val (.agg (uc (limN 4 y))) [(4,.pointer (some ⟨g4,0,none⟩))],
   .val (.agg (uc (limN 4 1))) [],
   .val (.agg (uc (limN 4 x))) [(6,.pointer (some ⟨g6,0,none⟩))],
   .val (.agg (uc (limN 4 y))) [(4,.pointer (some ⟨g4,0,none⟩))],
   .val (.agg (uc (limN 4 xy))) [(48,.agg (uc (limN 4 x))),(49,.agg (uc (limN 4 y)))],
   .val (.agg (uc (row4 x y 1 xy))) [(45,.agg (uc (limN 4 x))),(46,.agg (uc (limN 4 y))),(47,.agg (uc (limN 4 1))),(50,.agg (uc (limN 4 xy)))],
   .val (.agg (uc pl)) [(51,.agg (uc (row4 x y 1 xy)))]] (by kernel_rfl) (by kernel_rfl) rfl ?_ ?_ ?_
     ·simp only[take_succ_cons,List.take_zero,qaO,qaP,HeadSpec.val,HeadSpec.fresh,and_true];refine⟨?_,?_,?_,?_,?_,?_,?_,?_⟩
      ·intro z2 w hb h;exact qab 61 (.tmp 6) rfl (g6) (sd0 h) 61 _ (0,0) _ (hkq z1 hb) underlying61 rfl (qal _)
      ·intro z2 w hb h;exact qab 61 (.tmp 4) rfl (g4) (sd0 h) 61 _ (0,0) _ (hkq z0 hb) underlying61 rfl (qal _)
      ·intro z2 w hb h;simp[go_sem,qaa];exact zu.out w
      ·intro z2 w hb h;exact qab 61 (.tmp 6) rfl (g6) (sd0 h) 61 _ (0,0) _ (hkq z1 hb) underlying61 rfl (qal _)
      ·intro z2 w hb h;exact qab 61 (.tmp 4) rfl (g4) (sd0 h) 61 _ (0,0) _ (hkq z0 hb) underlying61 rfl (qal _)
      ·intro z2 w hb h;simp[go_sem,rd0 h,rd1 h,qaa];exact z7.out w
      ·intro z2 w hb h;exact qc6 (.tmp 45) (.tmp 46) (.tmp 47) (.tmp 50) rfl _ _ _ _ (sd0 h) (sd1 h) (sd2 h) (sd3 h)
      ·intro z2 w hb h;simp[go_sem,rd0 h,qaa];exact zm.out w (HP.out.step hb)
     ·simp[qay,qax,qaK,HeadSpec.val,HeadSpec.fresh,Act.put]
     ·simp only[zks,qaN,HeadSpec.val,HeadSpec.fresh,Act.put,zkt];intro v1 z8 zr;have HN:=hkp HR z8;have zo:=hid (jsh v1 B _ (uc pl) _ _ HN.out);have zq:Below B w (v1.setRow B (uc pl)):=jbr (hb.trans (z8.mono hB.out)) (jlr _) _;clear zr z8 hb;go_wp2_with (with_reducible refine jsr rfl 63 _ _ rfl B (uc pl) rfl rfl 63 _ HN.out (qaR _ Lp.out) (qaU _ Lp.out) (qar _) ?_);exact jpr (qaC (by rfl) _ _ B 63 _ (0,0) _ rfl zo.out underlying63 rfl (qaR _ Lp.out)) rfl ⟨by rw[z5.out.1,z5.out.2];rfl,by rw[zg.out];exact zq⟩
theorem odd_bit(l:List UInt8):(((bitP l 255:Nat):Int)==1)=oddP l:=by
 have h:=(l.getD 31 0).toNat_lt;have e:bitP l 255=(l.getD 31 0).toNat/128:=by
  show (l.getD 31 0).toNat/2^7%2=_;omega
 rw[oddP,e];by_cases h1:128≤(l.getD 31 0).toNat
 ·rw[show (l.getD 31 0).toNat/128=1 by omega,decide_eq_true h1];rfl
 ·rw[show (l.getD 31 0).toNat/128=0 by omega,decide_eq_false h1];rfl
theorem ansP_eq(l:List UInt8):ansP (decide (lowP l<pF)) (lowP l%pF) (qbj (sqrP (lowP l%pF))).1 (qbj (sqrP (lowP l%pF))).2 (oddP l)=ofP l∧ansE (decide (lowP l<pF)) (qbj (sqrP (lowP l%pF))).1 (qbj (sqrP (lowP l%pF))).2 (oddP l)=ofE l:=by
 rw[ofP,ofE,ansP,ansE];by_cases h:lowP l<pF
 ·rw[Nat.mod_eq_of_lt h];exact⟨rfl,rfl⟩
 ·have h1:decide (lowP l<pF)=false:=by simp[h]
  have h2:isP l=false:=by rw[isP,h1];rfl
  rw[h1,h2];constructor<;>simp only[Bool.false_and,Bool.false_eq_true,if_false]
theorem ptOf_any(s:ByteArray)(w:World)(hT:PrmQ w):Rt 72 #[.string s] w (.tuple #[.agg (uc (ptL (ofPT s))),.int .i64 (ofET s)]):=by
 unfold Rt;by_cases h:s.size=32
 ·rw[ofPT,ofET,if_pos h,if_pos h,← (ansP_eq s.data.toList).1,← (ansP_eq s.data.toList).2];exact ptOfL_any s (decide (lowP s.data.toList<pF)) (qbj (sqrP (lowP s.data.toList%pF))).2 (oddP s.data.toList) (lowP s.data.toList%pF) (qbj (sqrP (lowP s.data.toList%pF))).1 (bitP s.data.toList 255) w h (Nat.mod_lt _ qdx) (rootF_lt _) hT (odd_bit _) (fun W=>heightOf_any s W h) (fun W hW=>rootAt_any _ W (Nat.mod_lt _ qdx) hW) (fun W=>ptBit_any s 255 W h (by decide))
 ·rw[ofPT,ofET,if_neg h,if_neg h];exact ptOfBad_any s w h
theorem basT_of:ofPT (⟨basL.toArray⟩:ByteArray)=baseP:=if_pos (qbb _ 32)
theorem ptBase_any(w:World)(hT:PrmQ w):Rt 95 #[] w (.agg (uc (ptL baseP))):=by
 unfold Rt;have z2:Hid (∀ W:World,Calls Tryz.prog 131 #[.int .i64 4] W fun e w'=>e=.returned (.agg (uc (limN 4 4)))∧Below W.heap.size W w'):=hid (fun W=>qci 4 W (by decide));have z3:Hid (∀ W:World,Calls Tryz.prog 131 #[.int .i64 5] W fun e w'=>e=.returned (.agg (uc (limN 4 5)))∧Below W.heap.size W w'):=hid (fun W=>qci 5 W (by decide));have z8:invF 5<pF:=qa4 _ _;have z5:=hid (fun (W:World)=>invF_any 5 W (by decide));have z4:=hid (fun (W:World)=>qaS 4 (invF 5) W (by decide) z8);have z1:=hid (fun (W:World)=>qfC (mulF 4 (invF 5)) W);rw[show leF (mulF 4 (invF 5)) 32=basL from rfl]at z1;have z0:=hid (fun (W:World) (hW:PrmQ W)=>ptOf_any (⟨basL.toArray⟩:ByteArray) W hW);rw[basT_of]at z0;clear z8;generalize mulF 4 (invF 5)=m at *;generalize invF 5=v at *;generalize (⟨basL.toArray⟩:ByteArray)=tb at *;generalize ofET tb=eb at *;generalize baseP=bp at *;obtain⟨hz,hi⟩:=jzi qbR;obtain⟨hzn,zb⟩:=jzi qc3;obtain⟨hzp,zc⟩:=jzi qch;have hb:=qaf w (.cells zrow4 63);have HP:=hid (hT.step hb);have HR:=hid (qad w (.cells zrow4 63));clear hi zb zc hT;go_enter func95,ntmps95;go_wp2_with fail;generalize (w.alloc _)=W0 at *;have hB:=hid hb.size;generalize z7:w.heap.size=B at *;have z9:=hid z7;clear z7;refine (z2.out W0).mono ?_
 rintro e W1⟨rfl,bk⟩;replace hb:=hb.trans (bk.mono hB.out);replace HP:=hid (HP.out.step bk);replace hB:=hid (jlt hB.out bk.size);replace HR:=hkp HR bk;clear bk;go_wp2_with fail;refine (z3.out W1).mono ?_;rintro e W2⟨rfl,bk⟩;replace hb:=hb.trans (bk.mono hB.out);replace HP:=hid (HP.out.step bk);replace hB:=hid (jlt hB.out bk.size);replace HR:=hkp HR bk;clear bk;go_wp2_with fail;refine (z5.out W2).mono ?_;rintro e W3⟨rfl,bk⟩;replace hb:=hb.trans (bk.mono hB.out);replace HP:=hid (HP.out.step bk);replace hB:=hid (jlt hB.out bk.size);replace HR:=hkp HR bk;clear bk;go_wp2_with fail;refine (z4.out W3).mono ?_;rintro e W4⟨rfl,bk⟩;replace hb:=hb.trans (bk.mono hB.out);replace HP:=hid (HP.out.step bk);replace hB:=hid (jlt hB.out bk.size);replace HR:=hkp HR bk;clear bk;go_wp2_with fail;refine (z1.out W4).mono ?_;rintro e W5⟨rfl,bk⟩;replace hb:=hb.trans (bk.mono hB.out);replace HP:=hid (HP.out.step bk);replace hB:=hid (jlt hB.out bk.size);replace HR:=hkp HR bk;clear bk;go_wp2_with fail;refine (z0.out W5 HP.out).mono ?_;rintro e X⟨rfl,bk⟩;replace hb:=hb.trans (bk.mono hB.out);replace HP:=hid (HP.out.step bk);replace hB:=hid (jlt hB.out bk.size);replace HR:=hkp HR bk;clear bk;have HN:=hid (qad X (.cells zrow4 63));have hr:=qac HR.out;have q1:=hid (jsh _ X.heap.size _ (uc (ptL bp)) _ _ HN.out)
 have z6:Hid (((X.alloc (.cells zrow4 63)).setRow X.heap.size (uc (ptL bp))).heap[B]?=some (.cells zrow4 63)):=hid (by rw[jro _ _ _ _ (by omega)];exact qah HR.out);have za:Below B w ((X.alloc (.cells zrow4 63)).setRow X.heap.size (uc (ptL bp))):=jbr (hb.alloc (by omega) _) (by omega) _;clear z2 z3 z5 z4 z1 z0 HR hb HP;go_wp2_with (first
  | (with_reducible refine jsr rfl 63 _ _ rfl X.heap.size (uc (ptL bp)) rfl rfl 63 _ HN.out (qaR _ (qas _)) (qaU _ (qas _)) (qar _) ?_)
  | (with_reducible refine jlw rfl 63 _ rfl X.heap.size rfl 63 _ (0,0) _ q1.out underlying63 rfl (qaR _ (qas _)) ?_)
  | (with_reducible refine jsr rfl 63 _ _ rfl B (uc (ptL bp)) rfl rfl 63 _ z6.out (qaR _ (qas _)) (qaU _ (qas _)) (qar _) ?_))
 exact jpr (v:=.agg (uc (ptL bp))) (jrc (by rfl) _ _ B 63 _ (0,0) _ rfl (jsh _ _ _ _ _ _ z6.out) underlying63 rfl (qaR _ (qas _))) rfl ⟨rfl,by rw[z9.out];exact jbr za (jlr _) _⟩
end
end Go.Proofs.YteomfleofeeofaaGreatDoor
