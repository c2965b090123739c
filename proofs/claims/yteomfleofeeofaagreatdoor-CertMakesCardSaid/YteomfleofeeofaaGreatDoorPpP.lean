/- Points as the program keeps them: sixteen words; their parts read where they lie, four numbers put together; The program's numbers of a point, and the point of numbers; The program's d, and the sum of two points' numbers; The program's choice between two numbers, and between two points' numbers; The program's points: the neutral one, sums, the other way round; a bit of a text; The program's height of bytes, and whether they encode it as it is; The program's root at a height; The program's point so many times; The program's bytes of a point; The program's point of bytes, and the base. -/
import Derived.Test.YteomfleofeeofaaGreatDoorFldP
import Derived.Test.YteomfleofeeofaaGreatDoorRows
import Derived.ProofKit
import Derived.LaidMore
import Derived.OpenShut
import Derived.Stop.Joined
import Derived.Lib.LaidTab
import Derived.Test.YteomfleofeeofaaGreatDoorPtA
import Derived.Test.YteomfleofeeofaaGreatDoorConvS
import Derived.Test.YteomfleofeeofaaGreatDoorFldR
import Derived.Test.YteomfleofeeofaaGreatDoorToldG
import Derived.Test.YteomfleofeeofaaGreatDoorPrR
namespace Go.Proofs.YteomfleofeeofaaGreatDoor
open Go.Lib (hid)
open _root_.List (take_succ_cons drop_succ_cons set_cons_succ set_cons_zero setIfInBounds_toArray)
open _root_.Array (getD_eq_getD_getElem?)
set_option maxRecDepth 100000
set_option linter.unusedSimpArgs false
set_option linter.unusedVariables false
section
open Go.RowKit Go.Sort
def row4 (a b c d:Nat):List Nat:=limN 4 a++limN 4 b++limN 4 c++limN 4 d
theorem qa4 (a b c d:Nat):(row4 a b c d).length=16:=by simp [row4,qad]
def zrow4:Array Value:=uc (List.replicate 16 0)
theorem qda:(Tryz.prog.info? 103).map (fun i=>(i.zero,i.size))=some (some (.agg zrow4),16):=by kernel_rfl
theorem qcp:(Tryz.prog.info? 63).map (fun i=>(i.zero,i.size))=some (some (.agg zrow4),16):=by kernel_rfl
theorem qcq (l:List Nat) (h:l.length=16):(Tryz.prog.info? 103).map (·.size)=some (uc l).size:=by rw [qaY,h];exact (zero_of_info qda).2
theorem qbj (l:List Nat) (h:l.length=16):(Tryz.prog.info? 63).map (·.size)=some (uc l).size:=by rw [qaY,h];exact (zero_of_info qcp).2
theorem qa3 (l:List Nat) (h:l.length=16):zrow4.size=(uc l).size:=by rw [qaY,h];exact qaY _
theorem rows_size (l m:List Nat) (h:l.length=16) (k:m.length=16):(uc l).size=(uc m).size:=by rw [qaY,qaY,h,k]
theorem zrow4_row:zrow4=uc (row4 0 0 0 0):=rfl
theorem row_part (A B C:List Nat):((A++B++C).drop A.length).take B.length=B:=by simp [List.append_assoc]
theorem qd9 (a b c d:Nat):((row4 a b c d).drop 0).take 4=limN 4 a:=by
 have:=row_part [] (limN 4 a) (limN 4 b++limN 4 c++limN 4 d)
 rw [qad] at this;rwa [row4,List.append_assoc,List.append_assoc,← List.append_assoc (limN 4 b)]
theorem qea (a b c d:Nat):((row4 a b c d).drop 4).take 4=limN 4 b:=by
 have:=row_part (limN 4 a) (limN 4 b) (limN 4 c++limN 4 d)
 rw [qad,qad] at this;rwa [row4,List.append_assoc (limN 4 a++limN 4 b)]
theorem qeJ (a b c d:Nat):((row4 a b c d).drop 8).take 4=limN 4 c:=by
 have:=row_part (limN 4 a++limN 4 b) (limN 4 c) (limN 4 d)
 rw [List.length_append,qad,qad,qad] at this;exact this
theorem row4_3 (a b c d:Nat):((row4 a b c d).drop 12).take 4=limN 4 d:=by
 have:=row_part (limN 4 a++limN 4 b++limN 4 c) (limN 4 d) []
 rw [List.length_append,List.length_append,qad,qad,qad,qad,List.append_nil] at this;exact this
theorem qdS (l:List Nat) (h:l.length=4):∃ a b c d,l=[a,b,c,d]:=by
 match l,h with
 | [a,b,c,d],_=>exact ⟨a,b,c,d,rfl⟩
theorem build_ns (a b c d:Nat) (w:World):(Instr.build 103 #[(0,.agg (uc (limN 4 a))),(1,.agg (uc (limN 4 b))),(2,.agg (uc (limN 4 c))),(3,.agg (uc (limN 4 d)))]).run Tryz.prog w=.ok (.agg (uc (row4 a b c d))) w:=by
 unfold row4;obtain ⟨a1,a2,a3,a4,ha⟩:=qdS (limN 4 a) (qad _ _);obtain ⟨b1,b2,b3,b4,hb⟩:=qdS (limN 4 b) (qad _ _);obtain ⟨c1,c2,c3,c4,hc⟩:=qdS (limN 4 c) (qad _ _);obtain ⟨d1,d2,d3,d4,hd⟩:=qdS (limN 4 d) (qad _ _);rw [ha,hb,hc,hd]
 exact run_build w 103 _ _ (by kernel_rfl)
theorem build_point4 (a b c d:Nat) (w:World):(Instr.build 63 #[(0,.agg (uc (limN 4 a))),(1,.agg (uc (limN 4 b))),(2,.agg (uc (limN 4 c))),(3,.agg (uc (limN 4 d)))]).run Tryz.prog w=.ok (.agg (uc (row4 a b c d))) w:=by
 unfold row4;obtain ⟨a1,a2,a3,a4,ha⟩:=qdS (limN 4 a) (qad _ _);obtain ⟨b1,b2,b3,b4,hb⟩:=qdS (limN 4 b) (qad _ _);obtain ⟨c1,c2,c3,c4,hc⟩:=qdS (limN 4 c) (qad _ _);obtain ⟨d1,d2,d3,d4,hd⟩:=qdS (limN 4 d) (qad _ _);rw [ha,hb,hc,hd]
 exact run_build w 63 _ _ (by kernel_rfl)
theorem build_point0 (w:World):(Instr.build 63 #[]).run Tryz.prog w=.ok (.agg (uc (row4 0 0 0 0))) w:=by
 rw [← zrow4_row]
 exact run_build w 63 _ _ (by kernel_rfl)
theorem run_load_in4 (w:World) (g off:Nat) (t:TypeId) (l m:List Nat) (fr:Nat×Nat) (hg:w.heap[g]?=some (.cells (uc l) t fr)) (hm:m.length=4) (hp:(l.drop off).take 4=m) :
  (loadVar 61 ⟨g,off,none⟩).run Tryz.prog w=.ok (.agg (uc m)) w:=by
 have hlen:(m.map fun n:Nat=>Value.int .u64 (n:Int)).length=4:=by simp [hm]
 have hl:(loadCells ⟨g,off,none⟩ (m.map fun n:Nat=>Value.int .u64 (n:Int)).length).run Tryz.prog w=.ok (m.map fun n:Nat=>Value.int .u64 (n:Int)).toArray w:=
  run_loadCells_list (P:=Tryz.prog) w ⟨g,off,none⟩ (m.map fun n:Nat=>Value.int .u64 (n:Int)) (fun j v hv=>by
   have hadd:(⟨g,off,none⟩:Addr).add j=⟨g,off+j,none⟩:=by unfold Addr.add;split <;> simp_all
   have hj:j<4:=by have:=(List.getElem?_eq_some_iff.1 hv).1;omega
   simp only [List.getElem?_map,Option.map_eq_some_iff] at hv
   obtain ⟨x,hx,rfl⟩:=hv;rw [← hp,List.getElem?_take,if_pos hj,List.getElem?_drop] at hx;rw [hadd,cell_of_row w g _ _ t fr hg]
   simp [uc,nc,hx])
 rw [hlen] at hl;have hi:=(zero_of_info qbO).2
 cases hq:Tryz.prog.info? 61 with
 | none=>simp [hq] at hi
 | some i=>
  have hs:i.size=4:=by simpa [hq] using hi
  have hagg:(isAgg 61).run Tryz.prog w=.ok true w:=by
   unfold isAgg;rw [Sem.run_bind,run_underlying Tryz.underlying61 w]
   rfl
  simp [loadVar,Sem.run_bind,hagg,sizeOf,typeInfo,hq,hs,hl]
  rfl
theorem qas {o:Oper} {a:Act} {w:World} (x:Operand) (ho:o.op=.load 61 x) (g off:Nat) (hx:a.eval x=.pointer (some ⟨g,off,none⟩)) (t:TypeId) (l m:List Nat) (fr:Nat×Nat)
  (hg:w.heap[g]?=some (.cells (uc l) t fr)) (hm:m.length=4) (hp:(l.drop off).take 4=m):qac Tryz.prog w (.agg (uc m)) ((execOp a.eval o).run Tryz.prog w):=by
 unfold execOp
 simp only [ho,hx,Instr.loadAt,Instr.sureAddr,Sem.run_bind,Sem.run_pure,Result.andThen_ok,run_load_in4 w g off t l m fr hg hm hp]
 exact ⟨rfl,rfl⟩
theorem wpList_load_in4 {ops:Array Oper} {rest:List Oper} {o:Oper} {a:Act} {w:World} {Q:Exit→Act→World→Prop} (hgd:o.guard=none) (x:Operand) (ho:o.op=.load 61 x) (g off:Nat) (hx:a.eval x=.pointer (some ⟨g,off,none⟩)) (t:TypeId) (l m:List Nat) (fr:Nat×Nat)
  (hg:w.heap[g]?=some (.cells (uc l) t fr)) (hm:m.length=4) (hp:(l.drop off).take 4=m)
  (h:wpList Tryz.prog ops Q rest (a.put o.dst (.agg (uc m))) w):wpList Tryz.prog ops Q (o :: rest) a w:=
 wpList_plain hgd fun _ hK=>by
  unfold Oper.wp execOp
  simp only [ho,hx,Instr.loadAt,Instr.sureAddr,Sem.run_bind,Sem.run_pure,Result.andThen_ok,run_load_in4 w g off t l m fr hg hm hp]
  exact hK _ _ h
theorem sQuiet_put4 {P:Program} {o:Oper} {a:Act} {w:World} (t:TypeId) (parts:Array (Nat×Operand)) (ho:o.op=.build t parts) (cells:Array Value)
  (hb:(Instr.build t (parts.map fun (i,x)=>(i,a.eval x))).run P w=.ok (.agg cells) w):qac P w (.agg cells) ((execOp a.eval o).run P w):=by
 unfold execOp
 simp only [ho,Sem.run_bind,hb,Result.andThen_ok]
 exact ⟨rfl,rfl⟩
theorem qcL {o:Oper} {a:Act} {w:World} (x y z v:Operand) (ho:o.op=.build 103 #[(0,x),(1,y),(2,z),(3,v)]) (p q r s:Nat)
  (hx:a.eval x=.agg (uc (limN 4 p))) (hy:a.eval y=.agg (uc (limN 4 q))) (hz:a.eval z=.agg (uc (limN 4 r))) (hv:a.eval v=.agg (uc (limN 4 s))):qac Tryz.prog w (.agg (uc (row4 p q r s))) ((execOp a.eval o).run Tryz.prog w):=
 sQuiet_put4 103 _ ho _ (by
  have e:(#[(0,x),(1,y),(2,z),(3,v)]:Array (Nat×Operand)).map (fun (i,x)=>(i,a.eval x))=#[(0,a.eval x),(1,a.eval y),(2,a.eval z),(3,a.eval v)]:=by simp
  rw [e,hx,hy,hz,hv];exact build_ns p q r s w)
theorem sQuiet_build_point4 {o:Oper} {a:Act} {w:World} (x y z v:Operand) (ho:o.op=.build 63 #[(0,x),(1,y),(2,z),(3,v)]) (p q r s:Nat)
  (hx:a.eval x=.agg (uc (limN 4 p))) (hy:a.eval y=.agg (uc (limN 4 q))) (hz:a.eval z=.agg (uc (limN 4 r))) (hv:a.eval v=.agg (uc (limN 4 s))):qac Tryz.prog w (.agg (uc (row4 p q r s))) ((execOp a.eval o).run Tryz.prog w):=
 sQuiet_put4 63 _ ho _ (by
  have e:(#[(0,x),(1,y),(2,z),(3,v)]:Array (Nat×Operand)).map (fun (i,x)=>(i,a.eval x))=#[(0,a.eval x),(1,a.eval y),(2,a.eval z),(3,a.eval v)]:=by simp
  rw [e,hx,hy,hz,hv];exact build_point4 p q r s w)
theorem wpList_build_point0 {ops:Array Oper} {rest:List Oper} {o:Oper} {a:Act} {w:World} {Q:Exit→Act→World→Prop} (hg:o.guard=none) (ho:o.op=.build 63 #[])
  (h:wpList Tryz.prog ops Q rest (a.put o.dst (.agg (uc (row4 0 0 0 0)))) w):wpList Tryz.prog ops Q (o :: rest) a w:=
 wpList_plain hg fun _ hK=>qdJ 63 _ ho _ (by
  rw [Array.map_empty];exact build_point0 w) (hK _ _ h)
theorem blk_fourth (w:World) (P R A Q:Obj):((((w.alloc P).alloc R).alloc A).alloc Q).heap[w.heap.size+1+1+1]?=some Q:=by
 have h:=qag (((w.alloc P).alloc R).alloc A) Q
 simpa using h
theorem below_four (w:World) (P R A Q:Obj):Below w.heap.size w ((((w.alloc P).alloc R).alloc A).alloc Q):=(qbr w P R A).alloc (by simp;omega) _
def numL (p:PtN):List Nat:=row4 p.x p.y p.z p.t
def ptL (p:PtN):List Nat:=row4 p.x (subF p.y 1) (subF p.z 1) p.t
theorem qbk (p:PtN):(numL p).length=16:=qa4 _ _ _ _
theorem qaz (p:PtN):(ptL p).length=16:=qa4 _ _ _ _
theorem add_sub (a b:Nat) (ha:a<pF) (hb:b<pF):addF (subF a b) b=a:=by
 unfold addF subF
 by_cases h:b≤a
 ·rw [show a+(pF-b)=(a-b)+pF by omega,Nat.add_mod_right,Nat.mod_eq_of_lt (show a-b<pF by omega),show a-b+b=a by omega,Nat.mod_eq_of_lt ha]
 ·rw [Nat.mod_eq_of_lt (show a+(pF-b)<pF by omega),show a+(pF-b)+b=a+pF by omega,Nat.add_mod_right,Nat.mod_eq_of_lt ha]
theorem ptL_zero:ptL zeroP=row4 0 0 0 0:=by
 rw [ptL,zeroP]
 show row4 0 (subF 1 1) (subF 1 1) 0=_
 rw [sub_self 1 (by decide)]
end
section
open Go.RowKit Go.Sort
set_option maxHeartbeats 4000000 in
theorem numbersL_any (a b c d y1 z1:Nat) (w:World) (l_b:b<pF) (l_c:c<pF) (hT:PrmQ w)
  (e_y1:addF b 1=y1) (e_z1:addF c 1=z1) :
  Calls Tryz.prog 96 #[.agg (uc (row4 a b c d))] w fun e w'=>e=.returned (.agg (uc (row4 a y1 z1 d)))∧Below w.heap.size w w':=by
 have l_y1:y1<pF:=e_y1▸qbV _ _;have l_z1:z1<pF:=e_z1▸qbV _ _
 have C_y1:=hid (fun (W:World) (hW:PrmQ W)=>qcN b 1 W l_b (by decide))
 rw [e_y1] at C_y1
 have C_z1:=hid (fun (W:World) (hW:PrmQ W)=>qcN c 1 W l_c (by decide))
 rw [e_z1] at C_z1;clear e_y1 l_y1 e_z1 l_z1 l_b l_c
 have C_1:Hid (∀ W:World,Calls Tryz.prog 131 #[.int .i64 1] W fun e w'=>e=.returned (.agg (uc (limN 4 1)))∧Below W.heap.size W w'):=hid (fun W=>qb1 1 W (by decide))
 obtain ⟨hz,hi⟩:=zero_of_info qbO;obtain ⟨hzn,hin⟩:=zero_of_info qda;obtain ⟨hzp,hip⟩:=zero_of_info qcp;have hb:=qaP w (.cells (uc (row4 a b c d)) 63) (.cells zrow4 103);have HP:=hid (hT.step hb);have HQ:=hid (qaj (o:=.cells zrow4 103) (qag w (.cells (uc (row4 a b c d)) 63)));have HR:=hid (qaw w (.cells (uc (row4 a b c d)) 63) (.cells zrow4 103));clear hi hin hip hT
 go_enter Tryz.func96,Tryz.ntmps96
 go_wp2_with fail
 try clear hzn
 try clear hzp
 generalize ((w.alloc _).alloc _)=W0 at *;have hB:=hid hb.size;generalize hBB:w.heap.size=B at *;have HBB:=hid hBB;clear hBB
 refine (C_1.out W0).mono ?_
 rintro e W1 ⟨rfl,bk⟩;replace hb:=hb.trans (bk.mono hB.out);replace HP:=hid (HP.out.step bk);replace hB:=hid (Nat.le_trans hB.out bk.size);replace HQ:=hid (qaa bk (qab HQ.out) HQ.out);replace HR:=hid (qaa bk (qab HR.out) HR.out);clear bk;have HN:=hid (qag W1 (.cells zeros4 61));have bn:=qah W1 (.cells zeros4 61);have q_g3:=hid (setRow_heap _ W1.heap.size _ (uc (limN 4 1)) _ _ HN.out)
 go_wp2_with (first | (with_reducible refine wpList_store_row rfl 61 _ _ rfl W1.heap.size (uc (limN 4 1)) rfl rfl 61 _ HN.out (qak _) (qaq _) (qar _) ?_))
 have bk:=below_setRow bn (Nat.le_refl _) (uc (limN 4 1));have b_g3:=hid hB.out;replace hb:=hb.trans (bk.mono hB.out);replace HP:=hid (HP.out.step bk);replace hB:=hid (Nat.le_trans hB.out bk.size);replace HQ:=hid (qaa bk (qab HQ.out) HQ.out);replace HR:=hid (qaa bk (qab HR.out) HR.out);clear bk;have H_g3:=q_g3;generalize (World.setRow (World.alloc _ _) _ _)=W2 at *;generalize W1.heap.size=g3 at *;clear bn HN q_g3
 try simp only [Act.put]
 refine qam 13 18 [.val (.pointer (some ⟨B,0,none⟩)) [(1,.pointer (some ⟨B,0,none⟩))],
   .val (.agg (uc (limN 4 a))) [(5,.pointer (some ⟨B,0,none⟩))],
   .val (.pointer (some ⟨B,4,none⟩)) [(1,.pointer (some ⟨B,0,none⟩))],
   .val (.agg (uc (limN 4 b))) [(7,.pointer (some ⟨B,4,none⟩))],
   .val (.agg (uc (limN 4 1))) [(3,.pointer (some ⟨g3,0,none⟩))],
   .val (.agg (uc (limN 4 y1))) [(8,.agg (uc (limN 4 b))),(9,.agg (uc (limN 4 1)))],
   .val (.pointer (some ⟨B,8,none⟩)) [(1,.pointer (some ⟨B,0,none⟩))],
   .val (.agg (uc (limN 4 c))) [(11,.pointer (some ⟨B,8,none⟩))],
   .val (.agg (uc (limN 4 1))) [(3,.pointer (some ⟨g3,0,none⟩))],
   .val (.agg (uc (limN 4 z1))) [(12,.agg (uc (limN 4 c))),(13,.agg (uc (limN 4 1)))],
   .val (.pointer (some ⟨B,12,none⟩)) [(1,.pointer (some ⟨B,0,none⟩))],
   .val (.agg (uc (limN 4 d))) [(15,.pointer (some ⟨B,12,none⟩))],
   .val (.agg (uc (row4 a y1 z1 d))) [(6,.agg (uc (limN 4 a))),(10,.agg (uc (limN 4 y1))),(14,.agg (uc (limN 4 z1))),(16,.agg (uc (limN 4 d)))]] (by kernel_rfl) (by kernel_rfl) rfl ?_ ?_ ?_
 ·simp only [take_succ_cons,List.take_zero,qaL,qaK,HeadSpec.val,HeadSpec.fresh,and_true]
  refine ⟨?_,?_,?_,?_,?_,?_,?_,?_,?_,?_,?_,?_,?_⟩
  ·intro act w hb h
   have e0:=h (1,.pointer (some ⟨B,0,none⟩)) (by simp)
   simp only [getD_eq_getD_getElem?] at e0
   simp [go_sem,e0,qac]
  ·intro act w hb h
   have e0:=h (5,.pointer (some ⟨B,0,none⟩)) (by simp)
   exact qas (.tmp 5) rfl (B) 0 e0 63 _ _ (0,0) (qaa hb (qab HQ.out) HQ.out) (qad _ _) (qd9 _ _ _ _)
  ·intro act w hb h
   have e0:=h (1,.pointer (some ⟨B,0,none⟩)) (by simp)
   simp only [getD_eq_getD_getElem?] at e0
   simp [go_sem,e0,qac]
  ·intro act w hb h
   have e0:=h (7,.pointer (some ⟨B,4,none⟩)) (by simp)
   exact qas (.tmp 7) rfl (B) 4 e0 63 _ _ (0,0) (qaa hb (qab HQ.out) HQ.out) (qad _ _) (qea _ _ _ _)
  ·intro act w hb h
   have e0:=h (3,.pointer (some ⟨g3,0,none⟩)) (by simp)
   exact qae 61 (.tmp 3) rfl (g3) e0 61 _ (0,0) _ (qaa hb (qab H_g3.out) H_g3.out) Tryz.underlying61 rfl (qak _)
  ·intro act w hb h
   have e0:=h (8,.agg (uc (limN 4 b))) (by simp)
   have e1:=h (9,.agg (uc (limN 4 1))) (by simp)
   simp only [getD_eq_getD_getElem?] at e0 e1
   simp [go_sem,e0,e1,qac]
   exact C_y1.out w (HP.out.step hb)
  ·intro act w hb h
   have e0:=h (1,.pointer (some ⟨B,0,none⟩)) (by simp)
   simp only [getD_eq_getD_getElem?] at e0
   simp [go_sem,e0,qac]
  ·intro act w hb h
   have e0:=h (11,.pointer (some ⟨B,8,none⟩)) (by simp)
   exact qas (.tmp 11) rfl (B) 8 e0 63 _ _ (0,0) (qaa hb (qab HQ.out) HQ.out) (qad _ _) (qeJ _ _ _ _)
  ·intro act w hb h
   have e0:=h (3,.pointer (some ⟨g3,0,none⟩)) (by simp)
   exact qae 61 (.tmp 3) rfl (g3) e0 61 _ (0,0) _ (qaa hb (qab H_g3.out) H_g3.out) Tryz.underlying61 rfl (qak _)
  ·intro act w hb h
   have e0:=h (12,.agg (uc (limN 4 c))) (by simp)
   have e1:=h (13,.agg (uc (limN 4 1))) (by simp)
   simp only [getD_eq_getD_getElem?] at e0 e1
   simp [go_sem,e0,e1,qac]
   exact C_z1.out w (HP.out.step hb)
  ·intro act w hb h
   have e0:=h (1,.pointer (some ⟨B,0,none⟩)) (by simp)
   simp only [getD_eq_getD_getElem?] at e0
   simp [go_sem,e0,qac]
  ·intro act w hb h
   have e0:=h (15,.pointer (some ⟨B,12,none⟩)) (by simp)
   exact qas (.tmp 15) rfl (B) 12 e0 63 _ _ (0,0) (qaa hb (qab HQ.out) HQ.out) (qad _ _) (row4_3 _ _ _ _)
  ·intro act w hb h
   have e0:=h (6,.agg (uc (limN 4 a))) (by simp)
   have e1:=h (10,.agg (uc (limN 4 y1))) (by simp)
   have e2:=h (14,.agg (uc (limN 4 z1))) (by simp)
   have e3:=h (16,.agg (uc (limN 4 d))) (by simp)
   exact qcL (.tmp 6) (.tmp 10) (.tmp 14) (.tmp 16) rfl _ _ _ _ e0 e1 e2 e3
 ·simp [qau,qav,qaJ,HeadSpec.val,HeadSpec.fresh,Act.put]
 ·simp only [take_succ_cons,List.take_zero,drop_succ_cons,List.drop_zero,qaH,HeadSpec.val,HeadSpec.fresh,Act.put,setIfInBounds_toArray,set_cons_succ,set_cons_zero]
  intro v1 hv1 hgs;have HN:=hid (qaa hv1 (qab HR.out) HR.out);have HNN:=hid (setRow_heap v1 (B+1) _ (uc (row4 a y1 z1 d)) _ _ HN.out)
  have hb2:Below B w (v1.setRow (B+1) (uc (row4 a y1 z1 d))):=below_setRow (hb.trans (hv1.mono hB.out)) (by omega) _
  clear hgs hv1 hb
  go_wp2_with (with_reducible refine wpList_store_row rfl 103 _ _ rfl (B+1) (uc (row4 a y1 z1 d)) rfl rfl 103 _ HN.out (qcq _ (qa4 _ _ _ _)) (qa3 _ (qa4 _ _ _ _)) (qar _) ?_)
  exact bodyPost_ret (v:=.agg (uc (row4 a y1 z1 d))) (results_cell_row (by rfl) _ _ (B+1) 103 _ (0,0) _ rfl HNN.out Tryz.underlying103 rfl (qcq _ (qa4 _ _ _ _))) rfl ⟨rfl,by rw [HBB.out];exact hb2⟩
set_option maxHeartbeats 4000000 in
theorem pointL_any (a b c d y1 z1:Nat) (w:World) (l_b:b<pF) (l_c:c<pF) (hT:PrmQ w)
  (e_y1:subF b 1=y1) (e_z1:subF c 1=z1) :
  Calls Tryz.prog 132 #[.agg (uc (row4 a b c d))] w fun e w'=>e=.returned (.agg (uc (row4 a y1 z1 d)))∧Below w.heap.size w w':=by
 have l_y1:y1<pF:=e_y1▸qby _ _;have l_z1:z1<pF:=e_z1▸qby _ _
 have C_y1:=hid (fun (W:World) (hW:PrmQ W)=>qcO b 1 W l_b (by decide) hW)
 rw [e_y1] at C_y1
 have C_z1:=hid (fun (W:World) (hW:PrmQ W)=>qcO c 1 W l_c (by decide) hW)
 rw [e_z1] at C_z1;clear e_y1 l_y1 e_z1 l_z1 l_b l_c
 have C_1:Hid (∀ W:World,Calls Tryz.prog 131 #[.int .i64 1] W fun e w'=>e=.returned (.agg (uc (limN 4 1)))∧Below W.heap.size W w'):=hid (fun W=>qb1 1 W (by decide))
 obtain ⟨hz,hi⟩:=zero_of_info qbO;obtain ⟨hzn,hin⟩:=zero_of_info qda;obtain ⟨hzp,hip⟩:=zero_of_info qcp;have hb:=qaP w (.cells (uc (row4 a b c d)) 103) (.cells zrow4 63);have HP:=hid (hT.step hb);have HQ:=hid (qaj (o:=.cells zrow4 63) (qag w (.cells (uc (row4 a b c d)) 103)));have HR:=hid (qaw w (.cells (uc (row4 a b c d)) 103) (.cells zrow4 63));clear hi hin hip hT
 go_enter Tryz.func132,Tryz.ntmps132
 go_wp2_with fail
 try clear hzn
 try clear hzp
 generalize ((w.alloc _).alloc _)=W0 at *;have hB:=hid hb.size;generalize hBB:w.heap.size=B at *;have HBB:=hid hBB;clear hBB
 refine (C_1.out W0).mono ?_
 rintro e W1 ⟨rfl,bk⟩;replace hb:=hb.trans (bk.mono hB.out);replace HP:=hid (HP.out.step bk);replace hB:=hid (Nat.le_trans hB.out bk.size);replace HQ:=hid (qaa bk (qab HQ.out) HQ.out);replace HR:=hid (qaa bk (qab HR.out) HR.out);clear bk;have HN:=hid (qag W1 (.cells zeros4 61));have bn:=qah W1 (.cells zeros4 61);have q_g3:=hid (setRow_heap _ W1.heap.size _ (uc (limN 4 1)) _ _ HN.out)
 go_wp2_with (first | (with_reducible refine wpList_store_row rfl 61 _ _ rfl W1.heap.size (uc (limN 4 1)) rfl rfl 61 _ HN.out (qak _) (qaq _) (qar _) ?_))
 have bk:=below_setRow bn (Nat.le_refl _) (uc (limN 4 1));have b_g3:=hid hB.out;replace hb:=hb.trans (bk.mono hB.out);replace HP:=hid (HP.out.step bk);replace hB:=hid (Nat.le_trans hB.out bk.size);replace HQ:=hid (qaa bk (qab HQ.out) HQ.out);replace HR:=hid (qaa bk (qab HR.out) HR.out);clear bk;have H_g3:=q_g3;generalize (World.setRow (World.alloc _ _) _ _)=W2 at *;generalize W1.heap.size=g3 at *;clear bn HN q_g3
 try simp only [Act.put]
 refine qam 13 18 [.val (.pointer (some ⟨B,0,none⟩)) [(1,.pointer (some ⟨B,0,none⟩))],
   .val (.agg (uc (limN 4 a))) [(5,.pointer (some ⟨B,0,none⟩))],
   .val (.pointer (some ⟨B,4,none⟩)) [(1,.pointer (some ⟨B,0,none⟩))],
   .val (.agg (uc (limN 4 b))) [(7,.pointer (some ⟨B,4,none⟩))],
   .val (.agg (uc (limN 4 1))) [(3,.pointer (some ⟨g3,0,none⟩))],
   .val (.agg (uc (limN 4 y1))) [(8,.agg (uc (limN 4 b))),(9,.agg (uc (limN 4 1)))],
   .val (.pointer (some ⟨B,8,none⟩)) [(1,.pointer (some ⟨B,0,none⟩))],
   .val (.agg (uc (limN 4 c))) [(11,.pointer (some ⟨B,8,none⟩))],
   .val (.agg (uc (limN 4 1))) [(3,.pointer (some ⟨g3,0,none⟩))],
   .val (.agg (uc (limN 4 z1))) [(12,.agg (uc (limN 4 c))),(13,.agg (uc (limN 4 1)))],
   .val (.pointer (some ⟨B,12,none⟩)) [(1,.pointer (some ⟨B,0,none⟩))],
   .val (.agg (uc (limN 4 d))) [(15,.pointer (some ⟨B,12,none⟩))],
   .val (.agg (uc (row4 a y1 z1 d))) [(6,.agg (uc (limN 4 a))),(10,.agg (uc (limN 4 y1))),(14,.agg (uc (limN 4 z1))),(16,.agg (uc (limN 4 d)))]] (by kernel_rfl) (by kernel_rfl) rfl ?_ ?_ ?_
 ·simp only [take_succ_cons,List.take_zero,qaL,qaK,HeadSpec.val,HeadSpec.fresh,and_true]
  refine ⟨?_,?_,?_,?_,?_,?_,?_,?_,?_,?_,?_,?_,?_⟩
  ·intro act w hb h
   have e0:=h (1,.pointer (some ⟨B,0,none⟩)) (by simp)
   simp only [getD_eq_getD_getElem?] at e0
   simp [go_sem,e0,qac]
  ·intro act w hb h
   have e0:=h (5,.pointer (some ⟨B,0,none⟩)) (by simp)
   exact qas (.tmp 5) rfl (B) 0 e0 103 _ _ (0,0) (qaa hb (qab HQ.out) HQ.out) (qad _ _) (qd9 _ _ _ _)
  ·intro act w hb h
   have e0:=h (1,.pointer (some ⟨B,0,none⟩)) (by simp)
   simp only [getD_eq_getD_getElem?] at e0
   simp [go_sem,e0,qac]
  ·intro act w hb h
   have e0:=h (7,.pointer (some ⟨B,4,none⟩)) (by simp)
   exact qas (.tmp 7) rfl (B) 4 e0 103 _ _ (0,0) (qaa hb (qab HQ.out) HQ.out) (qad _ _) (qea _ _ _ _)
  ·intro act w hb h
   have e0:=h (3,.pointer (some ⟨g3,0,none⟩)) (by simp)
   exact qae 61 (.tmp 3) rfl (g3) e0 61 _ (0,0) _ (qaa hb (qab H_g3.out) H_g3.out) Tryz.underlying61 rfl (qak _)
  ·intro act w hb h
   have e0:=h (8,.agg (uc (limN 4 b))) (by simp)
   have e1:=h (9,.agg (uc (limN 4 1))) (by simp)
   simp only [getD_eq_getD_getElem?] at e0 e1
   simp [go_sem,e0,e1,qac]
   exact C_y1.out w (HP.out.step hb)
  ·intro act w hb h
   have e0:=h (1,.pointer (some ⟨B,0,none⟩)) (by simp)
   simp only [getD_eq_getD_getElem?] at e0
   simp [go_sem,e0,qac]
  ·intro act w hb h
   have e0:=h (11,.pointer (some ⟨B,8,none⟩)) (by simp)
   exact qas (.tmp 11) rfl (B) 8 e0 103 _ _ (0,0) (qaa hb (qab HQ.out) HQ.out) (qad _ _) (qeJ _ _ _ _)
  ·intro act w hb h
   have e0:=h (3,.pointer (some ⟨g3,0,none⟩)) (by simp)
   exact qae 61 (.tmp 3) rfl (g3) e0 61 _ (0,0) _ (qaa hb (qab H_g3.out) H_g3.out) Tryz.underlying61 rfl (qak _)
  ·intro act w hb h
   have e0:=h (12,.agg (uc (limN 4 c))) (by simp)
   have e1:=h (13,.agg (uc (limN 4 1))) (by simp)
   simp only [getD_eq_getD_getElem?] at e0 e1
   simp [go_sem,e0,e1,qac]
   exact C_z1.out w (HP.out.step hb)
  ·intro act w hb h
   have e0:=h (1,.pointer (some ⟨B,0,none⟩)) (by simp)
   simp only [getD_eq_getD_getElem?] at e0
   simp [go_sem,e0,qac]
  ·intro act w hb h
   have e0:=h (15,.pointer (some ⟨B,12,none⟩)) (by simp)
   exact qas (.tmp 15) rfl (B) 12 e0 103 _ _ (0,0) (qaa hb (qab HQ.out) HQ.out) (qad _ _) (row4_3 _ _ _ _)
  ·intro act w hb h
   have e0:=h (6,.agg (uc (limN 4 a))) (by simp)
   have e1:=h (10,.agg (uc (limN 4 y1))) (by simp)
   have e2:=h (14,.agg (uc (limN 4 z1))) (by simp)
   have e3:=h (16,.agg (uc (limN 4 d))) (by simp)
   exact sQuiet_build_point4 (.tmp 6) (.tmp 10) (.tmp 14) (.tmp 16) rfl _ _ _ _ e0 e1 e2 e3
 ·simp [qau,qav,qaJ,HeadSpec.val,HeadSpec.fresh,Act.put]
 ·simp only [take_succ_cons,List.take_zero,drop_succ_cons,List.drop_zero,qaH,HeadSpec.val,HeadSpec.fresh,Act.put,setIfInBounds_toArray,set_cons_succ,set_cons_zero]
  intro v1 hv1 hgs;have HN:=hid (qaa hv1 (qab HR.out) HR.out);have HNN:=hid (setRow_heap v1 (B+1) _ (uc (row4 a y1 z1 d)) _ _ HN.out)
  have hb2:Below B w (v1.setRow (B+1) (uc (row4 a y1 z1 d))):=below_setRow (hb.trans (hv1.mono hB.out)) (by omega) _
  clear hgs hv1 hb
  go_wp2_with (with_reducible refine wpList_store_row rfl 63 _ _ rfl (B+1) (uc (row4 a y1 z1 d)) rfl rfl 63 _ HN.out (qbj _ (qa4 _ _ _ _)) (qa3 _ (qa4 _ _ _ _)) (qar _) ?_)
  exact bodyPost_ret (v:=.agg (uc (row4 a y1 z1 d))) (results_cell_row (by rfl) _ _ (B+1) 63 _ (0,0) _ rfl HNN.out Tryz.underlying63 rfl (qbj _ (qa4 _ _ _ _))) rfl ⟨rfl,by rw [HBB.out];exact hb2⟩
end
section
open Go.RowKit Go.Sort
def facT:ByteArray:=⟨#[163,120,89,19,202,77,235,117,171,216,65,65,77,10,112,0,152,232,121,119,121,64,199,140,115,254,111,43,238,108,3,82]⟩
theorem facT_val:leV facT.data.toList 32%pF=facF:=by rw [fac_val];decide +kernel
set_option maxHeartbeats 2000000 in
theorem coef_any (w:World) (hT:PrmQ w) :
  Calls Tryz.prog 184 #[] w fun e w'=>e=.returned (.agg (uc (limN 4 facF)))∧Below w.heap.size w w':=by
 have CO:=hid (fun W=>of_any facT W rfl)
 rw [facT_val] at CO;generalize hfd:facF=d at *;have HFD:=hid hfd;clear hfd;unfold facT at CO;obtain ⟨hz,hi⟩:=zero_of_info qbO;obtain ⟨hzn,hin⟩:=zero_of_info qda;obtain ⟨hzp,hip⟩:=zero_of_info qcp;have hb:=qah w (.cells zeros4 61);have HP:=hid (hT.step hb);have HR:=hid (qag w (.cells zeros4 61));clear hi hin hip hT
 go_enter Tryz.func184,Tryz.ntmps184
 go_wp2_with fail
 try clear hzn
 try clear hzp
 generalize (w.alloc _)=W0 at *;have hB:=hid hb.size;generalize hBB:w.heap.size=B at *;have HBB:=hid hBB;clear hBB
 refine (CO.out W0).mono ?_
 rintro e W1 ⟨rfl,bk⟩;replace hb:=hb.trans (bk.mono hB.out);replace HP:=hid (HP.out.step bk);replace hB:=hid (Nat.le_trans hB.out bk.size);replace HR:=hid (qaa bk (qab HR.out) HR.out);clear bk;have HN:=hid (qag W1 (.cells zeros4 61));have hr:=qab HR.out;have q1:=hid (setRow_heap _ W1.heap.size _ (uc (limN 4 d)) _ _ HN.out)
 have HR2:Hid (((W1.alloc (.cells zeros4 61)).setRow W1.heap.size (uc (limN 4 d))).heap[B]?=some (.cells zeros4 61)):=hid (by rw [setRow_other _ _ _ _ (by omega)];exact qaj HR.out)
 have hb4:Below B w ((W1.alloc (.cells zeros4 61)).setRow W1.heap.size (uc (limN 4 d))):=below_setRow (hb.alloc (by omega) _) (by omega) _
 clear CO HR hb
 go_wp2_with (first
  | (with_reducible refine wpList_store_row rfl 61 _ _ rfl W1.heap.size (uc (limN 4 d)) rfl rfl 61 _ HN.out (qak _) (qaq _) (qar _) ?_)
  | (with_reducible refine wpList_load_row rfl 61 _ rfl (W1.heap.size) rfl 61 _ (0,0) _ q1.out Tryz.underlying61 rfl (qak _) ?_)
  | (with_reducible refine wpList_store_row rfl 61 _ _ rfl B (uc (limN 4 d)) rfl rfl 61 _ HR2.out (qak _) (qaq _) (qar _) ?_))
 exact bodyPost_ret (v:=.agg (uc (limN 4 d))) (results_cell_row (by rfl) _ _ B 61 _ (0,0) _ rfl (setRow_heap _ _ _ _ _ _ HR2.out) Tryz.underlying61 rfl (qak _)) rfl ⟨rfl,by rw [HBB.out];exact below_setRow hb4 (Nat.le_refl _) _⟩
set_option maxHeartbeats 8000000 in
theorem sumL_any (a b c d aa bb cc dd fd s1 s2 na p1 p2 nb k c1 nc m1 nm ne nf ng nh nx ny nz nt:Nat) (w:World) (l_a:a<pF) (l_b:b<pF) (l_c:c<pF) (l_d:d<pF) (l_aa:aa<pF) (l_bb:bb<pF) (l_cc:cc<pF) (l_dd:dd<pF) (hfd:facF=fd) (hT:PrmQ w)
  (e_s1:subF b a=s1) (e_s2:subF bb aa=s2) (e_na:mulF s1 s2=na) (e_p1:addF b a=p1) (e_p2:addF bb aa=p2) (e_nb:mulF p1 p2=nb) (e_k:addF fd fd=k) (e_c1:mulF d k=c1) (e_nc:mulF c1 dd=nc) (e_m1:addF c c=m1) (e_nm:mulF m1 cc=nm) (e_ne:subF nb na=ne) (e_nf:subF nm nc=nf) (e_ng:addF nm nc=ng) (e_nh:addF nb na=nh) (e_nx:mulF ne nf=nx) (e_ny:mulF ng nh=ny) (e_nz:mulF nf ng=nz) (e_nt:mulF ne nh=nt) :
  Calls Tryz.prog 133 #[.agg (uc (row4 a b c d)),.agg (uc (row4 aa bb cc dd))] w fun e w'=>e=.returned (.agg (uc (row4 nx ny nz nt)))∧Below w.heap.size w w':=by
 have C_fd:=hid (fun (W:World) (hW:PrmQ W)=>coef_any W hW)
 have l_fd:fd<pF:=hfd▸facF_lt;rw [hfd] at C_fd;have l_s1:s1<pF:=e_s1▸qby _ _;have l_s2:s2<pF:=e_s2▸qby _ _;have l_na:na<pF:=e_na▸qaM _ _;have l_p1:p1<pF:=e_p1▸qbV _ _;have l_p2:p2<pF:=e_p2▸qbV _ _;have l_nb:nb<pF:=e_nb▸qaM _ _;have l_k:k<pF:=e_k▸qbV _ _;have l_c1:c1<pF:=e_c1▸qaM _ _;have l_nc:nc<pF:=e_nc▸qaM _ _;have l_m1:m1<pF:=e_m1▸qbV _ _;have l_nm:nm<pF:=e_nm▸qaM _ _;have l_ne:ne<pF:=e_ne▸qby _ _;have l_nf:nf<pF:=e_nf▸qby _ _;have l_ng:ng<pF:=e_ng▸qbV _ _;have l_nh:nh<pF:=e_nh▸qbV _ _;have l_nx:nx<pF:=e_nx▸qaM _ _;have l_ny:ny<pF:=e_ny▸qaM _ _;have l_nz:nz<pF:=e_nz▸qaM _ _;have l_nt:nt<pF:=e_nt▸qaM _ _
 have C_s1:=hid (fun (W:World) (hW:PrmQ W)=>qcO b a W l_b l_a hW)
 rw [e_s1] at C_s1
 have C_s2:=hid (fun (W:World) (hW:PrmQ W)=>qcO bb aa W l_bb l_aa hW)
 rw [e_s2] at C_s2
 have C_na:=hid (fun (W:World) (hW:PrmQ W)=>qaN s1 s2 W l_s1 l_s2)
 rw [e_na] at C_na
 have C_p1:=hid (fun (W:World) (hW:PrmQ W)=>qcN b a W l_b l_a)
 rw [e_p1] at C_p1
 have C_p2:=hid (fun (W:World) (hW:PrmQ W)=>qcN bb aa W l_bb l_aa)
 rw [e_p2] at C_p2
 have C_nb:=hid (fun (W:World) (hW:PrmQ W)=>qaN p1 p2 W l_p1 l_p2)
 rw [e_nb] at C_nb
 have C_k:=hid (fun (W:World) (hW:PrmQ W)=>qcN fd fd W l_fd l_fd)
 rw [e_k] at C_k
 have C_c1:=hid (fun (W:World) (hW:PrmQ W)=>qaN d k W l_d l_k)
 rw [e_c1] at C_c1
 have C_nc:=hid (fun (W:World) (hW:PrmQ W)=>qaN c1 dd W l_c1 l_dd)
 rw [e_nc] at C_nc
 have C_m1:=hid (fun (W:World) (hW:PrmQ W)=>qcN c c W l_c l_c)
 rw [e_m1] at C_m1
 have C_nm:=hid (fun (W:World) (hW:PrmQ W)=>qaN m1 cc W l_m1 l_cc)
 rw [e_nm] at C_nm
 have C_ne:=hid (fun (W:World) (hW:PrmQ W)=>qcO nb na W l_nb l_na hW)
 rw [e_ne] at C_ne
 have C_nf:=hid (fun (W:World) (hW:PrmQ W)=>qcO nm nc W l_nm l_nc hW)
 rw [e_nf] at C_nf
 have C_ng:=hid (fun (W:World) (hW:PrmQ W)=>qcN nm nc W l_nm l_nc)
 rw [e_ng] at C_ng
 have C_nh:=hid (fun (W:World) (hW:PrmQ W)=>qcN nb na W l_nb l_na)
 rw [e_nh] at C_nh
 have C_nx:=hid (fun (W:World) (hW:PrmQ W)=>qaN ne nf W l_ne l_nf)
 rw [e_nx] at C_nx
 have C_ny:=hid (fun (W:World) (hW:PrmQ W)=>qaN ng nh W l_ng l_nh)
 rw [e_ny] at C_ny
 have C_nz:=hid (fun (W:World) (hW:PrmQ W)=>qaN nf ng W l_nf l_ng)
 rw [e_nz] at C_nz
 have C_nt:=hid (fun (W:World) (hW:PrmQ W)=>qaN ne nh W l_ne l_nh)
 rw [e_nt] at C_nt;clear e_s1 l_s1 e_s2 l_s2 e_na l_na e_p1 l_p1 e_p2 l_p2 e_nb l_nb e_k l_k e_c1 l_c1 e_nc l_nc e_m1 l_m1 e_nm l_nm e_ne l_ne e_nf l_nf e_ng l_ng e_nh l_nh e_nx l_nx e_ny l_ny e_nz l_nz e_nt l_nt l_a l_b l_c l_d l_aa l_bb l_cc l_dd l_fd;clear hfd;obtain ⟨hz,hi⟩:=zero_of_info qbO;obtain ⟨hzn,hin⟩:=zero_of_info qda;obtain ⟨hzp,hip⟩:=zero_of_info qcp;have hb:=qbr w (.cells (uc (row4 a b c d)) 103) (.cells (uc (row4 aa bb cc dd)) 103) (.cells zrow4 103);have HP:=hid (hT.step hb);have HQ:=hid (qaj (o:=.cells zrow4 103) (qaj (o:=.cells (uc (row4 aa bb cc dd)) 103) (qag w (.cells (uc (row4 a b c d)) 103))));have HX:=hid (qaj (o:=.cells zrow4 103) (qaw w (.cells (uc (row4 a b c d)) 103) (.cells (uc (row4 aa bb cc dd)) 103)));have HR:=hid (qbL w (.cells (uc (row4 a b c d)) 103) (.cells (uc (row4 aa bb cc dd)) 103) (.cells zrow4 103));clear hi hin hip hT
 go_enter Tryz.func133,Tryz.ntmps133
 go_upto_region 1 with fail
 try clear hzn
 try clear hzp
 generalize (((w.alloc _).alloc _).alloc _)=W0 at *;have hB:=hid hb.size;generalize hBB:w.heap.size=B at *;have HBB:=hid hBB;clear hBB
 refine qam 12 81 [.val (.pointer (some ⟨B,4,none⟩)) [(2,.pointer (some ⟨B,0,none⟩))],
   .val (.agg (uc (limN 4 b))) [(15,.pointer (some ⟨B,4,none⟩))],
   .val (.pointer (some ⟨B,0,none⟩)) [(2,.pointer (some ⟨B,0,none⟩))],
   .val (.agg (uc (limN 4 a))) [(17,.pointer (some ⟨B,0,none⟩))],
   .val (.agg (uc (limN 4 s1))) [(16,.agg (uc (limN 4 b))),(18,.agg (uc (limN 4 a)))],
   .val (.pointer (some ⟨B+1,4,none⟩)) [(3,.pointer (some ⟨B+1,0,none⟩))],
   .val (.agg (uc (limN 4 bb))) [(20,.pointer (some ⟨B+1,4,none⟩))],
   .val (.pointer (some ⟨B+1,0,none⟩)) [(3,.pointer (some ⟨B+1,0,none⟩))],
   .val (.agg (uc (limN 4 aa))) [(22,.pointer (some ⟨B+1,0,none⟩))],
   .val (.agg (uc (limN 4 s2))) [(21,.agg (uc (limN 4 bb))),(23,.agg (uc (limN 4 aa)))],
   .val (.agg (uc (limN 4 na))) [(19,.agg (uc (limN 4 s1))),(24,.agg (uc (limN 4 s2)))],
   .fresh (.cells zeros4 61)] (by kernel_rfl) (by kernel_rfl) rfl ?_ ?_ ?_
 ·simp only [take_succ_cons,List.take_zero,qaL,qaK,HeadSpec.val,HeadSpec.fresh,and_true]
  refine ⟨?_,?_,?_,?_,?_,?_,?_,?_,?_,?_,?_,?_⟩
  ·intro act w hb h
   have e0:=h (2,.pointer (some ⟨B,0,none⟩)) (by simp)
   simp only [getD_eq_getD_getElem?] at e0
   simp [go_sem,e0,qac]
  ·intro act w hb h
   have e0:=h (15,.pointer (some ⟨B,4,none⟩)) (by simp)
   exact qas (.tmp 15) rfl (B) 4 e0 103 _ _ (0,0) (qaa hb (qab HQ.out) HQ.out) (qad _ _) (qea _ _ _ _)
  ·intro act w hb h
   have e0:=h (2,.pointer (some ⟨B,0,none⟩)) (by simp)
   simp only [getD_eq_getD_getElem?] at e0
   simp [go_sem,e0,qac]
  ·intro act w hb h
   have e0:=h (17,.pointer (some ⟨B,0,none⟩)) (by simp)
   exact qas (.tmp 17) rfl (B) 0 e0 103 _ _ (0,0) (qaa hb (qab HQ.out) HQ.out) (qad _ _) (qd9 _ _ _ _)
  ·intro act w hb h
   have e0:=h (16,.agg (uc (limN 4 b))) (by simp)
   have e1:=h (18,.agg (uc (limN 4 a))) (by simp)
   simp only [getD_eq_getD_getElem?] at e0 e1
   simp [go_sem,e0,e1,qac]
   exact C_s1.out w (HP.out.step hb)
  ·intro act w hb h
   have e0:=h (3,.pointer (some ⟨B+1,0,none⟩)) (by simp)
   simp only [getD_eq_getD_getElem?] at e0
   simp [go_sem,e0,qac]
  ·intro act w hb h
   have e0:=h (20,.pointer (some ⟨B+1,4,none⟩)) (by simp)
   exact qas (.tmp 20) rfl (B+1) 4 e0 103 _ _ (0,0) (qaa hb (qab HX.out) HX.out) (qad _ _) (qea _ _ _ _)
  ·intro act w hb h
   have e0:=h (3,.pointer (some ⟨B+1,0,none⟩)) (by simp)
   simp only [getD_eq_getD_getElem?] at e0
   simp [go_sem,e0,qac]
  ·intro act w hb h
   have e0:=h (22,.pointer (some ⟨B+1,0,none⟩)) (by simp)
   exact qas (.tmp 22) rfl (B+1) 0 e0 103 _ _ (0,0) (qaa hb (qab HX.out) HX.out) (qad _ _) (qd9 _ _ _ _)
  ·intro act w hb h
   have e0:=h (21,.agg (uc (limN 4 bb))) (by simp)
   have e1:=h (23,.agg (uc (limN 4 aa))) (by simp)
   simp only [getD_eq_getD_getElem?] at e0 e1
   simp [go_sem,e0,e1,qac]
   exact C_s2.out w (HP.out.step hb)
  ·intro act w hb h
   have e0:=h (19,.agg (uc (limN 4 s1))) (by simp)
   have e1:=h (24,.agg (uc (limN 4 s2))) (by simp)
   simp only [getD_eq_getD_getElem?] at e0 e1
   simp [go_sem,e0,e1,qac]
   exact C_na.out w (HP.out.step hb)
  ·intro act w hb
   simp [go_sem,hz]
 ·simp [qau,qav,qaJ,HeadSpec.val,HeadSpec.fresh,Act.put]
 ·simp only [take_succ_cons,List.take_zero,drop_succ_cons,List.drop_zero,qaH,HeadSpec.val,HeadSpec.fresh,Act.put,setIfInBounds_toArray,set_cons_succ,set_cons_zero]
  intro g5 hg5 _ v1 hv1 hgs
  have N_g5:=hid (show v1.heap[g5]?=some (.cells zeros4 61) from hgs (g5,.cells zeros4 61) (by simp))
  have hk:Below W0.heap.size W0 (v1.setRow g5 (uc (limN 4 na))):=below_setRow hv1 hg5 (uc (limN 4 na))
  have k_g5:=hid (show (v1.setRow g5 (uc (limN 4 na))).heap[g5]?=some (.cells (uc (limN 4 na)) 61) from by exact setRow_heap _ g5 _ (uc (limN 4 na)) _ _ N_g5.out)
  have hb1:=hb.trans (hk.mono hB.out);have hP1:=hid (HP.out.step hk);have kHQ:=hid (qaa hk (qab HQ.out) HQ.out);have kHX:=hid (qaa hk (qab HX.out) HX.out);have kHR:=hid (qaa hk (qab HR.out) HR.out);have hB1:=hid (Nat.le_trans hB.out hk.size);have b_g5:=hid (Nat.le_trans hB.out hg5);clear HQ HX HR hv1 hgs hb HP hB hk hg5
  go_wp2_with (first | (with_reducible refine wpList_store_row rfl 61 _ _ rfl g5 (uc (limN 4 na)) rfl rfl 61 _ N_g5.out (qak _) (qaq _) (qar _) ?_))
  generalize (World.setRow _ _ _)=W1 at *;clear N_g5;have HQ:=kHQ;have HX:=kHX;have HR:=kHR;have H_g5:=k_g5;have hb:=hb1;have HP:=hP1;have hB:=hB1;clear hb1 hP1 hB1 kHQ kHX kHR k_g5
  try simp only [Act.put]
  refine qam 12 81 [.val (.pointer (some ⟨B,4,none⟩)) [(2,.pointer (some ⟨B,0,none⟩))],
   .val (.agg (uc (limN 4 b))) [(26,.pointer (some ⟨B,4,none⟩))],
   .val (.pointer (some ⟨B,0,none⟩)) [(2,.pointer (some ⟨B,0,none⟩))],
   .val (.agg (uc (limN 4 a))) [(28,.pointer (some ⟨B,0,none⟩))],
   .val (.agg (uc (limN 4 p1))) [(27,.agg (uc (limN 4 b))),(29,.agg (uc (limN 4 a)))],
   .val (.pointer (some ⟨B+1,4,none⟩)) [(3,.pointer (some ⟨B+1,0,none⟩))],
   .val (.agg (uc (limN 4 bb))) [(31,.pointer (some ⟨B+1,4,none⟩))],
   .val (.pointer (some ⟨B+1,0,none⟩)) [(3,.pointer (some ⟨B+1,0,none⟩))],
   .val (.agg (uc (limN 4 aa))) [(33,.pointer (some ⟨B+1,0,none⟩))],
   .val (.agg (uc (limN 4 p2))) [(32,.agg (uc (limN 4 bb))),(34,.agg (uc (limN 4 aa)))],
   .val (.agg (uc (limN 4 nb))) [(30,.agg (uc (limN 4 p1))),(35,.agg (uc (limN 4 p2)))],
   .fresh (.cells zeros4 61)] (by kernel_rfl) (by kernel_rfl) rfl ?_ ?_ ?_
  ·simp only [take_succ_cons,List.take_zero,qaL,qaK,HeadSpec.val,HeadSpec.fresh,and_true]
   refine ⟨?_,?_,?_,?_,?_,?_,?_,?_,?_,?_,?_,?_⟩
   ·intro act w hb h
    have e0:=h (2,.pointer (some ⟨B,0,none⟩)) (by simp)
    simp only [getD_eq_getD_getElem?] at e0
    simp [go_sem,e0,qac]
   ·intro act w hb h
    have e0:=h (26,.pointer (some ⟨B,4,none⟩)) (by simp)
    exact qas (.tmp 26) rfl (B) 4 e0 103 _ _ (0,0) (qaa hb (qab HQ.out) HQ.out) (qad _ _) (qea _ _ _ _)
   ·intro act w hb h
    have e0:=h (2,.pointer (some ⟨B,0,none⟩)) (by simp)
    simp only [getD_eq_getD_getElem?] at e0
    simp [go_sem,e0,qac]
   ·intro act w hb h
    have e0:=h (28,.pointer (some ⟨B,0,none⟩)) (by simp)
    exact qas (.tmp 28) rfl (B) 0 e0 103 _ _ (0,0) (qaa hb (qab HQ.out) HQ.out) (qad _ _) (qd9 _ _ _ _)
   ·intro act w hb h
    have e0:=h (27,.agg (uc (limN 4 b))) (by simp)
    have e1:=h (29,.agg (uc (limN 4 a))) (by simp)
    simp only [getD_eq_getD_getElem?] at e0 e1
    simp [go_sem,e0,e1,qac]
    exact C_p1.out w (HP.out.step hb)
   ·intro act w hb h
    have e0:=h (3,.pointer (some ⟨B+1,0,none⟩)) (by simp)
    simp only [getD_eq_getD_getElem?] at e0
    simp [go_sem,e0,qac]
   ·intro act w hb h
    have e0:=h (31,.pointer (some ⟨B+1,4,none⟩)) (by simp)
    exact qas (.tmp 31) rfl (B+1) 4 e0 103 _ _ (0,0) (qaa hb (qab HX.out) HX.out) (qad _ _) (qea _ _ _ _)
   ·intro act w hb h
    have e0:=h (3,.pointer (some ⟨B+1,0,none⟩)) (by simp)
    simp only [getD_eq_getD_getElem?] at e0
    simp [go_sem,e0,qac]
   ·intro act w hb h
    have e0:=h (33,.pointer (some ⟨B+1,0,none⟩)) (by simp)
    exact qas (.tmp 33) rfl (B+1) 0 e0 103 _ _ (0,0) (qaa hb (qab HX.out) HX.out) (qad _ _) (qd9 _ _ _ _)
   ·intro act w hb h
    have e0:=h (32,.agg (uc (limN 4 bb))) (by simp)
    have e1:=h (34,.agg (uc (limN 4 aa))) (by simp)
    simp only [getD_eq_getD_getElem?] at e0 e1
    simp [go_sem,e0,e1,qac]
    exact C_p2.out w (HP.out.step hb)
   ·intro act w hb h
    have e0:=h (30,.agg (uc (limN 4 p1))) (by simp)
    have e1:=h (35,.agg (uc (limN 4 p2))) (by simp)
    simp only [getD_eq_getD_getElem?] at e0 e1
    simp [go_sem,e0,e1,qac]
    exact C_nb.out w (HP.out.step hb)
   ·intro act w hb
    simp [go_sem,hz]
  ·simp [qau,qav,qaJ,HeadSpec.val,HeadSpec.fresh,Act.put]
  ·simp only [take_succ_cons,List.take_zero,drop_succ_cons,List.drop_zero,qaH,HeadSpec.val,HeadSpec.fresh,Act.put,setIfInBounds_toArray,set_cons_succ,set_cons_zero]
   intro g6 hg6 _ v1 hv1 hgs
   have N_g6:=hid (show v1.heap[g6]?=some (.cells zeros4 61) from hgs (g6,.cells zeros4 61) (by simp))
   have hk:Below W1.heap.size W1 (v1.setRow g6 (uc (limN 4 nb))):=below_setRow hv1 hg6 (uc (limN 4 nb))
   have k_g6:=hid (show (v1.setRow g6 (uc (limN 4 nb))).heap[g6]?=some (.cells (uc (limN 4 nb)) 61) from by exact setRow_heap _ g6 _ (uc (limN 4 nb)) _ _ N_g6.out)
   have hb1:=hb.trans (hk.mono hB.out);have hP1:=hid (HP.out.step hk);have kHQ:=hid (qaa hk (qab HQ.out) HQ.out);have kHX:=hid (qaa hk (qab HX.out) HX.out);have kHR:=hid (qaa hk (qab HR.out) HR.out);have kH_g5:=hid (qaa hk (qab H_g5.out) H_g5.out);have hB1:=hid (Nat.le_trans hB.out hk.size);have b_g6:=hid (Nat.le_trans hB.out hg6);clear HQ HX HR H_g5 hv1 hgs hb HP hB hk hg6
   go_wp2_with (first | (with_reducible refine wpList_store_row rfl 61 _ _ rfl g6 (uc (limN 4 nb)) rfl rfl 61 _ N_g6.out (qak _) (qaq _) (qar _) ?_))
   generalize (World.setRow _ _ _)=W2 at *;clear N_g6;have HQ:=kHQ;have HX:=kHX;have HR:=kHR;have H_g5:=kH_g5;have H_g6:=k_g6;have hb:=hb1;have HP:=hP1;have hB:=hB1;clear hb1 hP1 hB1 kHQ kHX kHR kH_g5 k_g6
   try simp only [Act.put]
   refine (C_fd.out W2 HP.out).mono ?_
   rintro e W3 ⟨rfl,bk⟩;replace hb:=hb.trans (bk.mono hB.out);replace HP:=hid (HP.out.step bk);replace hB:=hid (Nat.le_trans hB.out bk.size);replace HQ:=hid (qaa bk (qab HQ.out) HQ.out);replace HX:=hid (qaa bk (qab HX.out) HX.out);replace HR:=hid (qaa bk (qab HR.out) HR.out);replace H_g5:=hid (qaa bk (qab H_g5.out) H_g5.out);replace H_g6:=hid (qaa bk (qab H_g6.out) H_g6.out);clear bk;have HN:=hid (qag W3 (.cells zeros4 61));have bn:=qah W3 (.cells zeros4 61);have q_g7:=hid (setRow_heap _ W3.heap.size _ (uc (limN 4 fd)) _ _ HN.out)
   go_wp2_with (first | (with_reducible refine wpList_store_row rfl 61 _ _ rfl W3.heap.size (uc (limN 4 fd)) rfl rfl 61 _ HN.out (qak _) (qaq _) (qar _) ?_) | (with_reducible refine wpList_load_row rfl 61 _ rfl (W3.heap.size) rfl 61 _ (0,0) _ q_g7.out Tryz.underlying61 rfl (qak _) ?_))
   have bk:=below_setRow bn (Nat.le_refl _) (uc (limN 4 fd));have b_g7:=hid hB.out;replace hb:=hb.trans (bk.mono hB.out);replace HP:=hid (HP.out.step bk);replace hB:=hid (Nat.le_trans hB.out bk.size);replace HQ:=hid (qaa bk (qab HQ.out) HQ.out);replace HX:=hid (qaa bk (qab HX.out) HX.out);replace HR:=hid (qaa bk (qab HR.out) HR.out);replace H_g5:=hid (qaa bk (qab H_g5.out) H_g5.out);replace H_g6:=hid (qaa bk (qab H_g6.out) H_g6.out);clear bk;have H_g7:=q_g7;generalize (World.setRow (World.alloc _ _) _ _)=W4 at *;generalize W3.heap.size=g7 at *;clear bn HN q_g7
   try simp only [Act.put]
   refine (C_k.out W4 HP.out).mono ?_
   rintro e W5 ⟨rfl,bk⟩;replace hb:=hb.trans (bk.mono hB.out);replace HP:=hid (HP.out.step bk);replace hB:=hid (Nat.le_trans hB.out bk.size);replace HQ:=hid (qaa bk (qab HQ.out) HQ.out);replace HX:=hid (qaa bk (qab HX.out) HX.out);replace HR:=hid (qaa bk (qab HR.out) HR.out);replace H_g5:=hid (qaa bk (qab H_g5.out) H_g5.out);replace H_g6:=hid (qaa bk (qab H_g6.out) H_g6.out);replace H_g7:=hid (qaa bk (qab H_g7.out) H_g7.out);clear bk;have HN:=hid (qag W5 (.cells zeros4 61));have bn:=qah W5 (.cells zeros4 61);have q_g8:=hid (setRow_heap _ W5.heap.size _ (uc (limN 4 k)) _ _ HN.out)
   go_wp2_with (first | (with_reducible refine wpList_store_row rfl 61 _ _ rfl W5.heap.size (uc (limN 4 k)) rfl rfl 61 _ HN.out (qak _) (qaq _) (qar _) ?_))
   have bk:=below_setRow bn (Nat.le_refl _) (uc (limN 4 k));have b_g8:=hid hB.out;replace hb:=hb.trans (bk.mono hB.out);replace HP:=hid (HP.out.step bk);replace hB:=hid (Nat.le_trans hB.out bk.size);replace HQ:=hid (qaa bk (qab HQ.out) HQ.out);replace HX:=hid (qaa bk (qab HX.out) HX.out);replace HR:=hid (qaa bk (qab HR.out) HR.out);replace H_g5:=hid (qaa bk (qab H_g5.out) H_g5.out);replace H_g6:=hid (qaa bk (qab H_g6.out) H_g6.out);replace H_g7:=hid (qaa bk (qab H_g7.out) H_g7.out);clear bk;have H_g8:=q_g8;generalize (World.setRow (World.alloc _ _) _ _)=W6 at *;generalize W5.heap.size=g8 at *;clear bn HN q_g8
   try simp only [Act.put]
   refine qam 8 81 [.val (.pointer (some ⟨B,12,none⟩)) [(2,.pointer (some ⟨B,0,none⟩))],
   .val (.agg (uc (limN 4 d))) [(41,.pointer (some ⟨B,12,none⟩))],
   .val (.agg (uc (limN 4 k))) [(8,.pointer (some ⟨g8,0,none⟩))],
   .val (.agg (uc (limN 4 c1))) [(42,.agg (uc (limN 4 d))),(43,.agg (uc (limN 4 k)))],
   .val (.pointer (some ⟨B+1,12,none⟩)) [(3,.pointer (some ⟨B+1,0,none⟩))],
   .val (.agg (uc (limN 4 dd))) [(45,.pointer (some ⟨B+1,12,none⟩))],
   .val (.agg (uc (limN 4 nc))) [(44,.agg (uc (limN 4 c1))),(46,.agg (uc (limN 4 dd)))],
   .fresh (.cells zeros4 61)] (by kernel_rfl) (by kernel_rfl) rfl ?_ ?_ ?_
   ·simp only [take_succ_cons,List.take_zero,qaL,qaK,HeadSpec.val,HeadSpec.fresh,and_true]
    refine ⟨?_,?_,?_,?_,?_,?_,?_,?_⟩
    ·intro act w hb h
     have e0:=h (2,.pointer (some ⟨B,0,none⟩)) (by simp)
     simp only [getD_eq_getD_getElem?] at e0
     simp [go_sem,e0,qac]
    ·intro act w hb h
     have e0:=h (41,.pointer (some ⟨B,12,none⟩)) (by simp)
     exact qas (.tmp 41) rfl (B) 12 e0 103 _ _ (0,0) (qaa hb (qab HQ.out) HQ.out) (qad _ _) (row4_3 _ _ _ _)
    ·intro act w hb h
     have e0:=h (8,.pointer (some ⟨g8,0,none⟩)) (by simp)
     exact qae 61 (.tmp 8) rfl (g8) e0 61 _ (0,0) _ (qaa hb (qab H_g8.out) H_g8.out) Tryz.underlying61 rfl (qak _)
    ·intro act w hb h
     have e0:=h (42,.agg (uc (limN 4 d))) (by simp)
     have e1:=h (43,.agg (uc (limN 4 k))) (by simp)
     simp only [getD_eq_getD_getElem?] at e0 e1
     simp [go_sem,e0,e1,qac]
     exact C_c1.out w (HP.out.step hb)
    ·intro act w hb h
     have e0:=h (3,.pointer (some ⟨B+1,0,none⟩)) (by simp)
     simp only [getD_eq_getD_getElem?] at e0
     simp [go_sem,e0,qac]
    ·intro act w hb h
     have e0:=h (45,.pointer (some ⟨B+1,12,none⟩)) (by simp)
     exact qas (.tmp 45) rfl (B+1) 12 e0 103 _ _ (0,0) (qaa hb (qab HX.out) HX.out) (qad _ _) (row4_3 _ _ _ _)
    ·intro act w hb h
     have e0:=h (44,.agg (uc (limN 4 c1))) (by simp)
     have e1:=h (46,.agg (uc (limN 4 dd))) (by simp)
     simp only [getD_eq_getD_getElem?] at e0 e1
     simp [go_sem,e0,e1,qac]
     exact C_nc.out w (HP.out.step hb)
    ·intro act w hb
     simp [go_sem,hz]
   ·simp [qau,qav,qaJ,HeadSpec.val,HeadSpec.fresh,Act.put]
   ·simp only [take_succ_cons,List.take_zero,drop_succ_cons,List.drop_zero,qaH,HeadSpec.val,HeadSpec.fresh,Act.put,setIfInBounds_toArray,set_cons_succ,set_cons_zero]
    intro g9 hg9 _ v1 hv1 hgs
    have N_g9:=hid (show v1.heap[g9]?=some (.cells zeros4 61) from hgs (g9,.cells zeros4 61) (by simp))
    have hk:Below W6.heap.size W6 (v1.setRow g9 (uc (limN 4 nc))):=below_setRow hv1 hg9 (uc (limN 4 nc))
    have k_g9:=hid (show (v1.setRow g9 (uc (limN 4 nc))).heap[g9]?=some (.cells (uc (limN 4 nc)) 61) from by exact setRow_heap _ g9 _ (uc (limN 4 nc)) _ _ N_g9.out)
    have hb1:=hb.trans (hk.mono hB.out);have hP1:=hid (HP.out.step hk);have kHQ:=hid (qaa hk (qab HQ.out) HQ.out);have kHX:=hid (qaa hk (qab HX.out) HX.out);have kHR:=hid (qaa hk (qab HR.out) HR.out);have kH_g5:=hid (qaa hk (qab H_g5.out) H_g5.out);have kH_g6:=hid (qaa hk (qab H_g6.out) H_g6.out);have kH_g7:=hid (qaa hk (qab H_g7.out) H_g7.out);have kH_g8:=hid (qaa hk (qab H_g8.out) H_g8.out);have hB1:=hid (Nat.le_trans hB.out hk.size);have b_g9:=hid (Nat.le_trans hB.out hg9);clear HQ HX HR H_g5 H_g6 H_g7 H_g8 hv1 hgs hb HP hB hk hg9
    go_wp2_with (first | (with_reducible refine wpList_store_row rfl 61 _ _ rfl g9 (uc (limN 4 nc)) rfl rfl 61 _ N_g9.out (qak _) (qaq _) (qar _) ?_))
    generalize (World.setRow _ _ _)=W7 at *;clear N_g9;have HQ:=kHQ;have HX:=kHX;have HR:=kHR;have H_g5:=kH_g5;have H_g6:=kH_g6;have H_g7:=kH_g7;have H_g8:=kH_g8;have H_g9:=k_g9;have hb:=hb1;have HP:=hP1;have hB:=hB1;clear hb1 hP1 hB1 kHQ kHX kHR kH_g5 kH_g6 kH_g7 kH_g8 k_g9
    try simp only [Act.put]
    refine qam 9 81 [.val (.pointer (some ⟨B,8,none⟩)) [(2,.pointer (some ⟨B,0,none⟩))],
   .val (.agg (uc (limN 4 c))) [(48,.pointer (some ⟨B,8,none⟩))],
   .val (.pointer (some ⟨B,8,none⟩)) [(2,.pointer (some ⟨B,0,none⟩))],
   .val (.agg (uc (limN 4 c))) [(50,.pointer (some ⟨B,8,none⟩))],
   .val (.agg (uc (limN 4 m1))) [(49,.agg (uc (limN 4 c))),(51,.agg (uc (limN 4 c)))],
   .val (.pointer (some ⟨B+1,8,none⟩)) [(3,.pointer (some ⟨B+1,0,none⟩))],
   .val (.agg (uc (limN 4 cc))) [(53,.pointer (some ⟨B+1,8,none⟩))],
   .val (.agg (uc (limN 4 nm))) [(52,.agg (uc (limN 4 m1))),(54,.agg (uc (limN 4 cc)))],
   .fresh (.cells zeros4 61)] (by kernel_rfl) (by kernel_rfl) rfl ?_ ?_ ?_
    ·simp only [take_succ_cons,List.take_zero,qaL,qaK,HeadSpec.val,HeadSpec.fresh,and_true]
     refine ⟨?_,?_,?_,?_,?_,?_,?_,?_,?_⟩
     ·intro act w hb h
      have e0:=h (2,.pointer (some ⟨B,0,none⟩)) (by simp)
      simp only [getD_eq_getD_getElem?] at e0
      simp [go_sem,e0,qac]
     ·intro act w hb h
      have e0:=h (48,.pointer (some ⟨B,8,none⟩)) (by simp)
      exact qas (.tmp 48) rfl (B) 8 e0 103 _ _ (0,0) (qaa hb (qab HQ.out) HQ.out) (qad _ _) (qeJ _ _ _ _)
     ·intro act w hb h
      have e0:=h (2,.pointer (some ⟨B,0,none⟩)) (by simp)
      simp only [getD_eq_getD_getElem?] at e0
      simp [go_sem,e0,qac]
     ·intro act w hb h
      have e0:=h (50,.pointer (some ⟨B,8,none⟩)) (by simp)
      exact qas (.tmp 50) rfl (B) 8 e0 103 _ _ (0,0) (qaa hb (qab HQ.out) HQ.out) (qad _ _) (qeJ _ _ _ _)
     ·intro act w hb h
      have e0:=h (49,.agg (uc (limN 4 c))) (by simp)
      have e1:=h (51,.agg (uc (limN 4 c))) (by simp)
      simp only [getD_eq_getD_getElem?] at e0 e1
      simp [go_sem,e0,e1,qac]
      exact C_m1.out w (HP.out.step hb)
     ·intro act w hb h
      have e0:=h (3,.pointer (some ⟨B+1,0,none⟩)) (by simp)
      simp only [getD_eq_getD_getElem?] at e0
      simp [go_sem,e0,qac]
     ·intro act w hb h
      have e0:=h (53,.pointer (some ⟨B+1,8,none⟩)) (by simp)
      exact qas (.tmp 53) rfl (B+1) 8 e0 103 _ _ (0,0) (qaa hb (qab HX.out) HX.out) (qad _ _) (qeJ _ _ _ _)
     ·intro act w hb h
      have e0:=h (52,.agg (uc (limN 4 m1))) (by simp)
      have e1:=h (54,.agg (uc (limN 4 cc))) (by simp)
      simp only [getD_eq_getD_getElem?] at e0 e1
      simp [go_sem,e0,e1,qac]
      exact C_nm.out w (HP.out.step hb)
     ·intro act w hb
      simp [go_sem,hz]
    ·simp [qau,qav,qaJ,HeadSpec.val,HeadSpec.fresh,Act.put]
    ·simp only [take_succ_cons,List.take_zero,drop_succ_cons,List.drop_zero,qaH,HeadSpec.val,HeadSpec.fresh,Act.put,setIfInBounds_toArray,set_cons_succ,set_cons_zero]
     intro g10 hg10 _ v1 hv1 hgs
     have N_g10:=hid (show v1.heap[g10]?=some (.cells zeros4 61) from hgs (g10,.cells zeros4 61) (by simp))
     have hk:Below W7.heap.size W7 (v1.setRow g10 (uc (limN 4 nm))):=below_setRow hv1 hg10 (uc (limN 4 nm))
     have k_g10:=hid (show (v1.setRow g10 (uc (limN 4 nm))).heap[g10]?=some (.cells (uc (limN 4 nm)) 61) from by exact setRow_heap _ g10 _ (uc (limN 4 nm)) _ _ N_g10.out)
     have hb1:=hb.trans (hk.mono hB.out);have hP1:=hid (HP.out.step hk);have kHQ:=hid (qaa hk (qab HQ.out) HQ.out);have kHX:=hid (qaa hk (qab HX.out) HX.out);have kHR:=hid (qaa hk (qab HR.out) HR.out);have kH_g5:=hid (qaa hk (qab H_g5.out) H_g5.out);have kH_g6:=hid (qaa hk (qab H_g6.out) H_g6.out);have kH_g7:=hid (qaa hk (qab H_g7.out) H_g7.out);have kH_g8:=hid (qaa hk (qab H_g8.out) H_g8.out);have kH_g9:=hid (qaa hk (qab H_g9.out) H_g9.out);have hB1:=hid (Nat.le_trans hB.out hk.size);have b_g10:=hid (Nat.le_trans hB.out hg10);clear HQ HX HR H_g5 H_g6 H_g7 H_g8 H_g9 hv1 hgs hb HP hB hk hg10
     go_wp2_with (first | (with_reducible refine wpList_store_row rfl 61 _ _ rfl g10 (uc (limN 4 nm)) rfl rfl 61 _ N_g10.out (qak _) (qaq _) (qar _) ?_))
     generalize (World.setRow _ _ _)=W8 at *;clear N_g10;have HQ:=kHQ;have HX:=kHX;have HR:=kHR;have H_g5:=kH_g5;have H_g6:=kH_g6;have H_g7:=kH_g7;have H_g8:=kH_g8;have H_g9:=kH_g9;have H_g10:=k_g10;have hb:=hb1;have HP:=hP1;have hB:=hB1;clear hb1 hP1 hB1 kHQ kHX kHR kH_g5 kH_g6 kH_g7 kH_g8 kH_g9 k_g10
     try simp only [Act.put]
     refine qam 16 81 [.val (.agg (uc (limN 4 nb))) [(6,.pointer (some ⟨g6,0,none⟩))],
   .val (.agg (uc (limN 4 na))) [(5,.pointer (some ⟨g5,0,none⟩))],
   .val (.agg (uc (limN 4 ne))) [(56,.agg (uc (limN 4 nb))),(57,.agg (uc (limN 4 na)))],
   .val (.agg (uc (limN 4 nm))) [(10,.pointer (some ⟨g10,0,none⟩))],
   .val (.agg (uc (limN 4 nc))) [(9,.pointer (some ⟨g9,0,none⟩))],
   .val (.agg (uc (limN 4 nf))) [(59,.agg (uc (limN 4 nm))),(60,.agg (uc (limN 4 nc)))],
   .val (.agg (uc (limN 4 nm))) [(10,.pointer (some ⟨g10,0,none⟩))],
   .val (.agg (uc (limN 4 nc))) [(9,.pointer (some ⟨g9,0,none⟩))],
   .val (.agg (uc (limN 4 ng))) [(62,.agg (uc (limN 4 nm))),(63,.agg (uc (limN 4 nc)))],
   .val (.agg (uc (limN 4 nb))) [(6,.pointer (some ⟨g6,0,none⟩))],
   .val (.agg (uc (limN 4 na))) [(5,.pointer (some ⟨g5,0,none⟩))],
   .val (.agg (uc (limN 4 nh))) [(65,.agg (uc (limN 4 nb))),(66,.agg (uc (limN 4 na)))],
   .fresh (.cells zeros4 61),
   .fresh (.cells zeros4 61),
   .fresh (.cells zeros4 61),
   .fresh (.cells zeros4 61)] (by kernel_rfl) (by kernel_rfl) rfl ?_ ?_ ?_
     ·simp only [take_succ_cons,List.take_zero,qaL,qaK,HeadSpec.val,HeadSpec.fresh,and_true]
      refine ⟨?_,?_,?_,?_,?_,?_,?_,?_,?_,?_,?_,?_,?_,?_,?_,?_⟩
      ·intro act w hb h
       have e0:=h (6,.pointer (some ⟨g6,0,none⟩)) (by simp)
       exact qae 61 (.tmp 6) rfl (g6) e0 61 _ (0,0) _ (qaa hb (qab H_g6.out) H_g6.out) Tryz.underlying61 rfl (qak _)
      ·intro act w hb h
       have e0:=h (5,.pointer (some ⟨g5,0,none⟩)) (by simp)
       exact qae 61 (.tmp 5) rfl (g5) e0 61 _ (0,0) _ (qaa hb (qab H_g5.out) H_g5.out) Tryz.underlying61 rfl (qak _)
      ·intro act w hb h
       have e0:=h (56,.agg (uc (limN 4 nb))) (by simp)
       have e1:=h (57,.agg (uc (limN 4 na))) (by simp)
       simp only [getD_eq_getD_getElem?] at e0 e1
       simp [go_sem,e0,e1,qac]
       exact C_ne.out w (HP.out.step hb)
      ·intro act w hb h
       have e0:=h (10,.pointer (some ⟨g10,0,none⟩)) (by simp)
       exact qae 61 (.tmp 10) rfl (g10) e0 61 _ (0,0) _ (qaa hb (qab H_g10.out) H_g10.out) Tryz.underlying61 rfl (qak _)
      ·intro act w hb h
       have e0:=h (9,.pointer (some ⟨g9,0,none⟩)) (by simp)
       exact qae 61 (.tmp 9) rfl (g9) e0 61 _ (0,0) _ (qaa hb (qab H_g9.out) H_g9.out) Tryz.underlying61 rfl (qak _)
      ·intro act w hb h
       have e0:=h (59,.agg (uc (limN 4 nm))) (by simp)
       have e1:=h (60,.agg (uc (limN 4 nc))) (by simp)
       simp only [getD_eq_getD_getElem?] at e0 e1
       simp [go_sem,e0,e1,qac]
       exact C_nf.out w (HP.out.step hb)
      ·intro act w hb h
       have e0:=h (10,.pointer (some ⟨g10,0,none⟩)) (by simp)
       exact qae 61 (.tmp 10) rfl (g10) e0 61 _ (0,0) _ (qaa hb (qab H_g10.out) H_g10.out) Tryz.underlying61 rfl (qak _)
      ·intro act w hb h
       have e0:=h (9,.pointer (some ⟨g9,0,none⟩)) (by simp)
       exact qae 61 (.tmp 9) rfl (g9) e0 61 _ (0,0) _ (qaa hb (qab H_g9.out) H_g9.out) Tryz.underlying61 rfl (qak _)
      ·intro act w hb h
       have e0:=h (62,.agg (uc (limN 4 nm))) (by simp)
       have e1:=h (63,.agg (uc (limN 4 nc))) (by simp)
       simp only [getD_eq_getD_getElem?] at e0 e1
       simp [go_sem,e0,e1,qac]
       exact C_ng.out w (HP.out.step hb)
      ·intro act w hb h
       have e0:=h (6,.pointer (some ⟨g6,0,none⟩)) (by simp)
       exact qae 61 (.tmp 6) rfl (g6) e0 61 _ (0,0) _ (qaa hb (qab H_g6.out) H_g6.out) Tryz.underlying61 rfl (qak _)
      ·intro act w hb h
       have e0:=h (5,.pointer (some ⟨g5,0,none⟩)) (by simp)
       exact qae 61 (.tmp 5) rfl (g5) e0 61 _ (0,0) _ (qaa hb (qab H_g5.out) H_g5.out) Tryz.underlying61 rfl (qak _)
      ·intro act w hb h
       have e0:=h (65,.agg (uc (limN 4 nb))) (by simp)
       have e1:=h (66,.agg (uc (limN 4 na))) (by simp)
       simp only [getD_eq_getD_getElem?] at e0 e1
       simp [go_sem,e0,e1,qac]
       exact C_nh.out w (HP.out.step hb)
      ·intro act w hb
       simp [go_sem,hz]
      ·intro act w hb
       simp [go_sem,hz]
      ·intro act w hb
       simp [go_sem,hz]
      ·intro act w hb
       simp [go_sem,hz]
     ·simp [qau,qav,qaJ,HeadSpec.val,HeadSpec.fresh,Act.put]
     ·simp only [take_succ_cons,List.take_zero,drop_succ_cons,List.drop_zero,qaH,HeadSpec.val,HeadSpec.fresh,Act.put,setIfInBounds_toArray,set_cons_succ,set_cons_zero]
      intro g11 hg11 _ g12 hg12 ng12 g13 hg13 ng13 g14 hg14 ng14 v1 hv1 hgs
      have ne_g11_g12:g11≠g12:=ng12 (g11,.cells zeros4 61) (by simp)
      have ne_g11_g13:g11≠g13:=ng13 (g11,.cells zeros4 61) (by simp)
      have ne_g12_g13:g12≠g13:=ng13 (g12,.cells zeros4 61) (by simp)
      have ne_g11_g14:g11≠g14:=ng14 (g11,.cells zeros4 61) (by simp)
      have ne_g12_g14:g12≠g14:=ng14 (g12,.cells zeros4 61) (by simp)
      have ne_g13_g14:g13≠g14:=ng14 (g13,.cells zeros4 61) (by simp)
      have N_g11:=hid (show v1.heap[g11]?=some (.cells zeros4 61) from hgs (g11,.cells zeros4 61) (by simp))
      have N_g12:=hid (show v1.heap[g12]?=some (.cells zeros4 61) from hgs (g12,.cells zeros4 61) (by simp))
      have N_g13:=hid (show v1.heap[g13]?=some (.cells zeros4 61) from hgs (g13,.cells zeros4 61) (by simp))
      have N_g14:=hid (show v1.heap[g14]?=some (.cells zeros4 61) from hgs (g14,.cells zeros4 61) (by simp))
      have M_g12:=hid (show (v1.setRow g11 (uc (limN 4 ne))).heap[g12]?=some (.cells zeros4 61) from by rw [setRow_other _ _ _ _ (Ne.symm ne_g11_g12)];exact N_g12.out)
      have M_g13:=hid (show ((v1.setRow g11 (uc (limN 4 ne))).setRow g12 (uc (limN 4 nf))).heap[g13]?=some (.cells zeros4 61) from by rw [setRow_other _ _ _ _ (Ne.symm ne_g12_g13),setRow_other _ _ _ _ (Ne.symm ne_g11_g13)];exact N_g13.out)
      have M_g14:=hid (show (((v1.setRow g11 (uc (limN 4 ne))).setRow g12 (uc (limN 4 nf))).setRow g13 (uc (limN 4 ng))).heap[g14]?=some (.cells zeros4 61) from by rw [setRow_other _ _ _ _ (Ne.symm ne_g13_g14),setRow_other _ _ _ _ (Ne.symm ne_g12_g14),setRow_other _ _ _ _ (Ne.symm ne_g11_g14)];exact N_g14.out)
      have hk:Below W8.heap.size W8 ((((v1.setRow g11 (uc (limN 4 ne))).setRow g12 (uc (limN 4 nf))).setRow g13 (uc (limN 4 ng))).setRow g14 (uc (limN 4 nh))):=below_setRow (below_setRow (below_setRow (below_setRow hv1 hg11 (uc (limN 4 ne))) hg12 (uc (limN 4 nf))) hg13 (uc (limN 4 ng))) hg14 (uc (limN 4 nh))
      have k_g11:=hid (show ((((v1.setRow g11 (uc (limN 4 ne))).setRow g12 (uc (limN 4 nf))).setRow g13 (uc (limN 4 ng))).setRow g14 (uc (limN 4 nh))).heap[g11]?=some (.cells (uc (limN 4 ne)) 61) from by rw [setRow_other _ _ _ _ ne_g11_g14];rw [setRow_other _ _ _ _ ne_g11_g13];rw [setRow_other _ _ _ _ ne_g11_g12];exact setRow_heap _ g11 _ (uc (limN 4 ne)) _ _ N_g11.out)
      have k_g12:=hid (show ((((v1.setRow g11 (uc (limN 4 ne))).setRow g12 (uc (limN 4 nf))).setRow g13 (uc (limN 4 ng))).setRow g14 (uc (limN 4 nh))).heap[g12]?=some (.cells (uc (limN 4 nf)) 61) from by rw [setRow_other _ _ _ _ ne_g12_g14];rw [setRow_other _ _ _ _ ne_g12_g13];exact setRow_heap _ g12 _ (uc (limN 4 nf)) _ _ M_g12.out)
      have k_g13:=hid (show ((((v1.setRow g11 (uc (limN 4 ne))).setRow g12 (uc (limN 4 nf))).setRow g13 (uc (limN 4 ng))).setRow g14 (uc (limN 4 nh))).heap[g13]?=some (.cells (uc (limN 4 ng)) 61) from by rw [setRow_other _ _ _ _ ne_g13_g14];exact setRow_heap _ g13 _ (uc (limN 4 ng)) _ _ M_g13.out)
      have k_g14:=hid (show ((((v1.setRow g11 (uc (limN 4 ne))).setRow g12 (uc (limN 4 nf))).setRow g13 (uc (limN 4 ng))).setRow g14 (uc (limN 4 nh))).heap[g14]?=some (.cells (uc (limN 4 nh)) 61) from by exact setRow_heap _ g14 _ (uc (limN 4 nh)) _ _ M_g14.out)
      have hb1:=hb.trans (hk.mono hB.out);have hP1:=hid (HP.out.step hk);have kHQ:=hid (qaa hk (qab HQ.out) HQ.out);have kHX:=hid (qaa hk (qab HX.out) HX.out);have kHR:=hid (qaa hk (qab HR.out) HR.out);have kH_g5:=hid (qaa hk (qab H_g5.out) H_g5.out);have kH_g6:=hid (qaa hk (qab H_g6.out) H_g6.out);have kH_g7:=hid (qaa hk (qab H_g7.out) H_g7.out);have kH_g8:=hid (qaa hk (qab H_g8.out) H_g8.out);have kH_g9:=hid (qaa hk (qab H_g9.out) H_g9.out);have kH_g10:=hid (qaa hk (qab H_g10.out) H_g10.out);have hB1:=hid (Nat.le_trans hB.out hk.size);have b_g11:=hid (Nat.le_trans hB.out hg11);have b_g12:=hid (Nat.le_trans hB.out hg12);have b_g13:=hid (Nat.le_trans hB.out hg13);have b_g14:=hid (Nat.le_trans hB.out hg14);clear HQ HX HR H_g5 H_g6 H_g7 H_g8 H_g9 H_g10 hv1 hgs hb HP hB hk hg11 hg12 hg13 hg14 ne_g11_g12 ne_g11_g13 ne_g12_g13 ne_g11_g14 ne_g12_g14 ne_g13_g14 ng12 ng13 ng14
      go_wp2_with (first | (with_reducible refine wpList_store_row rfl 61 _ _ rfl g11 (uc (limN 4 ne)) rfl rfl 61 _ N_g11.out (qak _) (qaq _) (qar _) ?_) | (with_reducible refine wpList_store_row rfl 61 _ _ rfl g12 (uc (limN 4 nf)) rfl rfl 61 _ M_g12.out (qak _) (qaq _) (qar _) ?_) | (with_reducible refine wpList_store_row rfl 61 _ _ rfl g13 (uc (limN 4 ng)) rfl rfl 61 _ M_g13.out (qak _) (qaq _) (qar _) ?_) | (with_reducible refine wpList_store_row rfl 61 _ _ rfl g14 (uc (limN 4 nh)) rfl rfl 61 _ M_g14.out (qak _) (qaq _) (qar _) ?_))
      generalize (World.setRow (World.setRow (World.setRow (World.setRow _ _ _) _ _) _ _) _ _)=W9 at *;clear N_g11 N_g12 N_g13 N_g14 M_g12 M_g13 M_g14;have HQ:=kHQ;have HX:=kHX;have HR:=kHR;have H_g5:=kH_g5;have H_g6:=kH_g6;have H_g7:=kH_g7;have H_g8:=kH_g8;have H_g9:=kH_g9;have H_g10:=kH_g10;have H_g11:=k_g11;have H_g12:=k_g12;have H_g13:=k_g13;have H_g14:=k_g14;have hb:=hb1;have HP:=hP1;have hB:=hB1;clear hb1 hP1 hB1 kHQ kHX kHR kH_g5 kH_g6 kH_g7 kH_g8 kH_g9 kH_g10 k_g11 k_g12 k_g13 k_g14
      try simp only [Act.put]
      refine qam 13 81 [.val (.agg (uc (limN 4 ne))) [(11,.pointer (some ⟨g11,0,none⟩))],
   .val (.agg (uc (limN 4 nf))) [(12,.pointer (some ⟨g12,0,none⟩))],
   .val (.agg (uc (limN 4 nx))) [(68,.agg (uc (limN 4 ne))),(69,.agg (uc (limN 4 nf)))],
   .val (.agg (uc (limN 4 ng))) [(13,.pointer (some ⟨g13,0,none⟩))],
   .val (.agg (uc (limN 4 nh))) [(14,.pointer (some ⟨g14,0,none⟩))],
   .val (.agg (uc (limN 4 ny))) [(71,.agg (uc (limN 4 ng))),(72,.agg (uc (limN 4 nh)))],
   .val (.agg (uc (limN 4 nf))) [(12,.pointer (some ⟨g12,0,none⟩))],
   .val (.agg (uc (limN 4 ng))) [(13,.pointer (some ⟨g13,0,none⟩))],
   .val (.agg (uc (limN 4 nz))) [(74,.agg (uc (limN 4 nf))),(75,.agg (uc (limN 4 ng)))],
   .val (.agg (uc (limN 4 ne))) [(11,.pointer (some ⟨g11,0,none⟩))],
   .val (.agg (uc (limN 4 nh))) [(14,.pointer (some ⟨g14,0,none⟩))],
   .val (.agg (uc (limN 4 nt))) [(77,.agg (uc (limN 4 ne))),(78,.agg (uc (limN 4 nh)))],
   .val (.agg (uc (row4 nx ny nz nt))) [(70,.agg (uc (limN 4 nx))),(73,.agg (uc (limN 4 ny))),(76,.agg (uc (limN 4 nz))),(79,.agg (uc (limN 4 nt)))]] (by kernel_rfl) (by kernel_rfl) rfl ?_ ?_ ?_
      ·simp only [take_succ_cons,List.take_zero,qaL,qaK,HeadSpec.val,HeadSpec.fresh,and_true]
       refine ⟨?_,?_,?_,?_,?_,?_,?_,?_,?_,?_,?_,?_,?_⟩
       ·intro act w hb h
        have e0:=h (11,.pointer (some ⟨g11,0,none⟩)) (by simp)
        exact qae 61 (.tmp 11) rfl (g11) e0 61 _ (0,0) _ (qaa hb (qab H_g11.out) H_g11.out) Tryz.underlying61 rfl (qak _)
       ·intro act w hb h
        have e0:=h (12,.pointer (some ⟨g12,0,none⟩)) (by simp)
        exact qae 61 (.tmp 12) rfl (g12) e0 61 _ (0,0) _ (qaa hb (qab H_g12.out) H_g12.out) Tryz.underlying61 rfl (qak _)
       ·intro act w hb h
        have e0:=h (68,.agg (uc (limN 4 ne))) (by simp)
        have e1:=h (69,.agg (uc (limN 4 nf))) (by simp)
        simp only [getD_eq_getD_getElem?] at e0 e1
        simp [go_sem,e0,e1,qac]
        exact C_nx.out w (HP.out.step hb)
       ·intro act w hb h
        have e0:=h (13,.pointer (some ⟨g13,0,none⟩)) (by simp)
        exact qae 61 (.tmp 13) rfl (g13) e0 61 _ (0,0) _ (qaa hb (qab H_g13.out) H_g13.out) Tryz.underlying61 rfl (qak _)
       ·intro act w hb h
        have e0:=h (14,.pointer (some ⟨g14,0,none⟩)) (by simp)
        exact qae 61 (.tmp 14) rfl (g14) e0 61 _ (0,0) _ (qaa hb (qab H_g14.out) H_g14.out) Tryz.underlying61 rfl (qak _)
       ·intro act w hb h
        have e0:=h (71,.agg (uc (limN 4 ng))) (by simp)
        have e1:=h (72,.agg (uc (limN 4 nh))) (by simp)
        simp only [getD_eq_getD_getElem?] at e0 e1
        simp [go_sem,e0,e1,qac]
        exact C_ny.out w (HP.out.step hb)
       ·intro act w hb h
        have e0:=h (12,.pointer (some ⟨g12,0,none⟩)) (by simp)
        exact qae 61 (.tmp 12) rfl (g12) e0 61 _ (0,0) _ (qaa hb (qab H_g12.out) H_g12.out) Tryz.underlying61 rfl (qak _)
       ·intro act w hb h
        have e0:=h (13,.pointer (some ⟨g13,0,none⟩)) (by simp)
        exact qae 61 (.tmp 13) rfl (g13) e0 61 _ (0,0) _ (qaa hb (qab H_g13.out) H_g13.out) Tryz.underlying61 rfl (qak _)
       ·intro act w hb h
        have e0:=h (74,.agg (uc (limN 4 nf))) (by simp)
        have e1:=h (75,.agg (uc (limN 4 ng))) (by simp)
        simp only [getD_eq_getD_getElem?] at e0 e1
        simp [go_sem,e0,e1,qac]
        exact C_nz.out w (HP.out.step hb)
       ·intro act w hb h
        have e0:=h (11,.pointer (some ⟨g11,0,none⟩)) (by simp)
        exact qae 61 (.tmp 11) rfl (g11) e0 61 _ (0,0) _ (qaa hb (qab H_g11.out) H_g11.out) Tryz.underlying61 rfl (qak _)
       ·intro act w hb h
        have e0:=h (14,.pointer (some ⟨g14,0,none⟩)) (by simp)
        exact qae 61 (.tmp 14) rfl (g14) e0 61 _ (0,0) _ (qaa hb (qab H_g14.out) H_g14.out) Tryz.underlying61 rfl (qak _)
       ·intro act w hb h
        have e0:=h (77,.agg (uc (limN 4 ne))) (by simp)
        have e1:=h (78,.agg (uc (limN 4 nh))) (by simp)
        simp only [getD_eq_getD_getElem?] at e0 e1
        simp [go_sem,e0,e1,qac]
        exact C_nt.out w (HP.out.step hb)
       ·intro act w hb h
        have e0:=h (70,.agg (uc (limN 4 nx))) (by simp)
        have e1:=h (73,.agg (uc (limN 4 ny))) (by simp)
        have e2:=h (76,.agg (uc (limN 4 nz))) (by simp)
        have e3:=h (79,.agg (uc (limN 4 nt))) (by simp)
        exact qcL (.tmp 70) (.tmp 73) (.tmp 76) (.tmp 79) rfl _ _ _ _ e0 e1 e2 e3
      ·simp [qau,qav,qaJ,HeadSpec.val,HeadSpec.fresh,Act.put]
      ·simp only [take_succ_cons,List.take_zero,drop_succ_cons,List.drop_zero,qaH,HeadSpec.val,HeadSpec.fresh,Act.put,setIfInBounds_toArray,set_cons_succ,set_cons_zero]
       intro v1 hv1 hgs;have HN:=hid (qaa hv1 (qab HR.out) HR.out);have HNN:=hid (setRow_heap v1 (B+1+1) _ (uc (row4 nx ny nz nt)) _ _ HN.out)
       have hb2:Below B w (v1.setRow (B+1+1) (uc (row4 nx ny nz nt))):=below_setRow (hb.trans (hv1.mono hB.out)) (by omega) _
       clear hgs hv1 hb
       go_wp2_with (with_reducible refine wpList_store_row rfl 103 _ _ rfl (B+1+1) (uc (row4 nx ny nz nt)) rfl rfl 103 _ HN.out (qcq _ (qa4 _ _ _ _)) (qa3 _ (qa4 _ _ _ _)) (qar _) ?_)
       exact bodyPost_ret (v:=.agg (uc (row4 nx ny nz nt))) (results_cell_row (by rfl) _ _ (B+1+1) 103 _ (0,0) _ rfl HNN.out Tryz.underlying103 rfl (qcq _ (qa4 _ _ _ _))) rfl ⟨rfl,by rw [HBB.out];exact hb2⟩
end
section
open Go.RowKit Go.Sort
set_option maxHeartbeats 4000000 in
theorem or1_any (a b n t1 t2 r:Nat) (w:World) (l_a:a<pF) (l_b:b<pF) (l_n:n<pF) (hT:PrmQ w)
  (e_t1:subF b a=t1) (e_t2:mulF n t1=t2) (e_r:addF a t2=r) :
  Calls Tryz.prog 188 #[.agg (uc (limN 4 a)),.agg (uc (limN 4 b)),.agg (uc (limN 4 n))] w fun e w'=>e=.returned (.agg (uc (limN 4 r)))∧Below w.heap.size w w':=by
 have l_t1:t1<pF:=e_t1▸qby _ _;have l_t2:t2<pF:=e_t2▸qaM _ _;have l_r:r<pF:=e_r▸qbV _ _
 have C_t1:=hid (fun (W:World) (hW:PrmQ W)=>qcO b a W l_b l_a hW)
 rw [e_t1] at C_t1
 have C_t2:=hid (fun (W:World) (hW:PrmQ W)=>qaN n t1 W l_n l_t1)
 rw [e_t2] at C_t2
 have C_r:=hid (fun (W:World) (hW:PrmQ W)=>qcN a t2 W l_a l_t2)
 rw [e_r] at C_r;clear e_t1 l_t1 e_t2 l_t2 e_r l_r l_a l_b l_n;obtain ⟨hz,hi⟩:=zero_of_info qbO;obtain ⟨hzn,hin⟩:=zero_of_info qda;obtain ⟨hzp,hip⟩:=zero_of_info qcp;have hb:=below_four w (.cells (uc (limN 4 a)) 61) (.cells (uc (limN 4 b)) 61) (.cells (uc (limN 4 n)) 61) (.cells zeros4 61);have HP:=hid (hT.step hb);have HA:=hid (qaj (o:=.cells zeros4 61) (qaj (o:=.cells (uc (limN 4 n)) 61) (qaj (o:=.cells (uc (limN 4 b)) 61) (qag w (.cells (uc (limN 4 a)) 61)))));have HD:=hid (qaj (o:=.cells zeros4 61) (qaj (o:=.cells (uc (limN 4 n)) 61) (qaw w (.cells (uc (limN 4 a)) 61) (.cells (uc (limN 4 b)) 61))));have HC:=hid (qaj (o:=.cells zeros4 61) (qbL w (.cells (uc (limN 4 a)) 61) (.cells (uc (limN 4 b)) 61) (.cells (uc (limN 4 n)) 61)));have HR:=hid (blk_fourth w (.cells (uc (limN 4 a)) 61) (.cells (uc (limN 4 b)) 61) (.cells (uc (limN 4 n)) 61) (.cells zeros4 61));clear hi hin hip hT
 go_enter Tryz.func188,Tryz.ntmps188
 go_upto_region 1 with fail
 try clear hzn
 try clear hzp
 generalize ((((w.alloc _).alloc _).alloc _).alloc _)=W0 at *;have hB:=hid hb.size;generalize hBB:w.heap.size=B at *;have HBB:=hid hBB;clear hBB
 refine qam 7 14 [.val (.agg (uc (limN 4 a))) [(3,.pointer (some ⟨B,0,none⟩))],
   .val (.agg (uc (limN 4 n))) [(5,.pointer (some ⟨B+1+1,0,none⟩))],
   .val (.agg (uc (limN 4 b))) [(4,.pointer (some ⟨B+1,0,none⟩))],
   .val (.agg (uc (limN 4 a))) [(3,.pointer (some ⟨B,0,none⟩))],
   .val (.agg (uc (limN 4 t1))) [(9,.agg (uc (limN 4 b))),(10,.agg (uc (limN 4 a)))],
   .val (.agg (uc (limN 4 t2))) [(8,.agg (uc (limN 4 n))),(11,.agg (uc (limN 4 t1)))],
   .val (.agg (uc (limN 4 r))) [(7,.agg (uc (limN 4 a))),(12,.agg (uc (limN 4 t2)))]] (by kernel_rfl) (by kernel_rfl) rfl ?_ ?_ ?_
 ·simp only [take_succ_cons,List.take_zero,qaL,qaK,HeadSpec.val,HeadSpec.fresh,and_true]
  refine ⟨?_,?_,?_,?_,?_,?_,?_⟩
  ·intro act w hb h
   have e0:=h (3,.pointer (some ⟨B,0,none⟩)) (by simp)
   exact qae 61 (.tmp 3) rfl (B) e0 61 _ (0,0) _ (qaa hb (qab HA.out) HA.out) Tryz.underlying61 rfl (qak _)
  ·intro act w hb h
   have e0:=h (5,.pointer (some ⟨B+1+1,0,none⟩)) (by simp)
   exact qae 61 (.tmp 5) rfl (B+1+1) e0 61 _ (0,0) _ (qaa hb (qab HC.out) HC.out) Tryz.underlying61 rfl (qak _)
  ·intro act w hb h
   have e0:=h (4,.pointer (some ⟨B+1,0,none⟩)) (by simp)
   exact qae 61 (.tmp 4) rfl (B+1) e0 61 _ (0,0) _ (qaa hb (qab HD.out) HD.out) Tryz.underlying61 rfl (qak _)
  ·intro act w hb h
   have e0:=h (3,.pointer (some ⟨B,0,none⟩)) (by simp)
   exact qae 61 (.tmp 3) rfl (B) e0 61 _ (0,0) _ (qaa hb (qab HA.out) HA.out) Tryz.underlying61 rfl (qak _)
  ·intro act w hb h
   have e0:=h (9,.agg (uc (limN 4 b))) (by simp)
   have e1:=h (10,.agg (uc (limN 4 a))) (by simp)
   simp only [getD_eq_getD_getElem?] at e0 e1
   simp [go_sem,e0,e1,qac]
   exact C_t1.out w (HP.out.step hb)
  ·intro act w hb h
   have e0:=h (8,.agg (uc (limN 4 n))) (by simp)
   have e1:=h (11,.agg (uc (limN 4 t1))) (by simp)
   simp only [getD_eq_getD_getElem?] at e0 e1
   simp [go_sem,e0,e1,qac]
   exact C_t2.out w (HP.out.step hb)
  ·intro act w hb h
   have e0:=h (7,.agg (uc (limN 4 a))) (by simp)
   have e1:=h (12,.agg (uc (limN 4 t2))) (by simp)
   simp only [getD_eq_getD_getElem?] at e0 e1
   simp [go_sem,e0,e1,qac]
   exact C_r.out w (HP.out.step hb)
 ·simp [qau,qav,qaJ,HeadSpec.val,HeadSpec.fresh,Act.put]
 ·simp only [take_succ_cons,List.take_zero,drop_succ_cons,List.drop_zero,qaH,HeadSpec.val,HeadSpec.fresh,Act.put,setIfInBounds_toArray,set_cons_succ,set_cons_zero]
  intro v1 hv1 hgs;have HN:=hid (qaa hv1 (qab HR.out) HR.out);have HNN:=hid (setRow_heap v1 (B+1+1+1) _ (uc (limN 4 r)) _ _ HN.out)
  have hb2:Below B w (v1.setRow (B+1+1+1) (uc (limN 4 r))):=below_setRow (hb.trans (hv1.mono hB.out)) (by omega) _
  clear hgs hv1 hb
  go_wp2_with (with_reducible refine wpList_store_row rfl 61 _ _ rfl (B+1+1+1) (uc (limN 4 r)) rfl rfl 61 _ HN.out (qak _) (qaq _) (qar _) ?_)
  exact bodyPost_ret (v:=.agg (uc (limN 4 r))) (results_cell_row (by rfl) _ _ (B+1+1+1) 61 _ (0,0) _ rfl HNN.out Tryz.underlying61 rfl (qak _)) rfl ⟨rfl,by rw [HBB.out];exact hb2⟩
def selF (n a b:Nat):Nat:=if n=1 then b else a
theorem sel_eq (n a b:Nat) (hn:n=0∨n=1) (ha:a<pF) (hb:b<pF):addF a (mulF n (subF b a))=selF n a b:=by
 unfold selF
 rcases hn with rfl | rfl
 ·rw [if_neg (by decide),mulF,Nat.zero_mul,Nat.zero_mod,addF,Nat.add_zero,Nat.mod_eq_of_lt ha]
 ·rw [if_pos rfl,mulF,Nat.one_mul,Nat.mod_eq_of_lt (qby _ _),addF_comm,add_sub b a hb ha]
theorem or_any (a b n r:Nat) (w:World) (l_a:a<pF) (l_b:b<pF) (hn:n=0∨n=1) (hT:PrmQ w) (e:selF n a b=r) :
  Calls Tryz.prog 188 #[.agg (uc (limN 4 a)),.agg (uc (limN 4 b)),.agg (uc (limN 4 n))] w fun e w'=>e=.returned (.agg (uc (limN 4 r)))∧Below w.heap.size w w':=
 or1_any a b n _ _ r w l_a l_b (by rcases hn with rfl | rfl <;> decide) hT rfl rfl (by rw [sel_eq n a b hn l_a l_b,e])
set_option maxHeartbeats 4000000 in
theorem or4_any (a b c d aa bb cc dd n ra rb rc rd:Nat) (w:World) (l_a:a<pF) (l_aa:aa<pF) (l_b:b<pF) (l_bb:bb<pF) (l_c:c<pF) (l_cc:cc<pF) (l_d:d<pF) (l_dd:dd<pF) (hn:n=0∨n=1) (hT:PrmQ w)
  (e_a:selF n a aa=ra) (e_b:selF n b bb=rb) (e_c:selF n c cc=rc) (e_d:selF n d dd=rd) :
  Calls Tryz.prog 134 #[.agg (uc (row4 a b c d)),.agg (uc (row4 aa bb cc dd)),.agg (uc (limN 4 n))] w fun e w'=>e=.returned (.agg (uc (row4 ra rb rc rd)))∧Below w.heap.size w w':=by
 have C_ra:=hid (fun (W:World) (hW:PrmQ W)=>or_any a aa n ra W l_a l_aa hn hW e_a)
 have C_rb:=hid (fun (W:World) (hW:PrmQ W)=>or_any b bb n rb W l_b l_bb hn hW e_b)
 have C_rc:=hid (fun (W:World) (hW:PrmQ W)=>or_any c cc n rc W l_c l_cc hn hW e_c)
 have C_rd:=hid (fun (W:World) (hW:PrmQ W)=>or_any d dd n rd W l_d l_dd hn hW e_d)
 clear hn l_a l_aa e_a l_b l_bb e_b l_c l_cc e_c l_d l_dd e_d;obtain ⟨hz,hi⟩:=zero_of_info qbO;obtain ⟨hzn,hin⟩:=zero_of_info qda;obtain ⟨hzp,hip⟩:=zero_of_info qcp;have hb:=below_four w (.cells (uc (row4 a b c d)) 103) (.cells (uc (row4 aa bb cc dd)) 103) (.cells (uc (limN 4 n)) 61) (.cells zrow4 103);have HP:=hid (hT.step hb);have HQ:=hid (qaj (o:=.cells zrow4 103) (qaj (o:=.cells (uc (limN 4 n)) 61) (qaj (o:=.cells (uc (row4 aa bb cc dd)) 103) (qag w (.cells (uc (row4 a b c d)) 103)))));have HX:=hid (qaj (o:=.cells zrow4 103) (qaj (o:=.cells (uc (limN 4 n)) 61) (qaw w (.cells (uc (row4 a b c d)) 103) (.cells (uc (row4 aa bb cc dd)) 103))));have HC:=hid (qaj (o:=.cells zrow4 103) (qbL w (.cells (uc (row4 a b c d)) 103) (.cells (uc (row4 aa bb cc dd)) 103) (.cells (uc (limN 4 n)) 61)));have HR:=hid (blk_fourth w (.cells (uc (row4 a b c d)) 103) (.cells (uc (row4 aa bb cc dd)) 103) (.cells (uc (limN 4 n)) 61) (.cells zrow4 103));clear hi hin hip hT
 go_enter Tryz.func134,Tryz.ntmps134
 go_upto_region 1 with fail
 try clear hzn
 try clear hzp
 generalize ((((w.alloc _).alloc _).alloc _).alloc _)=W0 at *;have hB:=hid hb.size;generalize hBB:w.heap.size=B at *;have HBB:=hid hBB;clear hBB
 refine qam 25 32 [.val (.pointer (some ⟨B,0,none⟩)) [(3,.pointer (some ⟨B,0,none⟩))],
   .val (.agg (uc (limN 4 a))) [(7,.pointer (some ⟨B,0,none⟩))],
   .val (.pointer (some ⟨B+1,0,none⟩)) [(4,.pointer (some ⟨B+1,0,none⟩))],
   .val (.agg (uc (limN 4 aa))) [(9,.pointer (some ⟨B+1,0,none⟩))],
   .val (.agg (uc (limN 4 n))) [(5,.pointer (some ⟨B+1+1,0,none⟩))],
   .val (.agg (uc (limN 4 ra))) [(8,.agg (uc (limN 4 a))),(10,.agg (uc (limN 4 aa))),(11,.agg (uc (limN 4 n)))],
   .val (.pointer (some ⟨B,4,none⟩)) [(3,.pointer (some ⟨B,0,none⟩))],
   .val (.agg (uc (limN 4 b))) [(13,.pointer (some ⟨B,4,none⟩))],
   .val (.pointer (some ⟨B+1,4,none⟩)) [(4,.pointer (some ⟨B+1,0,none⟩))],
   .val (.agg (uc (limN 4 bb))) [(15,.pointer (some ⟨B+1,4,none⟩))],
   .val (.agg (uc (limN 4 n))) [(5,.pointer (some ⟨B+1+1,0,none⟩))],
   .val (.agg (uc (limN 4 rb))) [(14,.agg (uc (limN 4 b))),(16,.agg (uc (limN 4 bb))),(17,.agg (uc (limN 4 n)))],
   .val (.pointer (some ⟨B,8,none⟩)) [(3,.pointer (some ⟨B,0,none⟩))],
   .val (.agg (uc (limN 4 c))) [(19,.pointer (some ⟨B,8,none⟩))],
   .val (.pointer (some ⟨B+1,8,none⟩)) [(4,.pointer (some ⟨B+1,0,none⟩))],
   .val (.agg (uc (limN 4 cc))) [(21,.pointer (some ⟨B+1,8,none⟩))],
   .val (.agg (uc (limN 4 n))) [(5,.pointer (some ⟨B+1+1,0,none⟩))],
   .val (.agg (uc (limN 4 rc))) [(20,.agg (uc (limN 4 c))),(22,.agg (uc (limN 4 cc))),(23,.agg (uc (limN 4 n)))],
   .val (.pointer (some ⟨B,12,none⟩)) [(3,.pointer (some ⟨B,0,none⟩))],
   .val (.agg (uc (limN 4 d))) [(25,.pointer (some ⟨B,12,none⟩))],
   .val (.pointer (some ⟨B+1,12,none⟩)) [(4,.pointer (some ⟨B+1,0,none⟩))],
   .val (.agg (uc (limN 4 dd))) [(27,.pointer (some ⟨B+1,12,none⟩))],
   .val (.agg (uc (limN 4 n))) [(5,.pointer (some ⟨B+1+1,0,none⟩))],
   .val (.agg (uc (limN 4 rd))) [(26,.agg (uc (limN 4 d))),(28,.agg (uc (limN 4 dd))),(29,.agg (uc (limN 4 n)))],
   .val (.agg (uc (row4 ra rb rc rd))) [(12,.agg (uc (limN 4 ra))),(18,.agg (uc (limN 4 rb))),(24,.agg (uc (limN 4 rc))),(30,.agg (uc (limN 4 rd)))]] (by kernel_rfl) (by kernel_rfl) rfl ?_ ?_ ?_
 ·simp only [take_succ_cons,List.take_zero,qaL,qaK,HeadSpec.val,HeadSpec.fresh,and_true]
  refine ⟨?_,?_,?_,?_,?_,?_,?_,?_,?_,?_,?_,?_,?_,?_,?_,?_,?_,?_,?_,?_,?_,?_,?_,?_,?_⟩
  ·intro act w hb h
   have e0:=h (3,.pointer (some ⟨B,0,none⟩)) (by simp)
   simp only [getD_eq_getD_getElem?] at e0
   simp [go_sem,e0,qac]
  ·intro act w hb h
   have e0:=h (7,.pointer (some ⟨B,0,none⟩)) (by simp)
   exact qas (.tmp 7) rfl (B) 0 e0 103 _ _ (0,0) (qaa hb (qab HQ.out) HQ.out) (qad _ _) (qd9 _ _ _ _)
  ·intro act w hb h
   have e0:=h (4,.pointer (some ⟨B+1,0,none⟩)) (by simp)
   simp only [getD_eq_getD_getElem?] at e0
   simp [go_sem,e0,qac]
  ·intro act w hb h
   have e0:=h (9,.pointer (some ⟨B+1,0,none⟩)) (by simp)
   exact qas (.tmp 9) rfl (B+1) 0 e0 103 _ _ (0,0) (qaa hb (qab HX.out) HX.out) (qad _ _) (qd9 _ _ _ _)
  ·intro act w hb h
   have e0:=h (5,.pointer (some ⟨B+1+1,0,none⟩)) (by simp)
   exact qae 61 (.tmp 5) rfl (B+1+1) e0 61 _ (0,0) _ (qaa hb (qab HC.out) HC.out) Tryz.underlying61 rfl (qak _)
  ·intro act w hb h
   have e0:=h (8,.agg (uc (limN 4 a))) (by simp)
   have e1:=h (10,.agg (uc (limN 4 aa))) (by simp)
   have e2:=h (11,.agg (uc (limN 4 n))) (by simp)
   simp only [getD_eq_getD_getElem?] at e0 e1 e2
   simp [go_sem,e0,e1,e2,qac]
   exact C_ra.out w (HP.out.step hb)
  ·intro act w hb h
   have e0:=h (3,.pointer (some ⟨B,0,none⟩)) (by simp)
   simp only [getD_eq_getD_getElem?] at e0
   simp [go_sem,e0,qac]
  ·intro act w hb h
   have e0:=h (13,.pointer (some ⟨B,4,none⟩)) (by simp)
   exact qas (.tmp 13) rfl (B) 4 e0 103 _ _ (0,0) (qaa hb (qab HQ.out) HQ.out) (qad _ _) (qea _ _ _ _)
  ·intro act w hb h
   have e0:=h (4,.pointer (some ⟨B+1,0,none⟩)) (by simp)
   simp only [getD_eq_getD_getElem?] at e0
   simp [go_sem,e0,qac]
  ·intro act w hb h
   have e0:=h (15,.pointer (some ⟨B+1,4,none⟩)) (by simp)
   exact qas (.tmp 15) rfl (B+1) 4 e0 103 _ _ (0,0) (qaa hb (qab HX.out) HX.out) (qad _ _) (qea _ _ _ _)
  ·intro act w hb h
   have e0:=h (5,.pointer (some ⟨B+1+1,0,none⟩)) (by simp)
   exact qae 61 (.tmp 5) rfl (B+1+1) e0 61 _ (0,0) _ (qaa hb (qab HC.out) HC.out) Tryz.underlying61 rfl (qak _)
  ·intro act w hb h
   have e0:=h (14,.agg (uc (limN 4 b))) (by simp)
   have e1:=h (16,.agg (uc (limN 4 bb))) (by simp)
   have e2:=h (17,.agg (uc (limN 4 n))) (by simp)
   simp only [getD_eq_getD_getElem?] at e0 e1 e2
   simp [go_sem,e0,e1,e2,qac]
   exact C_rb.out w (HP.out.step hb)
  ·intro act w hb h
   have e0:=h (3,.pointer (some ⟨B,0,none⟩)) (by simp)
   simp only [getD_eq_getD_getElem?] at e0
   simp [go_sem,e0,qac]
  ·intro act w hb h
   have e0:=h (19,.pointer (some ⟨B,8,none⟩)) (by simp)
   exact qas (.tmp 19) rfl (B) 8 e0 103 _ _ (0,0) (qaa hb (qab HQ.out) HQ.out) (qad _ _) (qeJ _ _ _ _)
  ·intro act w hb h
   have e0:=h (4,.pointer (some ⟨B+1,0,none⟩)) (by simp)
   simp only [getD_eq_getD_getElem?] at e0
   simp [go_sem,e0,qac]
  ·intro act w hb h
   have e0:=h (21,.pointer (some ⟨B+1,8,none⟩)) (by simp)
   exact qas (.tmp 21) rfl (B+1) 8 e0 103 _ _ (0,0) (qaa hb (qab HX.out) HX.out) (qad _ _) (qeJ _ _ _ _)
  ·intro act w hb h
   have e0:=h (5,.pointer (some ⟨B+1+1,0,none⟩)) (by simp)
   exact qae 61 (.tmp 5) rfl (B+1+1) e0 61 _ (0,0) _ (qaa hb (qab HC.out) HC.out) Tryz.underlying61 rfl (qak _)
  ·intro act w hb h
   have e0:=h (20,.agg (uc (limN 4 c))) (by simp)
   have e1:=h (22,.agg (uc (limN 4 cc))) (by simp)
   have e2:=h (23,.agg (uc (limN 4 n))) (by simp)
   simp only [getD_eq_getD_getElem?] at e0 e1 e2
   simp [go_sem,e0,e1,e2,qac]
   exact C_rc.out w (HP.out.step hb)
  ·intro act w hb h
   have e0:=h (3,.pointer (some ⟨B,0,none⟩)) (by simp)
   simp only [getD_eq_getD_getElem?] at e0
   simp [go_sem,e0,qac]
  ·intro act w hb h
   have e0:=h (25,.pointer (some ⟨B,12,none⟩)) (by simp)
   exact qas (.tmp 25) rfl (B) 12 e0 103 _ _ (0,0) (qaa hb (qab HQ.out) HQ.out) (qad _ _) (row4_3 _ _ _ _)
  ·intro act w hb h
   have e0:=h (4,.pointer (some ⟨B+1,0,none⟩)) (by simp)
   simp only [getD_eq_getD_getElem?] at e0
   simp [go_sem,e0,qac]
  ·intro act w hb h
   have e0:=h (27,.pointer (some ⟨B+1,12,none⟩)) (by simp)
   exact qas (.tmp 27) rfl (B+1) 12 e0 103 _ _ (0,0) (qaa hb (qab HX.out) HX.out) (qad _ _) (row4_3 _ _ _ _)
  ·intro act w hb h
   have e0:=h (5,.pointer (some ⟨B+1+1,0,none⟩)) (by simp)
   exact qae 61 (.tmp 5) rfl (B+1+1) e0 61 _ (0,0) _ (qaa hb (qab HC.out) HC.out) Tryz.underlying61 rfl (qak _)
  ·intro act w hb h
   have e0:=h (26,.agg (uc (limN 4 d))) (by simp)
   have e1:=h (28,.agg (uc (limN 4 dd))) (by simp)
   have e2:=h (29,.agg (uc (limN 4 n))) (by simp)
   simp only [getD_eq_getD_getElem?] at e0 e1 e2
   simp [go_sem,e0,e1,e2,qac]
   exact C_rd.out w (HP.out.step hb)
  ·intro act w hb h
   have e0:=h (12,.agg (uc (limN 4 ra))) (by simp)
   have e1:=h (18,.agg (uc (limN 4 rb))) (by simp)
   have e2:=h (24,.agg (uc (limN 4 rc))) (by simp)
   have e3:=h (30,.agg (uc (limN 4 rd))) (by simp)
   exact qcL (.tmp 12) (.tmp 18) (.tmp 24) (.tmp 30) rfl _ _ _ _ e0 e1 e2 e3
 ·simp [qau,qav,qaJ,HeadSpec.val,HeadSpec.fresh,Act.put]
 ·simp only [take_succ_cons,List.take_zero,drop_succ_cons,List.drop_zero,qaH,HeadSpec.val,HeadSpec.fresh,Act.put,setIfInBounds_toArray,set_cons_succ,set_cons_zero]
  intro v1 hv1 hgs;have HN:=hid (qaa hv1 (qab HR.out) HR.out);have HNN:=hid (setRow_heap v1 (B+1+1+1) _ (uc (row4 ra rb rc rd)) _ _ HN.out)
  have hb2:Below B w (v1.setRow (B+1+1+1) (uc (row4 ra rb rc rd))):=below_setRow (hb.trans (hv1.mono hB.out)) (by omega) _
  clear hgs hv1 hb
  go_wp2_with (with_reducible refine wpList_store_row rfl 103 _ _ rfl (B+1+1+1) (uc (row4 ra rb rc rd)) rfl rfl 103 _ HN.out (qcq _ (qa4 _ _ _ _)) (qa3 _ (qa4 _ _ _ _)) (qar _) ?_)
  exact bodyPost_ret (v:=.agg (uc (row4 ra rb rc rd))) (results_cell_row (by rfl) _ _ (B+1+1+1) 103 _ (0,0) _ rfl HNN.out Tryz.underlying103 rfl (qcq _ (qa4 _ _ _ _))) rfl ⟨rfl,by rw [HBB.out];exact hb2⟩
end
section
open Go.RowKit Go.Sort
theorem qfL (p:PtN) (w:World) (hp:p.Ok) (hT:PrmQ w) :
  Calls Tryz.prog 96 #[.agg (uc (ptL p))] w fun e w'=>e=.returned (.agg (uc (numL p)))∧Below w.heap.size w w':=
 numbersL_any p.x (subF p.y 1) (subF p.z 1) p.t p.y p.z w (qby _ _) (qby _ _) hT (add_sub _ _ hp.2.1 (by decide)) (add_sub _ _ hp.2.2.1 (by decide))
theorem point_any (p:PtN) (w:World) (hp:p.Ok) (hT:PrmQ w) :
  Calls Tryz.prog 132 #[.agg (uc (numL p))] w fun e w'=>e=.returned (.agg (uc (ptL p)))∧Below w.heap.size w w':=
 pointL_any p.x p.y p.z p.t _ _ w hp.2.1 hp.2.2.1 hT rfl rfl
theorem fac_two:addF facF facF=twoF:=by rw [addF_two,mulF_comm];rfl
theorem sum_any (p q:PtN) (w:World) (hp:p.Ok) (hq:q.Ok) (hT:PrmQ w) :
  Calls Tryz.prog 133 #[.agg (uc (numL p)),.agg (uc (numL q))] w fun e w'=>e=.returned (.agg (uc (numL (sumP p q))))∧Below w.heap.size w w':=
 sumL_any p.x p.y p.z p.t q.x q.y q.z q.t facF _ _ _ _ _ _ twoF _ _ _ _ _ _ _ _ _ _ _ _ w hp.1 hp.2.1 hp.2.2.1 hp.2.2.2 hq.1 hq.2.1 hq.2.2.1 hq.2.2.2 rfl hT rfl rfl rfl rfl rfl rfl fac_two rfl rfl rfl rfl rfl rfl rfl rfl rfl rfl rfl rfl
theorem or_pt_any (p q:PtN) (n:Nat) (w:World) (hp:p.Ok) (hq:q.Ok) (hn:n=0∨n=1) (hT:PrmQ w) :
  Calls Tryz.prog 134 #[.agg (uc (numL p)),.agg (uc (numL q)),.agg (uc (limN 4 n))] w fun e w'=>e=.returned (.agg (uc (numL (if n=1 then q else p))))∧Below w.heap.size w w':=by
 refine or4_any p.x p.y p.z p.t q.x q.y q.z q.t n _ _ _ _ w hp.1 hq.1 hp.2.1 hq.2.1 hp.2.2.1 hq.2.2.1 hp.2.2.2 hq.2.2.2 hn hT ?_ ?_ ?_ ?_ <;> (unfold selF;split <;> rfl)
set_option maxHeartbeats 1000000 in
theorem qeT (w:World):Calls Tryz.prog 126 #[] w fun e w'=>e=.returned (.agg (uc (ptL zeroP)))∧Below w.heap.size w w':=by
 obtain ⟨hzp,hip⟩:=zero_of_info qcp;have HR:=hid (qag w (.cells zrow4 63));have hb:=qah w (.cells zrow4 63);rw [ptL_zero];have HI:=hid (qbj (row4 0 0 0 0) (qa4 _ _ _ _));have HZ:=hid (qa3 (row4 0 0 0 0) (qa4 _ _ _ _))
 have HB:=hid (fun (ops:Array Oper) (rest:List Oper) (o:Oper) (a:Act) (W:World) (Q:Exit→Act→World→Prop)=>wpList_build_point0 (ops:=ops) (rest:=rest) (o:=o) (a:=a) (w:=W) (Q:=Q))
 generalize row4 0 0 0 0=l at *;clear hip
 go_enter Tryz.func126,Tryz.ntmps126
 go_wp2_with (first
  | (with_reducible refine HB.out _ _ _ _ _ _ rfl rfl ?_)
  | (with_reducible refine wpList_store_row rfl 63 _ _ rfl w.heap.size (uc l) rfl rfl 63 _ HR.out HI.out HZ.out (qar _) ?_))
 exact bodyPost_ret (v:=.agg (uc l)) (results_cell_row (by rfl) _ _ w.heap.size 63 _ (0,0) _ rfl (setRow_heap _ _ _ _ _ _ HR.out) Tryz.underlying63 rfl HI.out) rfl ⟨rfl,below_setRow hb (Nat.le_refl _) _⟩
theorem and_one8 (y:Nat) (h:y<256):bits .and .u8 (y:Int) 1=((y%2:Nat):Int):=by
 have e:(UInt8.ofNat y).toNat=y:=by simp;omega
 have h1:=byte_and (UInt8.ofNat y) 1;rw [e,UInt8.toNat_and,e] at h1
 rw [show (((1:UInt8).toNat:Nat):Int)=1 from rfl] at h1
 rw [h1,show (1:UInt8).toNat=1 from rfl,Nat.and_one_is_mod]
theorem bit_and (l:List UInt8) (i:Nat):bits .and .u8 (((l.getD (i / 8) 0).toNat:Int) / 2^(i%8)) 1=(bitP l i:Int):=by
 have h:=(l.getD (i / 8) 0).toNat_lt
 have e:((l.getD (i / 8) 0).toNat:Int) / 2^(i%8)=(((l.getD (i / 8) 0).toNat / 2^(i%8):Nat):Int):=by simp
 rw [e];have h2:(l.getD (i / 8) 0).toNat / 2^(i%8)<256:=Nat.lt_of_le_of_lt (Nat.div_le_self _ _) h
 rw [show bitP l i=(l.getD (i / 8) 0).toNat / 2^(i%8)%2 from rfl]
 exact and_one8 _ h2
set_option maxHeartbeats 1000000 in
theorem ptBit_any (s:ByteArray) (n:Nat) (w:World) (hs:s.size=32) (hn:n<256) :
  Calls Tryz.prog 129 #[.string s,.int .i64 (n:Int)] w fun e w'=>e=.returned (.int .i64 ((bitP s.data.toList n:Nat):Int))∧Below w.heap.size w w':=by
 have hbit:=bit_and s.data.toList n
 have hin:n / 8<s.size:=by omega
 have hgb:=qcK s (n / 8) hin;rw [hgb] at hbit
 have f1:((n:Int) / 8).toNat=n / 8:=by omega
 have f2:((n:Int)%8).toNat=n%8:=by omega
 have hwr:IntKind.i64.wrap ((bitP s.data.toList n:Nat):Int)=((bitP s.data.toList n:Nat):Int):=by rcases bitP_two s.data.toList n with h | h <;> rw [h] <;> rfl
 generalize bitP s.data.toList n=b at *
 go_enter Tryz.func129,Tryz.ntmps129
 go_wp2_with fail
 go_ret
 exact ⟨rfl,Below.refl _ _⟩
end
section
open Go.RowKit Go.Sort
theorem without_top (x:UInt8):bits .andNot .u8 (x.toNat:Int) 128=((x &&& 127).toNat:Int):=by
 show IntKind.u8.wrap ((BitVec.ofInt 8 (x.toNat:Int) &&& ~~~BitVec.ofInt 8 128).toNat:Nat)=_
 have hx:BitVec.ofInt 8 (x.toNat:Int)=x.toBitVec:=by apply BitVec.eq_of_toNat_eq;simp
 rw [hx];have h:=(x &&& 127).toNat_lt;have e:(x.toBitVec &&& ~~~BitVec.ofInt 8 128).toNat=(x &&& 127).toNat:=rfl;rw [e,IntKind.wrap_u8]
 omega
theorem low_set (l:List UInt8) (h:l.length=32):l.set 31 (l.getD 31 0 &&& 127)=lowL l:=by
 have hb:∀ x:UInt8,x &&& 127=UInt8.ofNat (x.toNat%128):=fun x=>by
  apply UInt8.toNat_inj.1
  rw [UInt8.toNat_and,UInt8.toNat_ofNat',show (127:UInt8).toNat=2^7-1 from rfl,Nat.and_two_pow_sub_one_eq_mod]
  omega
 rw [lowL,hb,List.set_eq_take_append_cons_drop,if_pos (by omega),List.drop_of_length_le (by omega)]
theorem txt_eq (a b:List UInt8):((⟨a.toArray⟩:ByteArray).toList==(⟨b.toArray⟩:ByteArray).toList)=(a==b):=by
 rw [ByteArray.toList_eq,ByteArray.toList_eq]
set_option maxHeartbeats 4000000 in
theorem heightOf_any (s:ByteArray) (w:World) (hs:s.size=32) :
  Calls Tryz.prog 127 #[.string s] w fun e w'=>e=.returned (.tuple #[.agg (uc (limN 4 (lowP s.data.toList%pF))),.bool (decide (lowP s.data.toList<pF))])∧Below w.heap.size w w':=by
 obtain ⟨hz,hi⟩:=zero_of_info qbO
 have hl:s.data.toList.length=32:=by rw [← Lib.size_eq];exact hs
 have HR0:=qag w (.cells zeros4 61);have hb0:=qah w (.cells zeros4 61)
 have hsz:(w.alloc (.cells zeros4 61)).heap.size=w.heap.size+1:=by simp
 obtain ⟨cap,hcv,hown,hbo⟩:=qdU s (w.alloc (.cells zeros4 61));rw [hsz] at hcv hown hbo;rw [hs] at hcv
 have HR1:=qaa hbo (by omega) HR0
 have hb1:Below w.heap.size w _:=hb0.trans (hbo.mono (by omega))
 clear hbo hb0 HR0 hsz hi;generalize Lib.bytesWorld _ _ _=V1 at *;generalize s.data.toList=l at *;have hkl:=lowL_length l hl;have hls:=low_set l hl
 have HOF:=hid (fun W=>of_any (⟨(lowL l).toArray⟩:ByteArray) W (by show (lowL l).toArray.size=32;simp [hkl]))
 have HOF:Hid (∀ W,Calls Tryz.prog 183 #[.string (⟨(lowL l).toArray⟩:ByteArray)] W fun e w'=>e=.returned (.tuple #[.agg (uc (limN 4 (leV (lowL l) 32%pF))),.int .i64 0])∧Below W.heap.size W w'):=HOF
 have hn:=nV_leV (lowL l);rw [hkl] at hn;rw [hn] at HOF
 have HEQ:=hid ((txt_eq (leF (nV (lowL l)%pF) 32) (lowL l)).trans (low_same (lowL l) pF hkl qc8 (by decide)))
 have CB:=hid (fun W=>qeR (nV (lowL l)%pF) W)
 rw [show lowP l=nV (lowL l) from rfl]
 clear hn;generalize decide (nV (lowL l)<pF)=bb at *;generalize nV (lowL l)%pF=y at *
 obtain ⟨c0,f0⟩:=qca hown 31 (by rw [hl];decide)
 have hown1:=qbX hown 31 (by rw [hl];decide) (l.getD 31 0 &&& 127)
 rw [hls] at hown1;have ht:=qcm hown1 hkl cap;have a0:=without_top (l.getD 31 0)
 have HR:=hid ((heap_setCell_other V1 ⟨w.heap.size+1,31,none⟩ w.heap.size (.int .u8 ((l.getD 31 0 &&& 127).toNat:Int)) (by simp)).trans HR1)
 have hb2:=hb1.setCell (p:=⟨w.heap.size+1,31,none⟩) (by simp) (.int .u8 ((l.getD 31 0 &&& 127).toNat:Int))
 have HO:=hid hown1;have HKL:=hid hkl;clear hown hown1 HR1 hb1 hkl hl hls;generalize (l.getD 31 0 &&& 127).toNat=v1 at *;generalize (l.getD 31 0).toNat=v2 at *;generalize lowL l=tl at *;generalize htx:(⟨tl.toArray⟩:ByteArray)=tx at *;have HTX:=hid htx;clear htx;generalize hty:(⟨(leF y 32).toArray⟩:ByteArray)=ty at *;clear hty
 have hp32:(31:Int)<(32:Int):=by omega
 go_enter Tryz.func127,Tryz.ntmps127
 go_wp2_with fail
 clear ht c0 f0 a0 hcv;generalize (World.setCell _ _ _)=W0 at *;have hB:=hb2.size;generalize hBB:w.heap.size=B at *;have HBB:=hid hBB;clear hBB
 refine (HOF.out W0).mono ?_
 rintro e W1 ⟨rfl,bk⟩;have HR1:=hid (qaa bk (qab HR.out) HR.out);have HO1:=hid (HO.out.stays bk);have hb3:=hb2.trans (bk.mono hB);have hlt:=qab HR1.out;have HN:=hid (qag W1 (.cells zeros4 61));have HNN:=hid (setRow_heap _ W1.heap.size _ (uc (limN 4 y)) _ _ HN.out);have bk2:=below_setRow (qah W1 (.cells zeros4 61)) (Nat.le_refl _) (uc (limN 4 y));have HR2:=hid (qaa bk2 (qab HR1.out) HR1.out);have HO2:=hid (HO1.out.stays bk2);have hb4:=hb3.trans (bk2.mono (Nat.le_of_lt hlt));have hgB:B<W1.heap.size:=hlt;clear HOF HR HR1 HO HO1 hb2 hb3 bk bk2 hlt
 go_wp2_with (with_reducible refine wpList_store_row rfl 61 _ _ rfl W1.heap.size (uc (limN 4 y)) rfl rfl 61 _ HN.out (qak _) (qaq _) (qar _) ?_)
 clear HN;generalize (World.setRow (World.alloc _ _) _ _)=W2 at *;generalize W1.heap.size=g5 at *;clear hB
 refine wp_region_stored 6 26 [.val (.agg (uc (limN 4 y))) [(5,.pointer (some ⟨g5,0,none⟩))],.val (.agg (uc (limN 4 y))) [(5,.pointer (some ⟨g5,0,none⟩))],.val (.string ty) [(21,.agg (uc (limN 4 y)))],
   .val (.slice (some ⟨B+1,0,none⟩) 32 cap) [(4,.slice (some ⟨B+1,0,none⟩) 32 cap)],.val (.string tx) [(23,.slice (some ⟨B+1,0,none⟩) 32 cap)],.val (.bool bb) [(22,.string ty),(24,.string tx)]]
  [(2,.pointer (some ⟨B,0,none⟩)),(20,.agg (uc (limN 4 y)))]
  (fun w'=>Below B w w'∧w'.heap[B]?=some (.cells zeros4 61)∧w'.heap[g5]?=some (.cells (uc (limN 4 y)) 61)∧OwnS w' (B+1) (B+1) cap (Lib.byteCells tl))
  (fun w'=>Below B w w'∧w'.heap[B]?=some (.cells (uc (limN 4 y)) 61)∧w'.heap[g5]?=some (.cells (uc (limN 4 y)) 61)∧OwnS w' (B+1) (B+1) cap (Lib.byteCells tl))
  _ rfl rfl (by kernel_rfl) rfl ?_ ?_ ?_ ?_ ?_ ?_ ?_ ?_
 ·exact ⟨hb4.trans ⟨rfl,rfl,rfl,Nat.le_refl _,fun _ _=>rfl⟩,HR2.out,HNN.out,HO2.out.keep rfl⟩
 ·rintro w1 w2 ⟨k1,k2,k3,k4⟩ hb
  exact ⟨k1.trans (hb.mono (Nat.le_of_lt (qab k2))),qaa hb (qab k2) k2,qaa hb (qab k3) k3,k4.stays hb⟩
 ·rintro w1 w2 ⟨k1,k2,k3,k4⟩ hb
  exact ⟨k1.trans (hb.mono (Nat.le_of_lt (qab k2))),qaa hb (qab k2) k2,qaa hb (qab k3) k3,k4.stays hb⟩
 ·simp only [take_succ_cons,List.take_zero,qfl,HeadSpec.val,and_true]
  have hK:∀ w':World,((Below B w w'∧w'.heap[B]?=some (.cells zeros4 61)∧w'.heap[g5]?=some (.cells (uc (limN 4 y)) 61)∧OwnS w' (B+1) (B+1) cap (Lib.byteCells tl))∨(Below B w w'∧w'.heap[B]?=some (.cells (uc (limN 4 y)) 61)∧w'.heap[g5]?=some (.cells (uc (limN 4 y)) 61)∧OwnS w' (B+1) (B+1) cap (Lib.byteCells tl)))→w'.heap[g5]?=some (.cells (uc (limN 4 y)) 61)∧OwnS w' (B+1) (B+1) cap (Lib.byteCells tl):=by
   rintro w' (⟨_,_,h1,h2⟩ | ⟨_,_,h1,h2⟩)
   ·exact ⟨h1,h2⟩
   ·exact ⟨h1,h2⟩
  refine ⟨?_,?_,?_,?_,?_,?_⟩
  ·intro act w' hk h
   have e0:=h (5,.pointer (some ⟨g5,0,none⟩)) (by simp)
   exact qae 61 (.tmp 5) rfl g5 e0 61 _ (0,0) _ (hK w' hk).1 Tryz.underlying61 rfl (qak _)
  ·intro act w' hk h
   have e0:=h (5,.pointer (some ⟨g5,0,none⟩)) (by simp)
   exact qae 61 (.tmp 5) rfl g5 e0 61 _ (0,0) _ (hK w' hk).1 Tryz.underlying61 rfl (qak _)
  ·intro act w' hk h
   have e0:=h (21,.agg (uc (limN 4 y))) (by simp)
   simp only [getD_eq_getD_getElem?] at e0
   simp [go_sem,e0,qac]
   exact CB.out w'
  ·intro act w' hk h
   have e0:=h (4,.slice (some ⟨B+1,0,none⟩) 32 cap) (by simp)
   simp only [getD_eq_getD_getElem?] at e0
   simp [go_sem,e0,qac]
  ·intro act w' hk h
   have e0:=h (23,.slice (some ⟨B+1,0,none⟩) 32 cap) (by simp)
   simp only [getD_eq_getD_getElem?] at e0
   have ht:=qcm (hK w' hk).2 HKL.out cap;rw [HTX.out] at ht
   simp [go_sem,e0,qac,ht]
  ·intro act w' hk h
   have e0:=h (22,.string ty) (by simp)
   have e1:=h (24,.string tx) (by simp)
   simp only [getD_eq_getD_getElem?] at e0 e1
   have:=HEQ.out
   simp [go_sem,e0,e1,qac,this]
 ·rintro act w' ⟨k1,k2,k3,k4⟩ h
  have e0:act.eval (.tmp 2)=.pointer (some ⟨B,0,none⟩):=h (2,.pointer (some ⟨B,0,none⟩)) (by simp)
  have e1:act.eval (.tmp 20)=.agg (uc (limN 4 y)):=h (20,.agg (uc (limN 4 y))) (by simp)
  refine ⟨w'.setRow B (uc (limN 4 y)),?_,below_setRow k1 (Nat.le_refl _) _,setRow_heap _ _ _ _ _ _ k2,by rw [setRow_other _ _ _ _ (by omega)];exact k3,k4.keep (setRow_other _ _ _ _ (by omega))⟩
  have hrun:=run_storeVar_row (P:=Tryz.prog) w' B 61 61 zeros4 (uc (limN 4 y)) k2 (qak _) (qaq _) (qar _);unfold execOp
  simp only [e0,e1,Instr.storeAt,Instr.sureAddr,Sem.run_bind,Sem.run_pure,Result.andThen_ok,hrun]
 ·simp [qau,qav,qaJ,HeadSpec.val,Act.put]
 ·simp [qau,qav,qaJ,HeadSpec.val,Act.put]
 ·rintro w' ⟨k1,k2,k3,k4⟩
  have HN:=hid k2;clear k2 k3 k4 HR2 HNN HO2 hb4
  simp only [take_succ_cons,List.take_zero,drop_succ_cons,List.drop_zero,qav,qaJ,HeadSpec.val,Act.put,setIfInBounds_toArray,set_cons_succ,set_cons_zero,List.getElem?_cons_succ,List.getElem?_cons_zero,Option.map_some,Option.getD_some]
  go_wp2_with fail
  exact bodyPost_ret (qax (by rfl) _ _ B 61 _ (0,0) _ rfl HN.out Tryz.underlying61 rfl (qak _)) rfl ⟨rfl,by rw [HBB.out];exact k1⟩
end
section
open Go.RowKit Go.Sort
set_option maxHeartbeats 4000000 in
theorem rootL_any (y fd sq m be u v q r:Nat) (b:Bool) (w:World) (l_y:y<pF) (hfd:facF=fd) (hT:PrmQ w)
  (e_sq:mulF y y=sq) (e_m:mulF fd sq=m) (e_be:addF m 1=be) (e_u:subF sq 1=u) (e_v:invF be=v) (e_q:mulF u v=q) (e_r:qa6 q=(r,b)) :
  Calls Tryz.prog 128 #[.agg (uc (limN 4 y))] w fun e w'=>e=.returned (.tuple #[.agg (uc (limN 4 r)),.bool b])∧Below w.heap.size w w':=by
 have C_fd:=hid (fun (W:World) (hW:PrmQ W)=>coef_any W hW)
 have l_fd:fd<pF:=hfd▸facF_lt;rw [hfd] at C_fd;have l_v:v<pF:=e_v▸qaU _ _;have l_q:q<pF:=e_q▸qaM _ _
 have C_v:=hid (fun (W:World) (hW:PrmQ W)=>invF_any be W (e_be▸qbV _ _))
 rw [e_v] at C_v
 have C_q:=hid (fun (W:World) (hW:PrmQ W)=>qaN u v W (e_u▸qby _ _) l_v)
 rw [e_q] at C_q
 have C_r:=hid (fun (W:World) (hW:PrmQ W)=>rootF_any q W l_q hW)
 rw [e_r] at C_r
 dsimp only at C_r
 have l_sq:sq<pF:=e_sq▸qaM _ _;have l_m:m<pF:=e_m▸qaM _ _;have l_be:be<pF:=e_be▸qbV _ _;have l_u:u<pF:=e_u▸qby _ _
 have C_sq:=hid (fun (W:World) (hW:PrmQ W)=>qaN y y W l_y l_y)
 rw [e_sq] at C_sq
 have C_m:=hid (fun (W:World) (hW:PrmQ W)=>qaN fd sq W l_fd l_sq)
 rw [e_m] at C_m
 have C_be:=hid (fun (W:World) (hW:PrmQ W)=>qcN m 1 W l_m (by decide))
 rw [e_be] at C_be
 have C_u:=hid (fun (W:World) (hW:PrmQ W)=>qcO sq 1 W l_sq (by decide) hW)
 rw [e_u] at C_u;clear e_sq l_sq e_m l_m e_be l_be e_u l_u l_y l_fd l_v l_q;clear hfd e_v e_q e_r
 have C_1:Hid (∀ W:World,Calls Tryz.prog 131 #[.int .i64 1] W fun e w'=>e=.returned (.agg (uc (limN 4 1)))∧Below W.heap.size W w'):=hid (fun W=>qb1 1 W (by decide))
 obtain ⟨hz,hi⟩:=zero_of_info qbO;obtain ⟨hzn,hin⟩:=zero_of_info qda;obtain ⟨hzp,hip⟩:=zero_of_info qcp;have hb:=qaP w (.cells (uc (limN 4 y)) 61) (.cells zeros4 61);have HP:=hid (hT.step hb);have HQ:=hid (qaj (o:=.cells zeros4 61) (qag w (.cells (uc (limN 4 y)) 61)));have HR:=hid (qaw w (.cells (uc (limN 4 y)) 61) (.cells zeros4 61));clear hi hin hip hT
 go_enter Tryz.func128,Tryz.ntmps128
 go_upto_region 1 with fail
 try clear hzn
 try clear hzp
 generalize ((w.alloc _).alloc _)=W0 at *;have hB:=hid hb.size;generalize hBB:w.heap.size=B at *;have HBB:=hid hBB;clear hBB
 refine qam 6 25 [.val (.agg (uc (limN 4 1))) [],
   .val (.agg (uc (limN 4 y))) [(1,.pointer (some ⟨B,0,none⟩))],
   .val (.agg (uc (limN 4 y))) [(1,.pointer (some ⟨B,0,none⟩))],
   .val (.agg (uc (limN 4 sq))) [(8,.agg (uc (limN 4 y))),(9,.agg (uc (limN 4 y)))],
   .fresh (.cells zeros4 61),
   .fresh (.cells zeros4 61)] (by kernel_rfl) (by kernel_rfl) rfl ?_ ?_ ?_
 ·simp only [take_succ_cons,List.take_zero,qaL,qaK,HeadSpec.val,HeadSpec.fresh,and_true]
  refine ⟨?_,?_,?_,?_,?_,?_⟩
  ·intro act w hb h
   simp [go_sem,qac]
   exact C_1.out w
  ·intro act w hb h
   have e0:=h (1,.pointer (some ⟨B,0,none⟩)) (by simp)
   exact qae 61 (.tmp 1) rfl (B) e0 61 _ (0,0) _ (qaa hb (qab HQ.out) HQ.out) Tryz.underlying61 rfl (qak _)
  ·intro act w hb h
   have e0:=h (1,.pointer (some ⟨B,0,none⟩)) (by simp)
   exact qae 61 (.tmp 1) rfl (B) e0 61 _ (0,0) _ (qaa hb (qab HQ.out) HQ.out) Tryz.underlying61 rfl (qak _)
  ·intro act w hb h
   have e0:=h (8,.agg (uc (limN 4 y))) (by simp)
   have e1:=h (9,.agg (uc (limN 4 y))) (by simp)
   simp only [getD_eq_getD_getElem?] at e0 e1
   simp [go_sem,e0,e1,qac]
   exact C_sq.out w (HP.out.step hb)
  ·intro act w hb
   simp [go_sem,hz]
  ·intro act w hb
   simp [go_sem,hz]
 ·simp [qau,qav,qaJ,HeadSpec.val,HeadSpec.fresh,Act.put]
 ·simp only [take_succ_cons,List.take_zero,drop_succ_cons,List.drop_zero,qaH,HeadSpec.val,HeadSpec.fresh,Act.put,setIfInBounds_toArray,set_cons_succ,set_cons_zero]
  intro g4 hg4 _ g5 hg5 ng5 v1 hv1 hgs
  have ne_g4_g5:g4≠g5:=ng5 (g4,.cells zeros4 61) (by simp)
  have N_g4:=hid (show v1.heap[g4]?=some (.cells zeros4 61) from hgs (g4,.cells zeros4 61) (by simp))
  have N_g5:=hid (show v1.heap[g5]?=some (.cells zeros4 61) from hgs (g5,.cells zeros4 61) (by simp))
  have M_g5:=hid (show (v1.setRow g4 (uc (limN 4 1))).heap[g5]?=some (.cells zeros4 61) from by rw [setRow_other _ _ _ _ (Ne.symm ne_g4_g5)];exact N_g5.out)
  have hk:Below W0.heap.size W0 ((v1.setRow g4 (uc (limN 4 1))).setRow g5 (uc (limN 4 sq))):=below_setRow (below_setRow hv1 hg4 (uc (limN 4 1))) hg5 (uc (limN 4 sq))
  have k_g4:=hid (show ((v1.setRow g4 (uc (limN 4 1))).setRow g5 (uc (limN 4 sq))).heap[g4]?=some (.cells (uc (limN 4 1)) 61) from by rw [setRow_other _ _ _ _ ne_g4_g5];exact setRow_heap _ g4 _ (uc (limN 4 1)) _ _ N_g4.out)
  have k_g5:=hid (show ((v1.setRow g4 (uc (limN 4 1))).setRow g5 (uc (limN 4 sq))).heap[g5]?=some (.cells (uc (limN 4 sq)) 61) from by exact setRow_heap _ g5 _ (uc (limN 4 sq)) _ _ M_g5.out)
  have hb1:=hb.trans (hk.mono hB.out);have hP1:=hid (HP.out.step hk);have kHQ:=hid (qaa hk (qab HQ.out) HQ.out);have kHR:=hid (qaa hk (qab HR.out) HR.out);have hB1:=hid (Nat.le_trans hB.out hk.size);have b_g4:=hid (Nat.le_trans hB.out hg4);have b_g5:=hid (Nat.le_trans hB.out hg5);clear HQ HR hv1 hgs hb HP hB hk hg4 hg5 ne_g4_g5 ng5
  go_wp2_with (first | (with_reducible refine wpList_store_row rfl 61 _ _ rfl g4 (uc (limN 4 1)) rfl rfl 61 _ N_g4.out (qak _) (qaq _) (qar _) ?_) | (with_reducible refine wpList_store_row rfl 61 _ _ rfl g5 (uc (limN 4 sq)) rfl rfl 61 _ M_g5.out (qak _) (qaq _) (qar _) ?_))
  generalize (World.setRow (World.setRow _ _ _) _ _)=W1 at *;clear N_g4 N_g5 M_g5;have HQ:=kHQ;have HR:=kHR;have H_g4:=k_g4;have H_g5:=k_g5;have hb:=hb1;have HP:=hP1;have hB:=hB1;clear hb1 hP1 hB1 kHQ kHR k_g4 k_g5
  try simp only [Act.put]
  refine qam 6 25 [.val (.agg (uc (limN 4 fd))) [],
   .val (.agg (uc (limN 4 sq))) [(5,.pointer (some ⟨g5,0,none⟩))],
   .val (.agg (uc (limN 4 m))) [(11,.agg (uc (limN 4 fd))),(12,.agg (uc (limN 4 sq)))],
   .val (.agg (uc (limN 4 1))) [(4,.pointer (some ⟨g4,0,none⟩))],
   .val (.agg (uc (limN 4 be))) [(13,.agg (uc (limN 4 m))),(14,.agg (uc (limN 4 1)))],
   .fresh (.cells zeros4 61)] (by kernel_rfl) (by kernel_rfl) rfl ?_ ?_ ?_
  ·simp only [take_succ_cons,List.take_zero,qaL,qaK,HeadSpec.val,HeadSpec.fresh,and_true]
   refine ⟨?_,?_,?_,?_,?_,?_⟩
   ·intro act w hb h
    simp [go_sem,qac]
    exact C_fd.out w (HP.out.step hb)
   ·intro act w hb h
    have e0:=h (5,.pointer (some ⟨g5,0,none⟩)) (by simp)
    exact qae 61 (.tmp 5) rfl (g5) e0 61 _ (0,0) _ (qaa hb (qab H_g5.out) H_g5.out) Tryz.underlying61 rfl (qak _)
   ·intro act w hb h
    have e0:=h (11,.agg (uc (limN 4 fd))) (by simp)
    have e1:=h (12,.agg (uc (limN 4 sq))) (by simp)
    simp only [getD_eq_getD_getElem?] at e0 e1
    simp [go_sem,e0,e1,qac]
    exact C_m.out w (HP.out.step hb)
   ·intro act w hb h
    have e0:=h (4,.pointer (some ⟨g4,0,none⟩)) (by simp)
    exact qae 61 (.tmp 4) rfl (g4) e0 61 _ (0,0) _ (qaa hb (qab H_g4.out) H_g4.out) Tryz.underlying61 rfl (qak _)
   ·intro act w hb h
    have e0:=h (13,.agg (uc (limN 4 m))) (by simp)
    have e1:=h (14,.agg (uc (limN 4 1))) (by simp)
    simp only [getD_eq_getD_getElem?] at e0 e1
    simp [go_sem,e0,e1,qac]
    exact C_be.out w (HP.out.step hb)
   ·intro act w hb
    simp [go_sem,hz]
  ·simp [qau,qav,qaJ,HeadSpec.val,HeadSpec.fresh,Act.put]
  ·simp only [take_succ_cons,List.take_zero,drop_succ_cons,List.drop_zero,qaH,HeadSpec.val,HeadSpec.fresh,Act.put,setIfInBounds_toArray,set_cons_succ,set_cons_zero]
   intro g6 hg6 _ v1 hv1 hgs
   have N_g6:=hid (show v1.heap[g6]?=some (.cells zeros4 61) from hgs (g6,.cells zeros4 61) (by simp))
   have hk:Below W1.heap.size W1 (v1.setRow g6 (uc (limN 4 be))):=below_setRow hv1 hg6 (uc (limN 4 be))
   have k_g6:=hid (show (v1.setRow g6 (uc (limN 4 be))).heap[g6]?=some (.cells (uc (limN 4 be)) 61) from by exact setRow_heap _ g6 _ (uc (limN 4 be)) _ _ N_g6.out)
   have hb1:=hb.trans (hk.mono hB.out);have hP1:=hid (HP.out.step hk);have kHQ:=hid (qaa hk (qab HQ.out) HQ.out);have kHR:=hid (qaa hk (qab HR.out) HR.out);have kH_g4:=hid (qaa hk (qab H_g4.out) H_g4.out);have kH_g5:=hid (qaa hk (qab H_g5.out) H_g5.out);have hB1:=hid (Nat.le_trans hB.out hk.size);have b_g6:=hid (Nat.le_trans hB.out hg6);clear HQ HR H_g4 H_g5 hv1 hgs hb HP hB hk hg6
   go_wp2_with (first | (with_reducible refine wpList_store_row rfl 61 _ _ rfl g6 (uc (limN 4 be)) rfl rfl 61 _ N_g6.out (qak _) (qaq _) (qar _) ?_))
   generalize (World.setRow _ _ _)=W2 at *;clear N_g6;have HQ:=kHQ;have HR:=kHR;have H_g4:=kH_g4;have H_g5:=kH_g5;have H_g6:=k_g6;have hb:=hb1;have HP:=hP1;have hB:=hB1;clear hb1 hP1 hB1 kHQ kHR kH_g4 kH_g5 k_g6
   try simp only [Act.put]
   refine qam 9 25 [.val (.agg (uc (limN 4 sq))) [(5,.pointer (some ⟨g5,0,none⟩))],
   .val (.agg (uc (limN 4 1))) [(4,.pointer (some ⟨g4,0,none⟩))],
   .val (.agg (uc (limN 4 u))) [(16,.agg (uc (limN 4 sq))),(17,.agg (uc (limN 4 1)))],
   .val (.agg (uc (limN 4 be))) [(6,.pointer (some ⟨g6,0,none⟩))],
   .val (.agg (uc (limN 4 v))) [(19,.agg (uc (limN 4 be)))],
   .val (.agg (uc (limN 4 q))) [(18,.agg (uc (limN 4 u))),(20,.agg (uc (limN 4 v)))],
   .val (.tuple #[.agg (uc (limN 4 r)),.bool b]) [(21,.agg (uc (limN 4 q)))],
   .val (.agg (uc (limN 4 r))) [(22,.tuple #[.agg (uc (limN 4 r)),.bool b])],
   .val (.bool b) [(22,.tuple #[.agg (uc (limN 4 r)),.bool b])]] (by kernel_rfl) (by kernel_rfl) rfl ?_ ?_ ?_
   ·simp only [take_succ_cons,List.take_zero,qaL,qaK,HeadSpec.val,HeadSpec.fresh,and_true]
    refine ⟨?_,?_,?_,?_,?_,?_,?_,?_,?_⟩
    ·intro act w hb h
     have e0:=h (5,.pointer (some ⟨g5,0,none⟩)) (by simp)
     exact qae 61 (.tmp 5) rfl (g5) e0 61 _ (0,0) _ (qaa hb (qab H_g5.out) H_g5.out) Tryz.underlying61 rfl (qak _)
    ·intro act w hb h
     have e0:=h (4,.pointer (some ⟨g4,0,none⟩)) (by simp)
     exact qae 61 (.tmp 4) rfl (g4) e0 61 _ (0,0) _ (qaa hb (qab H_g4.out) H_g4.out) Tryz.underlying61 rfl (qak _)
    ·intro act w hb h
     have e0:=h (16,.agg (uc (limN 4 sq))) (by simp)
     have e1:=h (17,.agg (uc (limN 4 1))) (by simp)
     simp only [getD_eq_getD_getElem?] at e0 e1
     simp [go_sem,e0,e1,qac]
     exact C_u.out w (HP.out.step hb)
    ·intro act w hb h
     have e0:=h (6,.pointer (some ⟨g6,0,none⟩)) (by simp)
     exact qae 61 (.tmp 6) rfl (g6) e0 61 _ (0,0) _ (qaa hb (qab H_g6.out) H_g6.out) Tryz.underlying61 rfl (qak _)
    ·intro act w hb h
     have e0:=h (19,.agg (uc (limN 4 be))) (by simp)
     simp only [getD_eq_getD_getElem?] at e0
     simp [go_sem,e0,qac]
     exact C_v.out w (HP.out.step hb)
    ·intro act w hb h
     have e0:=h (18,.agg (uc (limN 4 u))) (by simp)
     have e1:=h (20,.agg (uc (limN 4 v))) (by simp)
     simp only [getD_eq_getD_getElem?] at e0 e1
     simp [go_sem,e0,e1,qac]
     exact C_q.out w (HP.out.step hb)
    ·intro act w hb h
     have e0:=h (21,.agg (uc (limN 4 q))) (by simp)
     simp only [getD_eq_getD_getElem?] at e0
     simp [go_sem,e0,qac]
     exact C_r.out w (HP.out.step hb)
    ·intro act w hb h
     have e0:=h (22,.tuple #[.agg (uc (limN 4 r)),.bool b]) (by simp)
     simp only [getD_eq_getD_getElem?] at e0
     simp [go_sem,e0,qac]
    ·intro act w hb h
     have e0:=h (22,.tuple #[.agg (uc (limN 4 r)),.bool b]) (by simp)
     simp only [getD_eq_getD_getElem?] at e0
     simp [go_sem,e0,qac]
   ·simp [qau,qav,qaJ,HeadSpec.val,HeadSpec.fresh,Act.put]
   ·simp only [take_succ_cons,List.take_zero,drop_succ_cons,List.drop_zero,qaH,HeadSpec.val,HeadSpec.fresh,Act.put,setIfInBounds_toArray,set_cons_succ,set_cons_zero]
    intro v1 hv1 hgs;have HN:=hid (qaa hv1 (qab HR.out) HR.out);have HNN:=hid (setRow_heap v1 (B+1) _ (uc (limN 4 r)) _ _ HN.out)
    have hb2:Below B w (v1.setRow (B+1) (uc (limN 4 r))):=below_setRow (hb.trans (hv1.mono hB.out)) (by omega) _
    clear hgs hv1 hb
    go_wp2_with (with_reducible refine wpList_store_row rfl 61 _ _ rfl (B+1) (uc (limN 4 r)) rfl rfl 61 _ HN.out (qak _) (qaq _) (qar _) ?_)
    exact bodyPost_ret (qax (by rfl) _ _ (B+1) 61 _ (0,0) _ rfl HNN.out Tryz.underlying61 rfl (qak _)) rfl ⟨rfl,by rw [HBB.out];exact hb2⟩
theorem rootAt_any (y:Nat) (w:World) (hy:y<pF) (hT:PrmQ w) :
  Calls Tryz.prog 128 #[.agg (uc (limN 4 y))] w fun e w'=>e=.returned (.tuple #[.agg (uc (limN 4 (qa6 (sqrP y)).1)),.bool (qa6 (sqrP y)).2])∧Below w.heap.size w w':=by
 have e (x:Nat×Bool):x=(x.1,x.2):=rfl;exact rootL_any y facF (mulF y y) (mulF facF (mulF y y)) (addF (mulF facF (mulF y y)) 1) (subF (mulF y y) 1) (invF (addF (mulF facF (mulF y y)) 1)) (sqrP y) (qa6 (sqrP y)).1 (qa6 (sqrP y)).2 w hy rfl hT rfl rfl rfl rfl rfl rfl (e _)
end
section
open Go.RowKit Go.Sort
set_option maxHeartbeats 2000000 in
theorem ptMulBad_any (p:PtN) (s:ByteArray) (w:World) (h:s.size≠32) :
  Calls Tryz.prog 74 #[.agg (uc (ptL p)),.string s] w fun e w'=>e=.returned (.tuple #[.agg (uc (ptL zeroP)),.int .i64 1])∧Below w.heap.size w w':=by
 obtain ⟨hzp,hip⟩:=zero_of_info qcp
 have d1:((s.size:Int) != 32)=true:=by simp;omega
 have HR0:=hid (qaw w (.cells (uc (ptL p)) 63) (.cells zrow4 63));have hb0:=qaP w (.cells (uc (ptL p)) 63) (.cells zrow4 63);have CZ:=hid qeT;clear hip h
 go_enter Tryz.func74,Tryz.ntmps74
 go_wp2_with fail
 clear hzp;generalize ((w.alloc _).alloc _)=W0 at *;have hB:=hb0.size;generalize hBB:w.heap.size=B at *
 refine (CZ.out W0).mono ?_
 rintro e W1 ⟨rfl,bk⟩;have HR:=hid (qaa bk (qab HR0.out) HR0.out);have hb1:=hb0.trans (bk.mono hB);clear HR0 hb0 bk
 go_wp2_with (with_reducible refine wpList_store_row rfl 63 _ _ rfl (B+1) (uc (ptL zeroP)) rfl rfl 63 _ HR.out (qbj _ (qaz _)) (qa3 _ (qaz _)) (qar _) ?_)
 exact bodyPost_ret (qax (by rfl) _ _ (B+1) 63 _ (0,0) _ rfl (setRow_heap _ _ _ _ _ _ HR.out) Tryz.underlying63 rfl (qbj _ (qaz _))) rfl ⟨rfl,by rw [hBB];exact below_setRow hb1 (by omega) _⟩
set_option maxHeartbeats 8000000 in
theorem ptMul_any (p:PtN) (s:ByteArray) (w:World) (hp:p.Ok) (hs:s.size=32) (hT:PrmQ w) :
  Calls Tryz.prog 74 #[.agg (uc (ptL p)),.string s] w fun e w'=>e=.returned (.tuple #[.agg (uc (ptL (mulP p s.data.toList 256))),.int .i64 0])∧Below w.heap.size w w':=by
 have d1:((s.size:Int) != 32)=false:=by simp;omega
 have HT:=hid hT;have hTl:=hid hT.lt
 have CB:=hid (fun (n:Nat) (hn:n<256) (W:World)=>ptBit_any s n W hs hn)
 have C_z:=hid qeT
 have C_n0:=hid (fun (W:World) (hW:PrmQ W)=>qfL zeroP W zeroP_ok hW)
 have C_np:=hid (fun (W:World) (hW:PrmQ W)=>qfL p W hp hW)
 have CS:=hid sum_any;have CO:=hid or_pt_any;have CP:=hid point_any;have HPO:=hid hp;generalize s.data.toList=l at *;have HOK:=hid (mulP_ok p l);have HM0:Hid (mulP p l 0=zeroP):=hid rfl
 have HMS:=hid (fun n:Nat=>show mulP p l (n+1)=if bitP l (255-n)=1 then sumP (sumP (mulP p l n) (mulP p l n)) p else sumP (mulP p l n) (mulP p l n) from rfl)
 clear hp hs;obtain ⟨hz,hi⟩:=zero_of_info qbO;obtain ⟨hzn,hin⟩:=zero_of_info qda;obtain ⟨hzp,hip⟩:=zero_of_info qcp;have hb:=qaP w (.cells (uc (ptL p)) 63) (.cells zrow4 63);have HP:=hid (hT.step hb);have HQ:=hid (qaj (o:=.cells zrow4 63) (qag w (.cells (uc (ptL p)) 63)));have HR:=hid (qaw w (.cells (uc (ptL p)) 63) (.cells zrow4 63));clear hi hin hip hT
 go_enter Tryz.func74,Tryz.ntmps74
 go_upto_region 3 with fail
 generalize ((w.alloc _).alloc _)=W0 at *;have hB:=hid hb.size;generalize hBB:w.heap.size=B at *;have HBB:=hid hBB;clear hBB
 refine qam 6 35 [.val (.agg (uc (ptL zeroP))) [],
   .val (.agg (uc (numL zeroP))) [(13,.agg (uc (ptL zeroP)))],
   .val (.agg (uc (ptL p))) [(2,.pointer (some ⟨B,0,none⟩))],
   .val (.agg (uc (numL p))) [(15,.agg (uc (ptL p)))],
   .fresh (.cells zrow4 103),
   .fresh (.cells zrow4 103)] (by kernel_rfl) (by kernel_rfl) rfl ?_ ?_ ?_
 ·simp only [take_succ_cons,List.take_zero,qaL,qaK,HeadSpec.val,HeadSpec.fresh,and_true]
  refine ⟨?_,?_,?_,?_,?_,?_⟩
  ·intro act w hb h
   simp [go_sem,qac]
   exact C_z.out w
  ·intro act w hb h
   have e0:=h (13,.agg (uc (ptL zeroP))) (by simp)
   simp only [getD_eq_getD_getElem?] at e0
   simp [go_sem,e0,qac]
   exact C_n0.out w (HP.out.step hb)
  ·intro act w hb h
   have e0:=h (2,.pointer (some ⟨B,0,none⟩)) (by simp)
   exact qae 63 (.tmp 2) rfl (B) e0 63 _ (0,0) _ (qaa hb (qab HQ.out) HQ.out) Tryz.underlying63 rfl (qbj _ (qaz _))
  ·intro act w hb h
   have e0:=h (15,.agg (uc (ptL p))) (by simp)
   simp only [getD_eq_getD_getElem?] at e0
   simp [go_sem,e0,qac]
   exact C_np.out w (HP.out.step hb)
  ·intro act w hb
   simp [go_sem,hzn]
  ·intro act w hb
   simp [go_sem,hzn]
 ·simp [qau,qav,qaJ,HeadSpec.val,HeadSpec.fresh,Act.put]
 ·simp only [take_succ_cons,List.take_zero,drop_succ_cons,List.drop_zero,qaH,HeadSpec.val,HeadSpec.fresh,Act.put,setIfInBounds_toArray,set_cons_succ,set_cons_zero]
  intro g6 hg6 _ g7 hg7 ng7 v1 hv1 hgs
  have ne_g6_g7:g6≠g7:=ng7 (g6,.cells zrow4 103) (by simp)
  have N_g6:=hid (show v1.heap[g6]?=some (.cells zrow4 103) from hgs (g6,.cells zrow4 103) (by simp))
  have N_g7:=hid (show v1.heap[g7]?=some (.cells zrow4 103) from hgs (g7,.cells zrow4 103) (by simp))
  have r6:=hid (Nat.lt_of_lt_of_le (qab HR.out) hg6);have r7:=hid (Nat.lt_of_lt_of_le (qab HR.out) hg7);have r67:=hid ne_g6_g7
  have M_g7:=hid (show (v1.setRow g6 (uc (numL zeroP))).heap[g7]?=some (.cells zrow4 103) from by rw [setRow_other _ _ _ _ (Ne.symm ne_g6_g7)];exact N_g7.out)
  have hk:Below W0.heap.size W0 ((v1.setRow g6 (uc (numL zeroP))).setRow g7 (uc (numL p))):=below_setRow (below_setRow hv1 hg6 (uc (numL zeroP))) hg7 (uc (numL p))
  have k_g6:=hid (show ((v1.setRow g6 (uc (numL zeroP))).setRow g7 (uc (numL p))).heap[g6]?=some (.cells (uc (numL zeroP)) 103) from by rw [setRow_other _ _ _ _ ne_g6_g7];exact setRow_heap _ g6 _ (uc (numL zeroP)) _ _ N_g6.out)
  have k_g7:=hid (show ((v1.setRow g6 (uc (numL zeroP))).setRow g7 (uc (numL p))).heap[g7]?=some (.cells (uc (numL p)) 103) from by exact setRow_heap _ g7 _ (uc (numL p)) _ _ M_g7.out)
  have hb1:=hb.trans (hk.mono hB.out);have hP1:=hid (HP.out.step hk);have kHQ:=hid (qaa hk (qab HQ.out) HQ.out);have kHR:=hid (qaa hk (qab HR.out) HR.out);have hB1:=hid (Nat.le_trans hB.out hk.size);have b_g6:=hid (Nat.le_trans hB.out hg6);have b_g7:=hid (Nat.le_trans hB.out hg7);clear HQ HR hv1 hgs hb HP hB hk hg6 hg7 ne_g6_g7 ng7
  go_wp2_with (first | (with_reducible refine wpList_store_row rfl 103 _ _ rfl g6 (uc (numL zeroP)) rfl rfl 103 _ N_g6.out (qcq _ (qbk _)) (qa3 _ (qbk _)) (qar _) ?_) | (with_reducible refine wpList_store_row rfl 103 _ _ rfl g7 (uc (numL p)) rfl rfl 103 _ M_g7.out (qcq _ (qbk _)) (qa3 _ (qbk _)) (qar _) ?_))
  generalize (World.setRow (World.setRow _ _ _) _ _)=W1 at *;clear N_g6 N_g7 M_g7;have HQ:=kHQ;have HR:=kHR;have H_g6:=k_g6;have H_g7:=k_g7;have hb:=hb1;have HP:=hP1;have hB:=hB1;clear hb1 hP1 hB1 kHQ kHR k_g6 k_g7
  try simp only [Act.put]
  clear C_z C_n0 C_np HQ
  go_loopw [8] (fun iv wr=>∃ n:Nat,n≤256∧iv=.int .i64 (255-(n:Int))∧wr.heap[B+1]?=some (.cells zrow4 63)∧wr.heap[g6]?=some (.cells (uc (numL (mulP p l n))) 103)∧wr.heap[g7]?=some (.cells (uc (numL p)) 103)∧Below B w wr) (fun iv _=>(intOf iv+1).toNat)
  case atStart=>exact ⟨0,by omega,rfl,HR.out,by rw [HM0.out];exact H_g6.out,H_g7.out,hb⟩
  case round=>
   clear HR H_g6 H_g7 hb hB HP;obtain ⟨n,hn,rfl,hvr,hv6,hv7,hb⟩:=hrel;have HR:=hid hvr;have H_g6:=hid hv6;have H_g7:=hid hv7;clear hvr hv6 hv7
   have hB:Hid (B≤wr.heap.size):=hid (by have:=qab HR.out;omega)
   have HP:=hid (HT.out.below hb hTl.out);have hok:=HOK.out n
   by_cases hlt:n<256
   ·obtain ⟨i,hi⟩:∃ i,i=255-n:=⟨_,rfl⟩
    have hii:(255:Int)-(n:Int)=(i:Int):=by omega
    have hd:decide ((0:Int)≤(i:Int))=true:=by simp
    have hi256:i<256:=by omega
    have HST:=hid (HMS.out n);rw [← hi] at HST;have hbt:=bitP_two l i;have C_b:=hid (CB.out i hi256);rw [hii];generalize mulP p l n=q at *;generalize bitP l i=t at *;obtain ⟨d,ed⟩:∃ d,sumP q q=d:=⟨_,rfl⟩;obtain ⟨x,ex⟩:∃ x,sumP d p=x:=⟨_,rfl⟩
    obtain ⟨r,er⟩:∃ r,(if t=1 then x else d)=r:=⟨_,rfl⟩
    have HS3:Hid (mulP p l (n+1)=r):=hid (by rw [HST.out,ed,ex,er])
    have C_1:=hid (fun (W:World) (hW:PrmQ W)=>CS.out q q W hok hok hW)
    rw [ed] at C_1;have okd:d.Ok:=ed▸sumP_ok _ _;have okx:x.Ok:=ex▸sumP_ok _ _
    have C_2:=hid (fun (W:World) (hW:PrmQ W)=>CS.out d p W okd HPO.out hW)
    rw [ex] at C_2
    have C_o:=hid (fun (W:World) (hW:PrmQ W)=>CO.out d x t W okd okx hbt hW)
    rw [er] at C_o
    have C_s:Hid (∀ W:World,Calls Tryz.prog 131 #[.int .i64 (t:Int)] W fun e w'=>e=.returned (.agg (uc (limN 4 t)))∧Below W.heap.size W w'):=hid (fun W=>qb1 t W (by omega))
    clear HST ed ex er okd okx hok hbt hi CB CO CP CS HOK HMS HM0 HPO
    go_wp2_with (with_reducible refine wpList_load_row rfl 103 _ rfl g6 rfl 103 _ (0,0) _ H_g6.out Tryz.underlying103 rfl (qcq _ (qbk _)) ?_)
    refine (C_1.out wr HP.out).mono ?_
    rintro e V1 ⟨rfl,bk⟩;replace hb:=hb.trans (bk.mono hB.out);replace hB:=hid (Nat.le_trans hB.out bk.size);replace HR:=hid (qaa bk (qab HR.out) HR.out);replace H_g6:=hid (qaa bk (qab H_g6.out) H_g6.out);replace H_g7:=hid (qaa bk (qab H_g7.out) H_g7.out);clear bk;have k6:=hid (setRow_heap V1 g6 _ (uc (numL d)) _ _ H_g6.out);have k7:=hid ((setRow_other V1 g6 g7 (uc (numL d)) (Ne.symm r67.out)).trans H_g7.out)
    have kR:=hid ((setRow_other V1 g6 (B+1) (uc (numL d)) (by have:=r6.out;omega)).trans HR.out)
    have kb:Below B w (V1.setRow g6 (uc (numL d))):=below_setRow hb (by have:=r6.out;omega) _
    have kB:Hid (B≤(V1.setRow g6 (uc (numL d))).heap.size):=hid (by have:=qab kR.out;omega)
    have kP:=hid (HT.out.below kb hTl.out);clear HR H_g7 hb hB HP
    go_wp2_with (with_reducible refine wpList_store_row rfl 103 _ _ rfl g6 (uc (numL d)) rfl rfl 103 _ H_g6.out (qcq _ (qbk _)) (rows_size _ _ (qbk _) (qbk _)) (qar _) ?_)
    clear H_g6;generalize (World.setRow _ _ _)=V2 at *;have HR:=kR;have H_g6:=k6;have H_g7:=k7;have hb:=kb;have hB:=kB;have HP:=kP;clear kR k6 k7 kb kB kP C_1
    try simp only [Act.put]
    refine qam 9 35 [.val (.agg (uc (numL d))) [(6,.pointer (some ⟨g6,0,none⟩))],
   .val (.agg (uc (numL d))) [(6,.pointer (some ⟨g6,0,none⟩))],
   .val (.agg (uc (numL p))) [(7,.pointer (some ⟨g7,0,none⟩))],
   .val (.agg (uc (numL x))) [(25,.agg (uc (numL d))),(26,.agg (uc (numL p)))],
   .val (.string s) [(1,.string s)],
   .val (.int .i64 (i:Int)) [(8,.int .i64 (i:Int))],
   .val (.int .i64 (t:Int)) [(28,.string s),(29,.int .i64 (i:Int))],
   .val (.agg (uc (limN 4 t))) [(30,.int .i64 (t:Int))],
   .val (.agg (uc (numL r))) [(24,.agg (uc (numL d))),(27,.agg (uc (numL x))),(31,.agg (uc (limN 4 t)))]] (by kernel_rfl) (by kernel_rfl) rfl ?_ ?_ ?_
    ·simp only [take_succ_cons,List.take_zero,qaL,qaK,HeadSpec.val,HeadSpec.fresh,and_true]
     refine ⟨?_,?_,?_,?_,?_,?_,?_,?_,?_⟩
     ·intro act w hb h
      have e0:=h (6,.pointer (some ⟨g6,0,none⟩)) (by simp)
      exact qae 103 (.tmp 6) rfl (g6) e0 103 _ (0,0) _ (qaa hb (qab H_g6.out) H_g6.out) Tryz.underlying103 rfl (qcq _ (qbk _))
     ·intro act w hb h
      have e0:=h (6,.pointer (some ⟨g6,0,none⟩)) (by simp)
      exact qae 103 (.tmp 6) rfl (g6) e0 103 _ (0,0) _ (qaa hb (qab H_g6.out) H_g6.out) Tryz.underlying103 rfl (qcq _ (qbk _))
     ·intro act w hb h
      have e0:=h (7,.pointer (some ⟨g7,0,none⟩)) (by simp)
      exact qae 103 (.tmp 7) rfl (g7) e0 103 _ (0,0) _ (qaa hb (qab H_g7.out) H_g7.out) Tryz.underlying103 rfl (qcq _ (qbk _))
     ·intro act w hb h
      have e0:=h (25,.agg (uc (numL d))) (by simp)
      have e1:=h (26,.agg (uc (numL p))) (by simp)
      simp only [getD_eq_getD_getElem?] at e0 e1
      simp [go_sem,e0,e1,qac]
      exact C_2.out w (HP.out.step hb)
     ·intro act w hb h
      have e0:=h (1,.string s) (by simp)
      simp only [getD_eq_getD_getElem?] at e0
      simp [go_sem,e0,qac]
     ·intro act w hb h
      have e0:=h (8,.int .i64 (i:Int)) (by simp)
      simp only [getD_eq_getD_getElem?] at e0
      simp [go_sem,e0,qac]
     ·intro act w hb h
      have e0:=h (28,.string s) (by simp)
      have e1:=h (29,.int .i64 (i:Int)) (by simp)
      simp only [getD_eq_getD_getElem?] at e0 e1
      simp [go_sem,e0,e1,qac]
      exact C_b.out w
     ·intro act w hb h
      have e0:=h (30,.int .i64 (t:Int)) (by simp)
      simp only [getD_eq_getD_getElem?] at e0
      simp [go_sem,e0,qac]
      exact C_s.out w
     ·intro act w hb h
      have e0:=h (24,.agg (uc (numL d))) (by simp)
      have e1:=h (27,.agg (uc (numL x))) (by simp)
      have e2:=h (31,.agg (uc (limN 4 t))) (by simp)
      simp only [getD_eq_getD_getElem?] at e0 e1 e2
      simp [go_sem,e0,e1,e2,qac]
      exact C_o.out w (HP.out.step hb)
    ·simp [qau,qav,qaJ,HeadSpec.val,HeadSpec.fresh,Act.put]
    ·simp only [take_succ_cons,List.take_zero,drop_succ_cons,List.drop_zero,qaH,HeadSpec.val,HeadSpec.fresh,Act.put,setIfInBounds_toArray,set_cons_succ,set_cons_zero]
     intro v1 hv1 hgs;replace hb:=hb.trans (hv1.mono hB.out);replace HR:=hid (qaa hv1 (qab HR.out) HR.out);replace H_g6:=hid (qaa hv1 (qab H_g6.out) H_g6.out);replace H_g7:=hid (qaa hv1 (qab H_g7.out) H_g7.out);clear hv1 hgs C_2 C_o C_b C_s HP hB;have k6:=hid (setRow_heap v1 g6 _ (uc (numL r)) _ _ H_g6.out);have k7:=hid ((setRow_other v1 g6 g7 (uc (numL r)) (Ne.symm r67.out)).trans H_g7.out)
     have kR:=hid ((setRow_other v1 g6 (B+1) (uc (numL r)) (by have:=r6.out;omega)).trans HR.out)
     have kb:Below B w (v1.setRow g6 (uc (numL r))):=below_setRow hb (by have:=r6.out;omega) _
     clear HR H_g7 hb
     go_wp2_with (with_reducible refine wpList_store_row rfl 103 _ _ rfl g6 (uc (numL r)) rfl rfl 103 _ H_g6.out (qcq _ (qbk _)) (rows_size _ _ (qbk _) (qbk _)) (qar _) ?_)
     go_roundw
     case rel=>exact ⟨n+1,by omega,by go_num,kR.out,by rw [HS3.out];exact k6.out,k7.out,kb⟩
     case measure=>simp [intOf] <;> omega
   ·have hd:decide ((0:Int)≤(255:Int)-(n:Int))=false:=by simp;omega
    obtain rfl:n=256:=by omega
    have C_p:=hid (fun (W:World) (hW:PrmQ W)=>CP.out _ W hok hW)
    obtain ⟨q,hq⟩:∃ q,mulP p l 256=q:=⟨_,rfl⟩;rw [hq] at C_p H_g6;have HQQ:=hid hq;clear hq hok CP CB CS CO HOK HMS HM0
    go_wp2_with (with_reducible refine wpList_load_row rfl 103 _ rfl g6 rfl 103 _ (0,0) _ H_g6.out Tryz.underlying103 rfl (qcq _ (qbk _)) ?_)
    refine (C_p.out wr HP.out).mono ?_
    rintro e V1 ⟨rfl,bk⟩;replace hb:=hb.trans (bk.mono hB.out);have HN:=hid (qaa bk (qab HR.out) HR.out);clear HR H_g6 H_g7 HP hB bk
    go_wp2_with (with_reducible refine wpList_store_row rfl 63 _ _ rfl (B+1) (uc (ptL q)) rfl rfl 63 _ HN.out (qbj _ (qaz _)) (qa3 _ (qaz _)) (qar _) ?_)
    exact bodyPost_ret (qax (by rfl) _ _ (B+1) 63 _ (0,0) _ rfl (setRow_heap _ _ _ _ _ _ HN.out) Tryz.underlying63 rfl (qbj _ (qaz _))) rfl ⟨by rw [HQQ.out];rfl,by rw [HBB.out];exact below_setRow hb (by omega) _⟩
theorem ptMulT_any (p:PtN) (s:ByteArray) (w:World) (hp:p.Ok) (hT:PrmQ w) :
  Calls Tryz.prog 74 #[.agg (uc (ptL p)),.string s] w fun e w'=>e=.returned (.tuple #[.agg (uc (ptL (qb8 p s))),.int .i64 (mulET s)])∧Below w.heap.size w w':=by
 by_cases h:s.size=32
 ·rw [qb8,mulET,if_pos h,if_pos h];exact ptMul_any p s w hp h hT
 ·rw [qb8,mulET,if_neg h,if_neg h];exact ptMulBad_any p s w h
end
section
open Go.RowKit Go.Sort
def tBytes (base:Nat) (n:Nat) (l:List UInt8):Told:=⟨fun w v=>∃ g cap:Nat,v=.slice (some ⟨g,0,none⟩) n cap∧OwnS w base g cap (Lib.byteCells l),fun w w' v hb ⟨g,cap,h1,h2⟩=>⟨g,cap,h1,h2.stays hb⟩⟩
theorem byte_told (s:ByteArray) (i:Nat) (b:UInt8) (h:s.data.toList.getD i 0=b) (hi:i<s.size):∀ k:i<s.size,((s[i]'k).toNat:Int)=(b.toNat:Int):=fun k=>by
 rw [← h,qcK s i k]
theorem top_or (x y:Nat) (hy:y<57896044618658097711785492504343953926634992332820282019728792003956564819968) :
  bits .or .u8 (((leF y 32).getD 31 0).toNat:Int) ((((leF x 32).getD 0 0).toNat:Int)*128%256)=((UInt8.ofNat (((leF y 32).getD 31 0).toNat+128*(x%2))).toNat:Int):=by
 obtain ⟨t1,_⟩:=leF_top y (x%2) hy (by omega)
 have h0:((leF x 32).getD 0 0).toNat=x%256:=by rw [leF_get _ _ _ (by decide),UInt8.toNat_ofNat',Nat.pow_zero,Nat.div_one]
 have e:(((leF x 32).getD 0 0).toNat:Int)*128%256=((x%2:Nat):Int)*128:=by
  rw [h0]
  omega
 rw [e,or_bit7 _ _ t1 (by omega),UInt8.toNat_ofNat']
 omega
set_option maxHeartbeats 8000000 in
theorem ptBytes_any (p:PtN) (w:World) (hp:p.Ok) (hT:PrmQ w) :
  Calls Tryz.prog 47 #[.agg (uc (ptL p))] w fun e w'=>e=.returned (.string (txtP p))∧Below w.heap.size w w':=by
 have l_i:invF p.z<pF:=qaU _ _
 have C_n:=hid (fun (W:World) (hW:PrmQ W)=>qfL p W hp hW)
 have C_i:=hid (fun (W:World) (hW:PrmQ W)=>invF_any p.z W hp.2.2.1)
 have C_xa:=hid (fun (W:World) (hW:PrmQ W)=>qaN p.x (invF p.z) W hp.1 l_i)
 have C_ya:=hid (fun (W:World) (hW:PrmQ W)=>qaN p.y (invF p.z) W hp.2.1 l_i)
 have hyl:mulF p.y (invF p.z)<57896044618658097711785492504343953926634992332820282019728792003956564819968:=Nat.lt_trans (qaM _ _) (by decide)
 have HT2:Hid (txtP p=⟨(leF (mulF p.y (invF p.z)+mulF p.x (invF p.z)%2*57896044618658097711785492504343953926634992332820282019728792003956564819968) 32).toArray⟩):=hid rfl;have hn:numL p=row4 p.x p.y p.z p.t:=rfl;rw [hn] at C_n;clear hn hp l_i;generalize invF p.z=i at *
 skip
 have Lp:=hid (qaz p);generalize ptL p=pl at *;generalize txtP p=tp at *;obtain ⟨a,b,c,d⟩:=p
 dsimp only at C_n C_i C_xa C_ya hyl HT2
 generalize mulF a i=xa at *;generalize mulF b i=ya at *
 have C_xb:=hid (fun (W:World)=>qeR xa W)
 have C_yb:=hid (fun (W:World)=>qeR ya W)
 obtain ⟨_,ht2⟩:=leF_top ya (xa%2) hyl (by omega)
 have hto:=top_or xa ya hyl;rw [← ht2] at HT2;clear ht2 hyl;have hlx:(leF xa 32).length=32:=qa2 _ _;have hly:(leF ya 32).length=32:=qa2 _ _
 have hb0:=byte_told (⟨(leF xa 32).toArray⟩:ByteArray) 0 _ rfl (by show 0<(leF xa 32).toArray.size;simp [hlx])
 have hsx:(⟨(leF xa 32).toArray⟩:ByteArray).size=32:=by show (leF xa 32).toArray.size=32;simp [hlx]
 have hsy:(⟨(leF ya 32).toArray⟩:ByteArray).size=32:=by show (leF ya 32).toArray.size=32;simp [hly]
 have hdx:(⟨(leF xa 32).toArray⟩:ByteArray).data.toList=leF xa 32:=rfl;have hdy:(⟨(leF ya 32).toArray⟩:ByteArray).data.toList=leF ya 32:=rfl;rw [hdx] at hb0;generalize (⟨(leF xa 32).toArray⟩:ByteArray)=tx at *;generalize (⟨(leF ya 32).toArray⟩:ByteArray)=ty at *;generalize leF ya 32=ly at *;generalize ((leF xa 32).getD 0 0).toNat=x0 at *;clear hdx hlx;have HSY:=hid hsy;have HDY:=hid hdy;have HLY:=hid hly;have HTO:=hid hto;have HB0:=hid hb0;have HSX:=hid hsx;clear hsy hdy hly hto hb0 hsx;obtain ⟨hz,hi⟩:=zero_of_info qbO;obtain ⟨hzn,hin⟩:=zero_of_info qda;obtain ⟨hzp,hip⟩:=zero_of_info qcp;have hb:=qah w (.cells (uc pl) 63);have HP:=hid (hT.step hb);have HQ:=hid (qag w (.cells (uc pl) 63));clear hi hin hip hT
 go_enter Tryz.func47,Tryz.ntmps47
 go_wp2_with (with_reducible refine wpList_load_row rfl 63 _ rfl w.heap.size rfl 63 _ (0,0) _ HQ.out Tryz.underlying63 rfl (qbj _ Lp.out) ?_)
 generalize (w.alloc _)=W0 at *;have hB:=hid hb.size;generalize hBB:w.heap.size=B at *;have HBB:=hid hBB;clear hBB
 refine (C_n.out W0 HP.out).mono ?_
 rintro e W1 ⟨rfl,bk⟩;replace hb:=hb.trans (bk.mono hB.out);replace HP:=hid (HP.out.step bk);replace hB:=hid (Nat.le_trans hB.out bk.size);replace HQ:=hid (qaa bk (qab HQ.out) HQ.out);clear bk;have HN:=hid (qag W1 (.cells zrow4 103));have bn:=qah W1 (.cells zrow4 103);have q_g3:=hid (setRow_heap _ W1.heap.size _ (uc (row4 a b c d)) _ _ HN.out)
 go_wp2_with (first | (with_reducible refine wpList_store_row rfl 103 _ _ rfl W1.heap.size (uc (row4 a b c d)) rfl rfl 103 _ HN.out (qcq _ (qa4 _ _ _ _)) (qa3 _ (qa4 _ _ _ _)) (qar _) ?_) | (with_reducible refine wpList_load_in4 rfl _ rfl W1.heap.size 8 rfl 103 _ _ (0,0) q_g3.out (qad _ _) (qeJ _ _ _ _) ?_))
 have bk:=below_setRow bn (Nat.le_refl _) (uc (row4 a b c d));have b_g3:=hid hB.out;replace hb:=hb.trans (bk.mono hB.out);replace HP:=hid (HP.out.step bk);replace hB:=hid (Nat.le_trans hB.out bk.size);replace HQ:=hid (qaa bk (qab HQ.out) HQ.out);clear bk;have H_g3:=q_g3;generalize (World.setRow (World.alloc _ _) _ _)=W2 at *;generalize W1.heap.size=g3 at *;clear bn HN q_g3
 try simp only [Act.put]
 refine (C_i.out W2 HP.out).mono ?_
 rintro e W3 ⟨rfl,bk⟩;replace hb:=hb.trans (bk.mono hB.out);replace HP:=hid (HP.out.step bk);replace hB:=hid (Nat.le_trans hB.out bk.size);replace HQ:=hid (qaa bk (qab HQ.out) HQ.out);replace H_g3:=hid (qaa bk (qab H_g3.out) H_g3.out);clear bk;have HN:=hid (qag W3 (.cells zeros4 61));have bn:=qah W3 (.cells zeros4 61);have q_g4:=hid (setRow_heap _ W3.heap.size _ (uc (limN 4 i)) _ _ HN.out)
 go_wp2_with (first | (with_reducible refine wpList_store_row rfl 61 _ _ rfl W3.heap.size (uc (limN 4 i)) rfl rfl 61 _ HN.out (qak _) (qaq _) (qar _) ?_))
 have bk:=below_setRow bn (Nat.le_refl _) (uc (limN 4 i));have b_g4:=hid hB.out;replace hb:=hb.trans (bk.mono hB.out);replace HP:=hid (HP.out.step bk);replace hB:=hid (Nat.le_trans hB.out bk.size);replace HQ:=hid (qaa bk (qab HQ.out) HQ.out);replace H_g3:=hid (qaa bk (qab H_g3.out) H_g3.out);clear bk;have H_g4:=q_g4;generalize (World.setRow (World.alloc _ _) _ _)=W4 at *;generalize W3.heap.size=g4 at *;clear bn HN q_g4
 try simp only [Act.put]
 refine qaC 12 33 [(Told.val (.pointer (some ⟨g3,0,none⟩)),[3]),
  (Told.val (.agg (uc (limN 4 a))),[12]),
  (Told.val (.agg (uc (limN 4 i))),[4]),
  (Told.val (.agg (uc (limN 4 xa))),[13,14]),
  (Told.val (.string tx),[15]),
  (Told.val (.pointer (some ⟨g3,4,none⟩)),[3]),
  (Told.val (.agg (uc (limN 4 b))),[17]),
  (Told.val (.agg (uc (limN 4 i))),[4]),
  (Told.val (.agg (uc (limN 4 ya))),[18,19]),
  (Told.val (.string ty),[20]),
  (tBytes W4.heap.size 32 ly,[21]),
  (Told.val (.string tx),[16])]
  (by kernel_rfl) (by kernel_rfl) rfl ?_ ?_
 ·simp only [take_succ_cons,List.take_zero,qaW,and_true]
  refine ⟨?_,?_,?_,?_,?_,?_,?_,?_,?_,?_,?_,?_⟩
  ·intro act w hb h
   have e0:act.tmps.getD 3 undef=.pointer (some ⟨g3,0,none⟩):=h 3 (by simp)
   simp only [getD_eq_getD_getElem?] at e0
   refine qbo ?_
   simp [go_sem,e0,qac]
  ·intro act w hb h
   have e0:act.tmps.getD 12 undef=.pointer (some ⟨g3,0,none⟩):=h 12 (by simp)
   exact qbo (qas (.tmp 12) rfl (g3) 0 e0 103 _ _ (0,0) (qaa hb (qab H_g3.out) H_g3.out) (qad _ _) (qd9 _ _ _ _))
  ·intro act w hb h
   have e0:act.tmps.getD 4 undef=.pointer (some ⟨g4,0,none⟩):=h 4 (by simp)
   exact qbo (qae 61 (.tmp 4) rfl (g4) e0 61 _ (0,0) _ (qaa hb (qab H_g4.out) H_g4.out) Tryz.underlying61 rfl (qak _))
  ·intro act w hb h
   have e0:act.tmps.getD 13 undef=.agg (uc (limN 4 a)):=h 13 (by simp)
   have e1:act.tmps.getD 14 undef=.agg (uc (limN 4 i)):=h 14 (by simp)
   simp only [getD_eq_getD_getElem?] at e0 e1
   refine qbo ?_
   simp [go_sem,e0,e1,qac]
   exact C_xa.out w (HP.out.step hb)
  ·intro act w hb h
   have e0:act.tmps.getD 15 undef=.agg (uc (limN 4 xa)):=h 15 (by simp)
   simp only [getD_eq_getD_getElem?] at e0
   refine qbo ?_
   simp [go_sem,e0,qac]
   exact C_xb.out w
  ·intro act w hb h
   have e0:act.tmps.getD 3 undef=.pointer (some ⟨g3,0,none⟩):=h 3 (by simp)
   simp only [getD_eq_getD_getElem?] at e0
   refine qbo ?_
   simp [go_sem,e0,qac]
  ·intro act w hb h
   have e0:act.tmps.getD 17 undef=.pointer (some ⟨g3,4,none⟩):=h 17 (by simp)
   exact qbo (qas (.tmp 17) rfl (g3) 4 e0 103 _ _ (0,0) (qaa hb (qab H_g3.out) H_g3.out) (qad _ _) (qea _ _ _ _))
  ·intro act w hb h
   have e0:act.tmps.getD 4 undef=.pointer (some ⟨g4,0,none⟩):=h 4 (by simp)
   exact qbo (qae 61 (.tmp 4) rfl (g4) e0 61 _ (0,0) _ (qaa hb (qab H_g4.out) H_g4.out) Tryz.underlying61 rfl (qak _))
  ·intro act w hb h
   have e0:act.tmps.getD 18 undef=.agg (uc (limN 4 b)):=h 18 (by simp)
   have e1:act.tmps.getD 19 undef=.agg (uc (limN 4 i)):=h 19 (by simp)
   simp only [getD_eq_getD_getElem?] at e0 e1
   refine qbo ?_
   simp [go_sem,e0,e1,qac]
   exact C_ya.out w (HP.out.step hb)
  ·intro act w hb h
   have e0:act.tmps.getD 20 undef=.agg (uc (limN 4 ya)):=h 20 (by simp)
   simp only [getD_eq_getD_getElem?] at e0
   refine qbo ?_
   simp [go_sem,e0,qac]
   exact C_yb.out w
  ·intro act w hb h
   have e0:act.tmps.getD 21 undef=.string ty:=h 21 (by simp)
   simp only [getD_eq_getD_getElem?] at e0
   obtain ⟨cap,hcv,hown,hbo⟩:=qdU ty w;rw [HSY.out] at hcv;rw [HDY.out] at hown
   simp [go_sem,e0,qan,hcv]
   exact ⟨hbo,_,_,rfl,⟨hb.size,hown.le,hown.cells,hown.room⟩⟩
  ·intro act w hb h
   have e0:act.tmps.getD 16 undef=.string tx:=h 16 (by simp)
   simp only [getD_eq_getD_getElem?] at e0
   refine qbo ?_
   simp [go_sem,e0,qac]
 ·simp only [take_succ_cons,List.take_zero,drop_succ_cons,List.drop_zero,qaX,Act.put,setIfInBounds_toArray,set_cons_succ,set_cons_zero]
  rintro X bk v12 q12 v13 q13 v14 q14 v15 q15 v16 q16 v17 q17 v18 q18 v19 q19 v20 q20 v21 q21 v22 ⟨g,cap,q22,how⟩ v5 q5;obtain rfl:=q12.symm;obtain rfl:=q13.symm;obtain rfl:=q14.symm;obtain rfl:=q15.symm;obtain rfl:=q16.symm;obtain rfl:=q17.symm;obtain rfl:=q18.symm;obtain rfl:=q19.symm;obtain rfl:=q20.symm;obtain rfl:=q21.symm;obtain rfl:=q22.symm;obtain rfl:=q5.symm;replace hb:=hb.trans (bk.mono hB.out);have hBg:B≤g:=Nat.le_trans hB.out how.base;clear bk HP H_g3 H_g4 HQ C_n C_i C_xa C_ya C_xb C_yb hB
  go_wp2_with fail
  obtain ⟨c31,f31⟩:=qca how 31 (by rw [HLY.out];decide)
  have ka:=cell_regrown c31
  have hi31:(31:Int)<(32:Int):=by omega
  have hb0:=HB0.out;have hsx:=HSX.out
  have hl0:0<tx.size:=by omega
  have hi0:(0:Int)<(tx.size:Int):=by omega
  generalize ly.getD 31 0=b31 at *
  refine qap 7 (by kernel_rfl) (by kernel_rfl) ?_
  simp only [take_succ_cons,List.take_zero,drop_succ_cons,List.drop_zero]
  repeat (first | go_big_quiet_step (fail) | quiet_step (fail))
  refine wpQuiet_nil ?_
  intro X1 hb1;have how1:=how.stays hb1
  replace hb:=hb.trans (hb1.mono (Nat.le_trans (by omega) (Nat.le_of_lt (block_lt_of_cell c31))))
  obtain ⟨c1,f1⟩:=qca how1 31 (by rw [HLY.out];decide)
  have how2:=qbX how1 31 (by rw [HLY.out];decide) (UInt8.ofNat (b31.toNat+128*(xa%2)))
  have ht:=qcm how2 (n:=32) (by rw [List.length_set];exact HLY.out) cap
  have hb2:=hb.setCell (p:=⟨g,31,none⟩) hBg (.int .u8 ((UInt8.ofNat (b31.toNat+128*(xa%2))).toNat:Int));rw [← HT2.out] at ht;have hto:=HTO.out;clear HTO HT2;generalize UInt8.ofNat (b31.toNat+128*(xa%2))=cb at *;clear hb hb1 how how1 how2 ka c31 f31
  go_wp2_with fail
  go_ret
  exact ⟨rfl,by rw [HBB.out];exact hb2⟩
end
section
open Go.RowKit Go.Sort
theorem qfz {ops:Array Oper} {rest:List Oper} {o:Oper} {a:Act} {w:World} {Q:Exit→Act→World→Prop} (hw:Region.wanted o (yielded ops a.tmps)=true) (x y:Operand) (ho:o.op=.binOp .eql 61 x y 61) (l m:List Nat) (b:Bool)
  (hl:l.length=4) (hm:m.length=4) (hx:a.eval x=.agg (uc l)) (hy:a.eval y=.agg (uc m)) (hb:decide (l=m)=b)
  (h:wpList Tryz.prog ops Q rest (a.put o.dst (.bool b)) w):wpList Tryz.prog ops Q (o :: rest) a w:=
 BigFrame.wpList_want hw fun _ hK=>by
  have e1:(eqGuard .eql 61 x y (.agg (uc l)) (.agg (uc m))).run Tryz.prog w=.ok () w:=run_eqGuard_agg w .eql 61 x y _ _ (by kernel_rfl)
  have e2:(binOp .eql 61 (.agg (uc l)) (.agg (uc m))).run Tryz.prog w=.ok (.bool b) w:=by
   rw [run_eql_struct,num_eq l m hl hm]
   simp only [Result.andThen_ok,hb]
  unfold Oper.wp execOp
  simp only [ho,hx,hy,Sem.run_bind,e1,e2,Result.andThen_ok]
  exact hK _ _ h
theorem qff {ops:Array Oper} {rest:List Oper} {o:Oper} {a:Act} {w:World} {Q:Exit→Act→World→Prop} (hw:Region.wanted o (yielded ops a.tmps)=true) (ho:o.op=.build 61 #[])
  (h:wpList Tryz.prog ops Q rest (a.put o.dst (.agg (uc (limN 4 0)))) w):wpList Tryz.prog ops Q (o :: rest) a w:=
 BigFrame.wpList_want hw fun _ hK=>qdJ 61 #[] ho _ (by rw [Array.map_empty,← qeQ];exact build_zero w) (hK _ _ h)
set_option maxHeartbeats 2000000 in
theorem ptOfBad_any (s:ByteArray) (w:World) (h:s.size≠32) :
  Calls Tryz.prog 72 #[.string s] w fun e w'=>e=.returned (.tuple #[.agg (uc (ptL zeroP)),.int .i64 1])∧Below w.heap.size w w':=by
 obtain ⟨hzp,hip⟩:=zero_of_info qcp
 have d1:((s.size:Int) != 32)=true:=by simp;omega
 have HR0:=hid (qag w (.cells zrow4 63));have hb0:=qah w (.cells zrow4 63);have CZ:=hid qeT;clear hip h
 go_enter Tryz.func72,Tryz.ntmps72
 go_wp2_with fail
 clear hzp;generalize (w.alloc _)=W0 at *;have hB:=hb0.size;generalize hBB:w.heap.size=B at *
 refine (CZ.out W0).mono ?_
 rintro e W1 ⟨rfl,bk⟩;have HR:=hid (qaa bk (qab HR0.out) HR0.out);have hb1:=hb0.trans (bk.mono hB);clear HR0 hb0 bk
 go_wp2_with (with_reducible refine wpList_store_row rfl 63 _ _ rfl B (uc (ptL zeroP)) rfl rfl 63 _ HR.out (qbj _ (qaz _)) (qa3 _ (qaz _)) (qar _) ?_)
 exact bodyPost_ret (qax (by rfl) _ _ B 63 _ (0,0) _ rfl (setRow_heap _ _ _ _ _ _ HR.out) Tryz.underlying63 rfl (qbj _ (qaz _))) rfl ⟨rfl,by rw [hBB];exact below_setRow hb1 (Nat.le_refl _) _⟩
def ansP (least:Bool) (y r:Nat) (is neg:Bool):PtN:=if least&&is&&!(neg&&decide (r=0)) then ⟨if neg then subF 0 r else r,y,1,mulF (if neg then subF 0 r else r) y⟩ else zeroP
def ansE (least:Bool) (r:Nat) (is neg:Bool):Int:=if least&&is&&!(neg&&decide (r=0)) then 0 else 21
set_option maxHeartbeats 16000000 in
theorem ptOfL_any (s:ByteArray) (least is neg:Bool) (y r t:Nat) (w:World) (hs:s.size=32) (l_y:y<pF) (l_r:r<pF) (hT:PrmQ w) (hneg:((t:Int)==1)=neg)
  (C_h0:∀ W:World,Calls Tryz.prog 127 #[.string s] W fun e w'=>e=.returned (.tuple #[.agg (uc (limN 4 y)),.bool least])∧Below W.heap.size W w')
  (C_r0:∀ W:World,PrmQ W→Calls Tryz.prog 128 #[.agg (uc (limN 4 y))] W fun e w'=>e=.returned (.tuple #[.agg (uc (limN 4 r)),.bool is])∧Below W.heap.size W w')
  (C_b0:∀ W:World,Calls Tryz.prog 129 #[.string s,.int .i64 255] W fun e w'=>e=.returned (.int .i64 (t:Int))∧Below W.heap.size W w') :
  Calls Tryz.prog 72 #[.string s] w fun e w'=>e=.returned (.tuple #[.agg (uc (ptL (ansP least y r is neg))),.int .i64 (ansE least r is neg)])∧Below w.heap.size w w':=by
 have d1:((s.size:Int) != 32)=false:=by simp;omega
 have HT:=hid hT;have hTl:=hid hT.lt;have C_h:=hid C_h0;have C_r:=hid C_r0;have C_b:=hid C_b0;have CZ:=hid qeT
 have C_1:Hid (∀ W:World,Calls Tryz.prog 131 #[.int .i64 1] W fun e w'=>e=.returned (.agg (uc (limN 4 1)))∧Below W.heap.size W w'):=hid (fun W=>qb1 1 W (by decide))
 have CSUB:=hid (fun (W:World) (hW:PrmQ W)=>qcO 0 r W (by decide) l_r hW)
 have l_n:subF 0 r<pF:=qby _ _
 have CMUL:=hid (fun (x:Nat) (hx:x<pF) (W:World)=>qaN x y W hx l_y)
 have CPT:Hid (∀ x:Nat,x<pF→∀ W:World,PrmQ W→Calls Tryz.prog 132 #[.agg (uc (row4 x y 1 (mulF x y)))] W fun e w'=>e=.returned (.agg (uc (ptL ⟨x,y,1,mulF x y⟩)))∧Below W.heap.size W w'):=hid (fun x hx W hW=>point_any ⟨x,y,1,mulF x y⟩ W ⟨hx,l_y,(by decide:1<pF),qaM _ _⟩ hW)
 have HAP:Hid (∀ l i n:Bool,ansP l y r i n=if l&&i&&!(n&&decide (r=0)) then ⟨if n then subF 0 r else r,y,1,mulF (if n then subF 0 r else r) y⟩ else zeroP):=hid (fun _ _ _=>rfl)
 have HAE:Hid (∀ l i n:Bool,ansE l r i n=if l&&i&&!(n&&decide (r=0)) then 0 else 21):=hid (fun _ _ _=>rfl)
 have HSM:=hid (lim_same r 0 l_r qc8);have L_r:=hid (qad 4 r);have L_0:=hid (qad 4 0);have HLR:=hid l_r;have HLN:=hid l_n;clear C_h0 C_r0 C_b0 l_y l_r l_n hs;obtain ⟨hz,hi⟩:=zero_of_info qbO;obtain ⟨hzn,hin⟩:=zero_of_info qda;obtain ⟨hzp,hip⟩:=zero_of_info qcp;have hb:=qah w (.cells zrow4 63);have HP:=hid (hT.step hb);have HR:=hid (qag w (.cells zrow4 63));clear hi hin hip hT
 go_enter Tryz.func72,Tryz.ntmps72
 go_wp2_with fail
 try clear hzn
 try clear hzp
 generalize (w.alloc _)=W0 at *;have hB:=hid hb.size;generalize hBB:w.heap.size=B at *;have HBB:=hid hBB;clear hBB
 refine (C_h.out W0).mono ?_
 rintro e W1 ⟨rfl,bk⟩;replace hb:=hb.trans (bk.mono hB.out);replace HP:=hid (HP.out.step bk);replace hB:=hid (Nat.le_trans hB.out bk.size);replace HR:=hid (qaa bk (qab HR.out) HR.out);clear bk;have r_g4_HR:=hid (qab HR.out);have HN:=hid (qag W1 (.cells zeros4 61));have bn:=qah W1 (.cells zeros4 61);have q_g4:=hid (setRow_heap _ W1.heap.size _ (uc (limN 4 y)) _ _ HN.out)
 go_wp2_with (first | (with_reducible refine wpList_store_row rfl 61 _ _ rfl W1.heap.size (uc (limN 4 y)) rfl rfl 61 _ HN.out (qak _) (qaq _) (qar _) ?_) | (with_reducible refine wpList_load_row rfl 61 _ rfl (W1.heap.size) rfl 61 _ (0,0) _ q_g4.out Tryz.underlying61 rfl (qak _) ?_))
 have bk:=below_setRow bn (Nat.le_refl _) (uc (limN 4 y));have b_g4:=hid hB.out;replace hb:=hb.trans (bk.mono hB.out);replace HP:=hid (HP.out.step bk);replace hB:=hid (Nat.le_trans hB.out bk.size);replace HR:=hid (qaa bk (qab HR.out) HR.out);clear bk;have H_g4:=q_g4;generalize (World.setRow (World.alloc _ _) _ _)=W2 at *;generalize W1.heap.size=g4 at *;clear bn HN q_g4
 try simp only [Act.put]
 refine (C_r.out W2 HP.out).mono ?_
 rintro e W3 ⟨rfl,bk⟩;replace hb:=hb.trans (bk.mono hB.out);replace HP:=hid (HP.out.step bk);replace hB:=hid (Nat.le_trans hB.out bk.size);replace HR:=hid (qaa bk (qab HR.out) HR.out);replace H_g4:=hid (qaa bk (qab H_g4.out) H_g4.out);clear bk;have r_g6_HR:=hid (qab HR.out);have r_g6_H_g4:=hid (qab H_g4.out);have HN:=hid (qag W3 (.cells zeros4 61));have bn:=qah W3 (.cells zeros4 61);have q_g6:=hid (setRow_heap _ W3.heap.size _ (uc (limN 4 r)) _ _ HN.out)
 go_wp2_with (first | (with_reducible refine wpList_store_row rfl 61 _ _ rfl W3.heap.size (uc (limN 4 r)) rfl rfl 61 _ HN.out (qak _) (qaq _) (qar _) ?_))
 have bk:=below_setRow bn (Nat.le_refl _) (uc (limN 4 r));have b_g6:=hid hB.out;replace hb:=hb.trans (bk.mono hB.out);replace HP:=hid (HP.out.step bk);replace hB:=hid (Nat.le_trans hB.out bk.size);replace HR:=hid (qaa bk (qab HR.out) HR.out);replace H_g4:=hid (qaa bk (qab H_g4.out) H_g4.out);clear bk;have H_g6:=q_g6;generalize (World.setRow (World.alloc _ _) _ _)=W4 at *;generalize W3.heap.size=g6 at *;clear bn HN q_g6
 try simp only [Act.put]
 refine (C_b.out W4).mono ?_
 rintro e W5 ⟨rfl,bk⟩;replace hb:=hb.trans (bk.mono hB.out);replace HP:=hid (HP.out.step bk);replace hB:=hid (Nat.le_trans hB.out bk.size);replace HR:=hid (qaa bk (qab HR.out) HR.out);replace H_g4:=hid (qaa bk (qab H_g4.out) H_g4.out);replace H_g6:=hid (qaa bk (qab H_g6.out) H_g6.out);clear bk;clear C_h C_r C_b
 cases least with
 | false=>
  go_wp2_with fail
  refine (CZ.out _).mono ?_
  rintro e X ⟨rfl,bk⟩;replace hb:=hb.trans (bk.mono hB.out);replace HR:=hid (qaa bk (qab HR.out) HR.out)
  go_wp2_with (with_reducible refine wpList_store_row rfl 63 _ _ rfl B (uc (ptL zeroP)) rfl rfl 63 _ HR.out (qbj _ (qaz _)) (qa3 _ (qaz _)) (qar _) ?_)
  exact bodyPost_ret (qax (by rfl) _ _ B 63 _ (0,0) _ rfl (setRow_heap _ _ _ _ _ _ HR.out) Tryz.underlying63 rfl (qbj _ (qaz _))) rfl ⟨by rw [HAP.out,HAE.out];rfl,by rw [HBB.out];exact below_setRow hb (Nat.le_refl _) _⟩
 | true=>
  cases is with
  | false=>
   go_wp2_with fail
   refine (CZ.out _).mono ?_
   rintro e X ⟨rfl,bk⟩;replace hb:=hb.trans (bk.mono hB.out);replace HR:=hid (qaa bk (qab HR.out) HR.out)
   go_wp2_with (with_reducible refine wpList_store_row rfl 63 _ _ rfl B (uc (ptL zeroP)) rfl rfl 63 _ HR.out (qbj _ (qaz _)) (qa3 _ (qaz _)) (qar _) ?_)
   exact bodyPost_ret (qax (by rfl) _ _ B 63 _ (0,0) _ rfl (setRow_heap _ _ _ _ _ _ HR.out) Tryz.underlying63 rfl (qbj _ (qaz _))) rfl ⟨by rw [HAP.out,HAE.out];rfl,by rw [HBB.out];exact below_setRow hb (Nat.le_refl _) _⟩
  | true=>
   cases hnn:neg with
   | false=>
    subst hnn;have C_xy:=hid (CMUL.out _ HLR.out);have C_p:=hid (CPT.out _ HLR.out)
    have HANS:Hid (ptL (ansP true y r true false)=ptL ⟨r,y,1,mulF (r) y⟩∧ansE true r true false=0):=hid (by rw [HAP.out,HAE.out];exact ⟨rfl,rfl⟩)
    generalize hpl:ptL ⟨r,y,1,mulF (r) y⟩=pl at *
    have Lp:Hid (pl.length=16):=hid (by rw [← hpl];exact qaz _)
    clear hpl;generalize mulF (r) y=xy at *
    go_wp2_with fail
    refine qam 8 53 [.val (.agg (uc (limN 4 r))) [(6,.pointer (some ⟨g6,0,none⟩))],
   .val (.agg (uc (limN 4 y))) [(4,.pointer (some ⟨g4,0,none⟩))],
   .val (.agg (uc (limN 4 1))) [],
   .val (.agg (uc (limN 4 r))) [(6,.pointer (some ⟨g6,0,none⟩))],
   .val (.agg (uc (limN 4 y))) [(4,.pointer (some ⟨g4,0,none⟩))],
   .val (.agg (uc (limN 4 xy))) [(48,.agg (uc (limN 4 r))),(49,.agg (uc (limN 4 y)))],
   .val (.agg (uc (row4 r y 1 xy))) [(45,.agg (uc (limN 4 r))),(46,.agg (uc (limN 4 y))),(47,.agg (uc (limN 4 1))),(50,.agg (uc (limN 4 xy)))],
   .val (.agg (uc pl)) [(51,.agg (uc (row4 r y 1 xy)))]] (by kernel_rfl) (by kernel_rfl) rfl ?_ ?_ ?_
    ·simp only [take_succ_cons,List.take_zero,qaL,qaK,HeadSpec.val,HeadSpec.fresh,and_true]
     refine ⟨?_,?_,?_,?_,?_,?_,?_,?_⟩
     ·intro act w hb h
      have e0:=h (6,.pointer (some ⟨g6,0,none⟩)) (by simp)
      exact qae 61 (.tmp 6) rfl (g6) e0 61 _ (0,0) _ (qaa hb (qab H_g6.out) H_g6.out) Tryz.underlying61 rfl (qak _)
     ·intro act w hb h
      have e0:=h (4,.pointer (some ⟨g4,0,none⟩)) (by simp)
      exact qae 61 (.tmp 4) rfl (g4) e0 61 _ (0,0) _ (qaa hb (qab H_g4.out) H_g4.out) Tryz.underlying61 rfl (qak _)
     ·intro act w hb h
      simp [go_sem,qac]
      exact C_1.out w
     ·intro act w hb h
      have e0:=h (6,.pointer (some ⟨g6,0,none⟩)) (by simp)
      exact qae 61 (.tmp 6) rfl (g6) e0 61 _ (0,0) _ (qaa hb (qab H_g6.out) H_g6.out) Tryz.underlying61 rfl (qak _)
     ·intro act w hb h
      have e0:=h (4,.pointer (some ⟨g4,0,none⟩)) (by simp)
      exact qae 61 (.tmp 4) rfl (g4) e0 61 _ (0,0) _ (qaa hb (qab H_g4.out) H_g4.out) Tryz.underlying61 rfl (qak _)
     ·intro act w hb h
      have e0:=h (48,.agg (uc (limN 4 r))) (by simp)
      have e1:=h (49,.agg (uc (limN 4 y))) (by simp)
      simp only [getD_eq_getD_getElem?] at e0 e1
      simp [go_sem,e0,e1,qac]
      exact C_xy.out w
     ·intro act w hb h
      have e0:=h (45,.agg (uc (limN 4 r))) (by simp)
      have e1:=h (46,.agg (uc (limN 4 y))) (by simp)
      have e2:=h (47,.agg (uc (limN 4 1))) (by simp)
      have e3:=h (50,.agg (uc (limN 4 xy))) (by simp)
      exact qcL (.tmp 45) (.tmp 46) (.tmp 47) (.tmp 50) rfl _ _ _ _ e0 e1 e2 e3
     ·intro act w hb h
      have e0:=h (51,.agg (uc (row4 r y 1 xy))) (by simp)
      simp only [getD_eq_getD_getElem?] at e0
      simp [go_sem,e0,qac]
      exact C_p.out w (HP.out.step hb)
    ·simp [qau,qav,qaJ,HeadSpec.val,HeadSpec.fresh,Act.put]
    ·simp only [take_succ_cons,List.take_zero,drop_succ_cons,List.drop_zero,qaH,HeadSpec.val,HeadSpec.fresh,Act.put,setIfInBounds_toArray,set_cons_succ,set_cons_zero]
     intro v1 hv1 hgs;have HN:=hid (qaa hv1 (qab HR.out) HR.out);have HNN:=hid (setRow_heap v1 B _ (uc pl) _ _ HN.out);have hb2:Below B w (v1.setRow B (uc pl)):=below_setRow (hb.trans (hv1.mono hB.out)) (Nat.le_refl _) _;clear hgs hv1 hb
     go_wp2_with (with_reducible refine wpList_store_row rfl 63 _ _ rfl B (uc pl) rfl rfl 63 _ HN.out (qbj _ Lp.out) (qa3 _ Lp.out) (qar _) ?_)
     exact bodyPost_ret (qax (by rfl) _ _ B 63 _ (0,0) _ rfl HNN.out Tryz.underlying63 rfl (qbj _ Lp.out)) rfl ⟨by rw [HANS.out.1,HANS.out.2];rfl,by rw [HBB.out];exact hb2⟩
   | true=>
    subst hnn
    by_cases h0:r=0
    ·have HBE:Hid (decide (limN 4 r=limN 4 0)=true):=hid (by rw [HSM.out];simp [h0])
     go_wp2_with (first | ((with_reducible refine qe0 ?hw 61 _ rfl g6 rfl 61 _ (0,0) _ H_g6.out Tryz.underlying61 rfl (qak _) ?_);(case hw=>rfl)) | ((with_reducible refine qff ?hw rfl ?_);(case hw=>rfl)) | ((with_reducible refine qfz ?hw _ _ rfl (limN 4 r) (limN 4 0) true L_r.out L_0.out rfl rfl HBE.out ?_);(case hw=>rfl)))
     refine (CZ.out _).mono ?_
     rintro e X ⟨rfl,bk⟩;replace hb:=hb.trans (bk.mono hB.out);replace HR:=hid (qaa bk (qab HR.out) HR.out)
     go_wp2_with (with_reducible refine wpList_store_row rfl 63 _ _ rfl B (uc (ptL zeroP)) rfl rfl 63 _ HR.out (qbj _ (qaz _)) (qa3 _ (qaz _)) (qar _) ?_)
     exact bodyPost_ret (qax (by rfl) _ _ B 63 _ (0,0) _ rfl (setRow_heap _ _ _ _ _ _ HR.out) Tryz.underlying63 rfl (qbj _ (qaz _))) rfl ⟨by rw [HAP.out,HAE.out];simp [h0],by rw [HBB.out];exact below_setRow hb (Nat.le_refl _) _⟩
    ·have HBE:Hid (decide (limN 4 r=limN 4 0)=false):=hid (by rw [HSM.out];simp [h0])
     go_wp2_with (first | ((with_reducible refine qe0 ?hw 61 _ rfl g6 rfl 61 _ (0,0) _ H_g6.out Tryz.underlying61 rfl (qak _) ?_);(case hw=>rfl)) | ((with_reducible refine qff ?hw rfl ?_);(case hw=>rfl)) | ((with_reducible refine qfz ?hw _ _ rfl (limN 4 r) (limN 4 0) false L_r.out L_0.out rfl rfl HBE.out ?_);(case hw=>rfl)) | (with_reducible refine qeG rfl rfl ?_) | (with_reducible refine wpList_load_row rfl 61 _ rfl (g6) rfl 61 _ (0,0) _ H_g6.out Tryz.underlying61 rfl (qak _) ?_))
     refine (CSUB.out _ HP.out).mono ?_
     rintro e X ⟨rfl,bk⟩;replace hb:=hb.trans (bk.mono hB.out);replace HP:=hid (HP.out.step bk);replace hB:=hid (Nat.le_trans hB.out bk.size);replace HR:=hid (qaa bk (qab HR.out) HR.out);replace H_g4:=hid (qaa bk (qab H_g4.out) H_g4.out);replace H_g6:=hid (qaa bk (qab H_g6.out) H_g6.out);clear bk;have k6:=hid (setRow_heap X g6 _ (uc (limN 4 (subF 0 r))) _ _ H_g6.out)
     have k4:=hid ((setRow_other X g6 g4 (uc (limN 4 (subF 0 r))) (by have:=r_g6_H_g4.out;omega)).trans H_g4.out)
     have kR:=hid ((setRow_other X g6 B (uc (limN 4 (subF 0 r))) (by have:=r_g6_HR.out;omega)).trans HR.out)
     have kb:Below B w (X.setRow g6 (uc (limN 4 (subF 0 r)))):=below_setRow hb b_g6.out _;have kP:Hid (PrmQ (X.setRow g6 (uc (limN 4 (subF 0 r))))):=hid (HT.out.below kb hTl.out);have kB:Hid (B≤(X.setRow g6 (uc (limN 4 (subF 0 r)))).heap.size):=hid (Nat.le_of_lt (qab kR.out));clear H_g4 HR hb hB HP
     go_wp2_with (with_reducible refine wpList_store_row rfl 61 _ _ rfl g6 (uc (limN 4 (subF 0 r))) rfl rfl 61 _ H_g6.out (qak _) (by rw [qaY,qaY,qad,qad]) (qar _) ?_)
     clear H_g6;generalize (World.setRow _ _ _)=X2 at *;have H_g4:=k4;have H_g6:=k6;have HR:=kR;have hb:=kb;have HP:=kP;have hB:=kB;clear k4 k6 kR kb kP kB;have C_xy:=hid (CMUL.out _ HLN.out);have C_p:=hid (CPT.out _ HLN.out)
     have HANS:Hid (ptL (ansP true y r true true)=ptL ⟨subF 0 r,y,1,mulF (subF 0 r) y⟩∧ansE true r true true=0):=hid (by rw [HAP.out,HAE.out];rw [show decide (r=0)=false by simp [h0]];exact ⟨rfl,rfl⟩)
     generalize hpl:ptL ⟨subF 0 r,y,1,mulF (subF 0 r) y⟩=pl at *
     have Lp:Hid (pl.length=16):=hid (by rw [← hpl];exact qaz _)
     clear hpl;generalize mulF (subF 0 r) y=xy at *;generalize subF 0 r=x at *
     skip
     refine qam 8 53 [.val (.agg (uc (limN 4 x))) [(6,.pointer (some ⟨g6,0,none⟩))],
   .val (.agg (uc (limN 4 y))) [(4,.pointer (some ⟨g4,0,none⟩))],
   .val (.agg (uc (limN 4 1))) [],
   .val (.agg (uc (limN 4 x))) [(6,.pointer (some ⟨g6,0,none⟩))],
   .val (.agg (uc (limN 4 y))) [(4,.pointer (some ⟨g4,0,none⟩))],
   .val (.agg (uc (limN 4 xy))) [(48,.agg (uc (limN 4 x))),(49,.agg (uc (limN 4 y)))],
   .val (.agg (uc (row4 x y 1 xy))) [(45,.agg (uc (limN 4 x))),(46,.agg (uc (limN 4 y))),(47,.agg (uc (limN 4 1))),(50,.agg (uc (limN 4 xy)))],
   .val (.agg (uc pl)) [(51,.agg (uc (row4 x y 1 xy)))]] (by kernel_rfl) (by kernel_rfl) rfl ?_ ?_ ?_
     ·simp only [take_succ_cons,List.take_zero,qaL,qaK,HeadSpec.val,HeadSpec.fresh,and_true]
      refine ⟨?_,?_,?_,?_,?_,?_,?_,?_⟩
      ·intro act w hb h
       have e0:=h (6,.pointer (some ⟨g6,0,none⟩)) (by simp)
       exact qae 61 (.tmp 6) rfl (g6) e0 61 _ (0,0) _ (qaa hb (qab H_g6.out) H_g6.out) Tryz.underlying61 rfl (qak _)
      ·intro act w hb h
       have e0:=h (4,.pointer (some ⟨g4,0,none⟩)) (by simp)
       exact qae 61 (.tmp 4) rfl (g4) e0 61 _ (0,0) _ (qaa hb (qab H_g4.out) H_g4.out) Tryz.underlying61 rfl (qak _)
      ·intro act w hb h
       simp [go_sem,qac]
       exact C_1.out w
      ·intro act w hb h
       have e0:=h (6,.pointer (some ⟨g6,0,none⟩)) (by simp)
       exact qae 61 (.tmp 6) rfl (g6) e0 61 _ (0,0) _ (qaa hb (qab H_g6.out) H_g6.out) Tryz.underlying61 rfl (qak _)
      ·intro act w hb h
       have e0:=h (4,.pointer (some ⟨g4,0,none⟩)) (by simp)
       exact qae 61 (.tmp 4) rfl (g4) e0 61 _ (0,0) _ (qaa hb (qab H_g4.out) H_g4.out) Tryz.underlying61 rfl (qak _)
      ·intro act w hb h
       have e0:=h (48,.agg (uc (limN 4 x))) (by simp)
       have e1:=h (49,.agg (uc (limN 4 y))) (by simp)
       simp only [getD_eq_getD_getElem?] at e0 e1
       simp [go_sem,e0,e1,qac]
       exact C_xy.out w
      ·intro act w hb h
       have e0:=h (45,.agg (uc (limN 4 x))) (by simp)
       have e1:=h (46,.agg (uc (limN 4 y))) (by simp)
       have e2:=h (47,.agg (uc (limN 4 1))) (by simp)
       have e3:=h (50,.agg (uc (limN 4 xy))) (by simp)
       exact qcL (.tmp 45) (.tmp 46) (.tmp 47) (.tmp 50) rfl _ _ _ _ e0 e1 e2 e3
      ·intro act w hb h
       have e0:=h (51,.agg (uc (row4 x y 1 xy))) (by simp)
       simp only [getD_eq_getD_getElem?] at e0
       simp [go_sem,e0,qac]
       exact C_p.out w (HP.out.step hb)
     ·simp [qau,qav,qaJ,HeadSpec.val,HeadSpec.fresh,Act.put]
     ·simp only [take_succ_cons,List.take_zero,drop_succ_cons,List.drop_zero,qaH,HeadSpec.val,HeadSpec.fresh,Act.put,setIfInBounds_toArray,set_cons_succ,set_cons_zero]
      intro v1 hv1 hgs;have HN:=hid (qaa hv1 (qab HR.out) HR.out);have HNN:=hid (setRow_heap v1 B _ (uc pl) _ _ HN.out);have hb2:Below B w (v1.setRow B (uc pl)):=below_setRow (hb.trans (hv1.mono hB.out)) (Nat.le_refl _) _;clear hgs hv1 hb
      go_wp2_with (with_reducible refine wpList_store_row rfl 63 _ _ rfl B (uc pl) rfl rfl 63 _ HN.out (qbj _ Lp.out) (qa3 _ Lp.out) (qar _) ?_)
      exact bodyPost_ret (qax (by rfl) _ _ B 63 _ (0,0) _ rfl HNN.out Tryz.underlying63 rfl (qbj _ Lp.out)) rfl ⟨by rw [HANS.out.1,HANS.out.2];rfl,by rw [HBB.out];exact hb2⟩
theorem odd_bit (l:List UInt8):(((bitP l 255:Nat):Int)==1)=oddP l:=by
 have h:=(l.getD 31 0).toNat_lt
 have e:bitP l 255=(l.getD 31 0).toNat / 128:=by
  show (l.getD 31 0).toNat / 2^7%2=_
  omega
 rw [oddP,e]
 by_cases h1:128≤(l.getD 31 0).toNat
 ·rw [show (l.getD 31 0).toNat / 128=1 by omega,decide_eq_true h1];rfl
 ·rw [show (l.getD 31 0).toNat / 128=0 by omega,decide_eq_false h1];rfl
theorem ansP_eq (l:List UInt8):ansP (decide (lowP l<pF)) (lowP l%pF) (qa6 (sqrP (lowP l%pF))).1 (qa6 (sqrP (lowP l%pF))).2 (oddP l)=ofP l∧ansE (decide (lowP l<pF)) (qa6 (sqrP (lowP l%pF))).1 (qa6 (sqrP (lowP l%pF))).2 (oddP l)=ofE l:=by
 rw [ofP,ofE,ansP,ansE]
 by_cases h:lowP l<pF
 ·rw [Nat.mod_eq_of_lt h]
  exact ⟨rfl,rfl⟩
 ·have h1:decide (lowP l<pF)=false:=by simp [h]
  have h2:isP l=false:=by rw [isP,h1];rfl
  rw [h1,h2]
  constructor <;> simp only [Bool.false_and,Bool.false_eq_true,if_false]
theorem ptOf_any (s:ByteArray) (w:World) (hT:PrmQ w) :
  Calls Tryz.prog 72 #[.string s] w fun e w'=>e=.returned (.tuple #[.agg (uc (ptL (ofPT s))),.int .i64 (ofET s)])∧Below w.heap.size w w':=by
 by_cases h:s.size=32
 ·rw [ofPT,ofET,if_pos h,if_pos h,← (ansP_eq s.data.toList).1,← (ansP_eq s.data.toList).2]
  exact ptOfL_any s (decide (lowP s.data.toList<pF)) (qa6 (sqrP (lowP s.data.toList%pF))).2 (oddP s.data.toList) (lowP s.data.toList%pF) (qa6 (sqrP (lowP s.data.toList%pF))).1 (bitP s.data.toList 255) w h (Nat.mod_lt _ qc8) (rootF_lt _) hT (odd_bit _) (fun W=>heightOf_any s W h) (fun W hW=>rootAt_any _ W (Nat.mod_lt _ qc8) hW) (fun W=>ptBit_any s 255 W h (by decide))
 ·rw [ofPT,ofET,if_neg h,if_neg h]
  exact ptOfBad_any s w h
theorem basT_of:ofPT (⟨basL.toArray⟩:ByteArray)=baseP:=if_pos (qa2 _ 32)
set_option maxHeartbeats 4000000 in
theorem ptBase_any (w:World) (hT:PrmQ w):Calls Tryz.prog 95 #[] w fun e w'=>e=.returned (.agg (uc (ptL baseP)))∧Below w.heap.size w w':=by
 have C_4:Hid (∀ W:World,Calls Tryz.prog 131 #[.int .i64 4] W fun e w'=>e=.returned (.agg (uc (limN 4 4)))∧Below W.heap.size W w'):=hid (fun W=>qb1 4 W (by decide))
 have C_5:Hid (∀ W:World,Calls Tryz.prog 131 #[.int .i64 5] W fun e w'=>e=.returned (.agg (uc (limN 4 5)))∧Below W.heap.size W w'):=hid (fun W=>qb1 5 W (by decide))
 have l_v:invF 5<pF:=qaU _ _
 have C_v:=hid (fun (W:World)=>invF_any 5 W (by decide))
 have C_m:=hid (fun (W:World)=>qaN 4 (invF 5) W (by decide) l_v)
 have C_t:=hid (fun (W:World)=>qeR (mulF 4 (invF 5)) W)
 rw [show leF (mulF 4 (invF 5)) 32=basL from rfl] at C_t
 have C_o:=hid (fun (W:World) (hW:PrmQ W)=>ptOf_any (⟨basL.toArray⟩:ByteArray) W hW)
 rw [basT_of] at C_o;clear l_v;generalize mulF 4 (invF 5)=m at *;generalize invF 5=v at *;generalize (⟨basL.toArray⟩:ByteArray)=tb at *;generalize ofET tb=eb at *;generalize baseP=bp at *;obtain ⟨hz,hi⟩:=zero_of_info qbO;obtain ⟨hzn,hin⟩:=zero_of_info qda;obtain ⟨hzp,hip⟩:=zero_of_info qcp;have hb:=qah w (.cells zrow4 63);have HP:=hid (hT.step hb);have HR:=hid (qag w (.cells zrow4 63));clear hi hin hip hT
 go_enter Tryz.func95,Tryz.ntmps95
 go_wp2_with fail
 generalize (w.alloc _)=W0 at *;have hB:=hid hb.size;generalize hBB:w.heap.size=B at *;have HBB:=hid hBB;clear hBB
 refine (C_4.out W0).mono ?_
 rintro e W1 ⟨rfl,bk⟩;replace hb:=hb.trans (bk.mono hB.out);replace HP:=hid (HP.out.step bk);replace hB:=hid (Nat.le_trans hB.out bk.size);replace HR:=hid (qaa bk (qab HR.out) HR.out);clear bk
 go_wp2_with fail
 refine (C_5.out W1).mono ?_
 rintro e W2 ⟨rfl,bk⟩;replace hb:=hb.trans (bk.mono hB.out);replace HP:=hid (HP.out.step bk);replace hB:=hid (Nat.le_trans hB.out bk.size);replace HR:=hid (qaa bk (qab HR.out) HR.out);clear bk
 go_wp2_with fail
 refine (C_v.out W2).mono ?_
 rintro e W3 ⟨rfl,bk⟩;replace hb:=hb.trans (bk.mono hB.out);replace HP:=hid (HP.out.step bk);replace hB:=hid (Nat.le_trans hB.out bk.size);replace HR:=hid (qaa bk (qab HR.out) HR.out);clear bk
 go_wp2_with fail
 refine (C_m.out W3).mono ?_
 rintro e W4 ⟨rfl,bk⟩;replace hb:=hb.trans (bk.mono hB.out);replace HP:=hid (HP.out.step bk);replace hB:=hid (Nat.le_trans hB.out bk.size);replace HR:=hid (qaa bk (qab HR.out) HR.out);clear bk
 go_wp2_with fail
 refine (C_t.out W4).mono ?_
 rintro e W5 ⟨rfl,bk⟩;replace hb:=hb.trans (bk.mono hB.out);replace HP:=hid (HP.out.step bk);replace hB:=hid (Nat.le_trans hB.out bk.size);replace HR:=hid (qaa bk (qab HR.out) HR.out);clear bk
 go_wp2_with fail
 refine (C_o.out W5 HP.out).mono ?_
 rintro e X ⟨rfl,bk⟩;replace hb:=hb.trans (bk.mono hB.out);replace HP:=hid (HP.out.step bk);replace hB:=hid (Nat.le_trans hB.out bk.size);replace HR:=hid (qaa bk (qab HR.out) HR.out);clear bk;have HN:=hid (qag X (.cells zrow4 63));have hr:=qab HR.out;have q1:=hid (setRow_heap _ X.heap.size _ (uc (ptL bp)) _ _ HN.out)
 have HR2:Hid (((X.alloc (.cells zrow4 63)).setRow X.heap.size (uc (ptL bp))).heap[B]?=some (.cells zrow4 63)):=hid (by rw [setRow_other _ _ _ _ (by omega)];exact qaj HR.out)
 have hb4:Below B w ((X.alloc (.cells zrow4 63)).setRow X.heap.size (uc (ptL bp))):=below_setRow (hb.alloc (by omega) _) (by omega) _
 clear C_4 C_5 C_v C_m C_t C_o HR hb HP
 go_wp2_with (first
  | (with_reducible refine wpList_store_row rfl 63 _ _ rfl X.heap.size (uc (ptL bp)) rfl rfl 63 _ HN.out (qbj _ (qaz _)) (qa3 _ (qaz _)) (qar _) ?_)
  | (with_reducible refine wpList_load_row rfl 63 _ rfl X.heap.size rfl 63 _ (0,0) _ q1.out Tryz.underlying63 rfl (qbj _ (qaz _)) ?_)
  | (with_reducible refine wpList_store_row rfl 63 _ _ rfl B (uc (ptL bp)) rfl rfl 63 _ HR2.out (qbj _ (qaz _)) (qa3 _ (qaz _)) (qar _) ?_))
 exact bodyPost_ret (v:=.agg (uc (ptL bp))) (results_cell_row (by rfl) _ _ B 63 _ (0,0) _ rfl (setRow_heap _ _ _ _ _ _ HR2.out) Tryz.underlying63 rfl (qbj _ (qaz _))) rfl ⟨rfl,by rw [HBB.out];exact below_setRow hb4 (Nat.le_refl _) _⟩
end
end Go.Proofs.YteomfleofeeofaaGreatDoor
