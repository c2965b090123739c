/- The reference's point: a struct of four slices of digits; Zero, factor, double; The reference's sum of two points; The reference's Add and Neg; The reference's Mul; The reference's Bytes of a point; The reference's point of bytes; The reference's base point; what its calls answer for any texts. -/
import Derived.Test.YteomfleofeeofaaGreatDoorPtA
import Derived.Test.YteomfleofeeofaaGreatDoorFldR
import Derived.Test.YteomfleofeeofaaGreatDoorToldG
import Derived.Test.YteomfleofeeofaaGreatDoorConvS
namespace Go.Proofs.YteomfleofeeofaaGreatDoor
open Go.Lib (hid)
open _root_.List (take_succ_cons drop_succ_cons set_cons_succ set_cons_zero setIfInBounds_toArray)
open _root_.Array (getD_eq_getD_getElem?)
set_option maxRecDepth 100000
set_option linter.unusedSimpArgs false
set_option linter.unusedVariables false
section
open Go.RowKit Go.Sort
def tDig (x:Nat):Told:=⟨fun w v=>DigAt w v (digN x),fun _ _ _ hb h=>h.step hb⟩
def PtAt (w:World) (v:Value) (p:PtN):Prop:=∃ vx vy vz vt,v=.agg #[vx,vy,vz,vt]∧DigAt w vx (digN p.x)∧DigAt w vy (digN p.y)∧DigAt w vz (digN p.z)∧DigAt w vt (digN p.t)
theorem PtAt.step {w w':World} {v:Value} {p:PtN} (h:PtAt w v p) (hb:Below w.heap.size w w'):PtAt w' v p:=by
 obtain ⟨vx,vy,vz,vt,rfl,h1,h2,h3,h4⟩:=h;exact ⟨vx,vy,vz,vt,rfl,h1.step hb,h2.step hb,h3.step hb,h4.step hb⟩
theorem DigAt.slice {w:World} {v:Value} {l:List Nat} (h:DigAt w v l):∃ D cap,v=.slice (some ⟨D,0,none⟩) 16 cap:=by
 obtain ⟨D,cap,h,_⟩:=h;exact ⟨D,cap,h⟩
theorem DigAt.rowed {W:World} {v:Value} {l:List Nat} {B:Nat} {row:Array Value} {T:TypeId} {fr:Nat×Nat} (h:DigAt W v l) (hB:W.heap[B]?=some (.cells row T fr)) (h0:∃ a n c,row[0]?=some (.slice a n c)) (new:Array Value):DigAt (W.setRow B new) v l:=by
 obtain ⟨D,cap,rfl,hc⟩:=h;obtain ⟨a,n,c,h0⟩:=h0
 have hne:D≠B:=by
  rintro rfl
  have h1:=hc 0 (by decide)
  rw [cell_of_row _ _ _ _ _ _ hB,h0] at h1
  cases h1
 exact ⟨D,cap,rfl,fun j hj=>(World.cell?_of_block (a:=⟨D,j,none⟩) (setRow_other _ _ _ _ hne)).trans (hc j hj)⟩
theorem PtAt.rowed {W:World} {v:Value} {p:PtN} {B:Nat} {row:Array Value} {T:TypeId} {fr:Nat×Nat} (h:PtAt W v p) (hB:W.heap[B]?=some (.cells row T fr)) (h0:∃ a n c,row[0]?=some (.slice a n c)) (new:Array Value):PtAt (W.setRow B new) v p:=by
 obtain ⟨vx,vy,vz,vt,rfl,h1,h2,h3,h4⟩:=h;exact ⟨vx,vy,vz,vt,rfl,h1.rowed hB h0 new,h2.rowed hB h0 new,h3.rowed hB h0 new,h4.rowed hB h0 new⟩
def nilS:Value:=.slice none 0 0
def zeroR:Array Value:=#[nilS,nilS,nilS,nilS]
theorem infoR:(Tryz.prog.info? 82).map (fun i=>(i.zero,i.size))=some (some (.agg zeroR),4):=by kernel_rfl
theorem qc6 (a b c d:Value):(Tryz.prog.info? 82).map (·.size)=some (#[a,b,c,d]:Array Value).size:=(zero_of_info infoR).2
theorem qbS (a b c d:Value):zeroR.size=(#[a,b,c,d]:Array Value).size:=rfl
theorem qf9 {w:World} {a b c d:Value} {k l m n:List Nat} (ha:DigAt w a k) (hb:DigAt w b l) (hc:DigAt w c m) (hd:DigAt w d n):(#[a,b,c,d]:Array Value).all (·.oneCell')=true:=by
 obtain ⟨A,ca,rfl⟩:=ha.slice;obtain ⟨B,cb,rfl⟩:=hb.slice;obtain ⟨C,cc,rfl⟩:=hc.slice;obtain ⟨D,cd,rfl⟩:=hd.slice
 simp [Value.oneCell']
theorem build_pt {w0:World} {a b c d:Value} {k l m n:List Nat} (ha:DigAt w0 a k) (hb:DigAt w0 b l) (hc:DigAt w0 c m) (hd:DigAt w0 d n) (w:World):(Instr.build 82 #[(0,a),(1,b),(2,c),(3,d)]).run Tryz.prog w=.ok (.agg #[a,b,c,d]) w:=by
 obtain ⟨A,ca,rfl⟩:=ha.slice;obtain ⟨B,cb,rfl⟩:=hb.slice;obtain ⟨C,cc,rfl⟩:=hc.slice;obtain ⟨D,cd,rfl⟩:=hd.slice
 exact run_build w 82 _ _ (by kernel_rfl)
theorem qdi {ops:Array Oper} {rest:List Oper} {o:Oper} {a:Act} {w:World} {Q:Exit→Act→World→Prop} (hg:o.guard=none) (x y z u:Operand) (ho:o.op=.build 82 #[(0,x),(1,y),(2,z),(3,u)]) (v1 v2 v3 v4:Value)
  (h1:a.eval x=v1) (h2:a.eval y=v2) (h3:a.eval z=v3) (h4:a.eval u=v4) (hb:∀ w,(Instr.build 82 #[(0,v1),(1,v2),(2,v3),(3,v4)]).run Tryz.prog w=.ok (.agg #[v1,v2,v3,v4]) w)
  (h:wpList Tryz.prog ops Q rest (a.put o.dst (.agg #[v1,v2,v3,v4])) w):wpList Tryz.prog ops Q (o :: rest) a w:=
 wpList_plain hg fun _ hK=>qdJ 82 #[(0,x),(1,y),(2,z),(3,u)] ho #[v1,v2,v3,v4] (by
  have e:(#[(0,x),(1,y),(2,z),(3,u)]:Array (Nat×Operand)).map (fun (i,x)=>(i,a.eval x))=#[(0,a.eval x),(1,a.eval y),(2,a.eval z),(3,a.eval u)]:=by simp
  rw [e,h1,h2,h3,h4];exact hb w) (hK _ _ h)
theorem digOf {P:Program} {f:Nat} {args:Array Value} {w:World} {x:Nat} (h:Calls P f args w fun e w'=>(∃ d',e=.returned d'∧DigAt w' d' (digN x))∧Below w.heap.size w w'):Calls P f args w (fun e w''=>∃ v,e=.returned v∧(tDig x).T w'' v∧Below w.heap.size w w''):=
 h.mono fun e w'' ⟨⟨d',h1,h2⟩,h3⟩=>⟨d',h1,h2,h3⟩
set_option maxHeartbeats 1000000 in
theorem rfac_any (w:World) :
  Calls Tryz.prog 143 #[] w fun e w'=>(∃ d',e=.returned d'∧DigAt w' d' (digN facF))∧Below w.heap.size w w':=by
 have C1:=hid (fun W=>smallRefNeg_any (-121665) W (by decide) (by decide))
 have C2:Hid (∀ W:World,Calls Tryz.prog 139 #[.int .i64 121666] W fun e w'=>(∃ d',e=.returned d'∧DigAt w' d' (digN 121666))∧Below W.heap.size W w'):=hid (fun W=>qb2 121666 W (by decide))
 have C3:=hid (fun d W h=>qeS d 121666 W (by decide) h)
 have C4:=hid (fun d e W h1 h2=>qaR d e (qcC (-121665)) (invF 121666) W (smallF_lt _) (qaU _ _) h1 h2)
 rw [show mulF (qcC (-121665)) (invF 121666)=facF from rfl] at C4
 generalize qcC (-121665)=a at *;generalize invF 121666=b at *;generalize facF=c at *
 go_enter Tryz.func143,Tryz.ntmps143
 go_wp2_with fail
 refine (C1.out w).mono ?_
 rintro e W1 ⟨⟨d1,rfl,h1⟩,b1⟩;have H1:=hid h1;clear h1
 go_wp2_with fail
 refine (C2.out W1).mono ?_
 rintro e W2 ⟨⟨d2,rfl,h2⟩,b2⟩;have H2:=hid h2;replace H1:=hid (H1.out.step b2);replace b2:=b1.trans (b2.mono b1.size);clear h2
 go_wp2_with fail
 refine (C3.out d2 W2 H2.out).mono ?_
 rintro e W3 ⟨⟨d3,rfl,h3⟩,b3⟩;have H3:=hid h3;replace H1:=hid (H1.out.step b3);replace b3:=b2.trans (b3.mono b2.size);clear h3
 go_wp2_with fail
 refine (C4.out d1 d3 W3 H1.out H3.out).mono ?_
 rintro e W4 ⟨⟨d4,rfl,h4⟩,b4⟩;have H4:=hid h4;replace b4:=b3.trans (b4.mono b3.size);clear h4
 go_wp2_with fail
 go_ret
 exact ⟨⟨_,rfl,H4.out⟩,b4⟩
set_option maxHeartbeats 1000000 in
theorem rtwo_any (w:World) :
  Calls Tryz.prog 150 #[] w fun e w'=>(∃ d',e=.returned d'∧DigAt w' d' (digN twoF))∧Below w.heap.size w w':=by
 have C1:=hid (fun W=>rfac_any W)
 have C2:Hid (∀ W:World,Calls Tryz.prog 139 #[.int .i64 2] W fun e w'=>(∃ d',e=.returned d'∧DigAt w' d' (digN 2))∧Below W.heap.size W w'):=hid (fun W=>qb2 2 W (by decide))
 have C4:=hid (fun d e W h1 h2=>qaR d e facF 2 W facF_lt (by decide) h1 h2)
 rw [show mulF facF 2=twoF from rfl] at C4
 generalize facF=a at *;generalize twoF=c at *
 go_enter Tryz.func150,Tryz.ntmps150
 go_wp2_with fail
 refine (C1.out w).mono ?_
 rintro e W1 ⟨⟨d1,rfl,h1⟩,b1⟩;have H1:=hid h1;clear h1
 go_wp2_with fail
 refine (C2.out W1).mono ?_
 rintro e W2 ⟨⟨d2,rfl,h2⟩,b2⟩;have H2:=hid h2;replace H1:=hid (H1.out.step b2);replace b2:=b1.trans (b2.mono b1.size);clear h2
 go_wp2_with fail
 refine (C4.out d1 d2 W2 H1.out H2.out).mono ?_
 rintro e W4 ⟨⟨d4,rfl,h4⟩,b4⟩;have H4:=hid h4;replace b4:=b2.trans (b4.mono b2.size);clear h4
 go_wp2_with fail
 go_ret
 exact ⟨⟨_,rfl,H4.out⟩,b4⟩
theorem zeroD_any (w:World) :
  Calls Tryz.prog 147 #[] w fun e w'=>(∃ d',e=.returned d'∧DigAt w' d' (digN 0))∧Below w.heap.size w w':=
 (qcD w).mono fun e w' ⟨h1,h2⟩=>by
  subst h1 h2
  exact ⟨⟨_,rfl,DigAt.of_block (show (w.alloc (.cells qaG 3)).heap[w.heap.size]?=some (.cells (dcl (digN 0)) 3) from qag w _) (qaF _)⟩,qah w _⟩
theorem one_any (w:World):Calls Tryz.prog 139 #[.int .i64 1] w fun e w'=>(∃ d',e=.returned d'∧DigAt w' d' (digN 1))∧Below w.heap.size w w':=qb2 1 w (by decide)
set_option maxHeartbeats 1000000 in
theorem qfy (w:World) :
  Calls Tryz.prog 136 #[] w fun e w'=>(∃ d',e=.returned d'∧PtAt w' d' zeroP)∧Below w.heap.size w w':=by
 obtain ⟨hz,hi⟩:=zero_of_info infoR;have HR:=hid (qag w (.cells zeroR 82));have hb:=qah w (.cells zeroR 82)
 have C1:=hid (fun W=>zeroD_any W)
 have C2:=hid (fun W=>one_any W)
 clear hi
 go_enter Tryz.func136,Tryz.ntmps136
 go_wp2_with fail
 clear hz;generalize (w.alloc _)=W0 at *;generalize hBB:w.heap.size=B at *;have HBB:=hid hBB;clear hBB
 refine (C1.out W0).mono ?_
 rintro e W1 ⟨⟨d1,rfl,h1⟩,bk⟩;have H1:=hid h1;replace hb:=hb.trans (bk.mono (Nat.le_of_lt (qab HR.out)));replace HR:=hid (qaa bk (qab HR.out) HR.out);clear h1 bk
 go_wp2_with fail
 refine (C2.out W1).mono ?_
 rintro e W2 ⟨⟨d2,rfl,h2⟩,bk⟩;have H2:=hid h2;replace H1:=hid (H1.out.step bk);replace hb:=hb.trans (bk.mono (Nat.le_of_lt (qab HR.out)));replace HR:=hid (qaa bk (qab HR.out) HR.out);clear h2 bk
 go_wp2_with fail
 refine (C2.out W2).mono ?_
 rintro e W3 ⟨⟨d3,rfl,h3⟩,bk⟩;have H3:=hid h3;replace H1:=hid (H1.out.step bk);replace H2:=hid (H2.out.step bk);replace hb:=hb.trans (bk.mono (Nat.le_of_lt (qab HR.out)));replace HR:=hid (qaa bk (qab HR.out) HR.out);clear h3 bk
 go_wp2_with fail
 refine (C1.out W3).mono ?_
 rintro e W4 ⟨⟨d4,rfl,h4⟩,bk⟩;have H4:=hid h4;replace H1:=hid (H1.out.step bk);replace H2:=hid (H2.out.step bk);replace H3:=hid (H3.out.step bk);replace hb:=hb.trans (bk.mono (Nat.le_of_lt (qab HR.out)));replace HR:=hid (qaa bk (qab HR.out) HR.out);clear h4 bk;have hbd:=build_pt H1.out H2.out H3.out H4.out;have HS:=hid (qc6 d1 d2 d3 d4);have HO:=hid (qbS d1 d2 d3 d4);have H11:=hid (qf9 H1.out H2.out H3.out H4.out)
 go_wp2_with (first
  | (with_reducible refine qdi rfl _ _ _ _ rfl d1 d2 d3 d4 rfl rfl rfl rfl hbd ?_)
  | (with_reducible refine wpList_store_row rfl 82 _ _ rfl B #[d1,d2,d3,d4] rfl rfl 82 _ HR.out HS.out HO.out H11.out ?_))
 have H5:PtAt W4 (.agg #[d1,d2,d3,d4]) zeroP:=⟨d1,d2,d3,d4,rfl,H1.out,H2.out,H3.out,H4.out⟩;have H6:=H5.rowed HR.out ⟨_,_,_,rfl⟩ #[d1,d2,d3,d4];have hb2:Below B w (W4.setRow B #[d1,d2,d3,d4]):=below_setRow hb (Nat.le_refl _) _
 exact bodyPost_ret (v:=.agg #[d1,d2,d3,d4]) (results_cell_row (by rfl) _ _ B 82 _ (0,0) _ rfl (setRow_heap _ _ _ _ _ _ HR.out) Tryz.underlying82 rfl HS.out) rfl ⟨⟨_,rfl,H6⟩,by rw [HBB.out];exact hb2⟩
end
section
open Go.RowKit Go.Sort
set_option maxHeartbeats 4000000 in
theorem rtog_any (vp vq vk:Value) (p q:PtN) (w:World) (hp:p.Ok) (hq:q.Ok) (h1:PtAt w vp p) (h2:PtAt w vq q) (h3:DigAt w vk (digN twoF)) :
  Calls Tryz.prog 151 #[vp,vq,vk] w fun e w'=>(∃ d',e=.returned d'∧PtAt w' d' (sumP p q))∧Below w.heap.size w w':=by
 obtain ⟨hz,hi⟩:=zero_of_info infoR;obtain ⟨px,py,pz,pt,rfl,kpx,kpy,kpz,kpt⟩:=h1;obtain ⟨qx,qy,qz,qt,rfl,kqx,kqy,kqz,kqt⟩:=h2;obtain ⟨lpx,lpy,lpz,lpt⟩:=hp;obtain ⟨lqx,lqy,lqz,lqt⟩:=hq;have hb:=qbr w (.cells #[px,py,pz,pt] 82) (.cells #[qx,qy,qz,qt] 82) (.cells zeroR 82);have HA:=hid (qaj (o:=.cells zeroR 82) (qaj (o:=.cells #[qx,qy,qz,qt] 82) (qag w (.cells #[px,py,pz,pt] 82))));have HB:=hid (qaj (o:=.cells zeroR 82) (qaw w (.cells #[px,py,pz,pt] 82) (.cells #[qx,qy,qz,qt] 82)));have HR:=hid (qbL w (.cells #[px,py,pz,pt] 82) (.cells #[qx,qy,qz,qt] 82) (.cells zeroR 82));have Hpx:=hid (kpx.step hb);have Hpy:=hid (kpy.step hb);have Hpz:=hid (kpz.step hb);have Hpt:=hid (kpt.step hb);have Hqx:=hid (kqx.step hb);have Hqy:=hid (kqy.step hb);have Hqz:=hid (kqz.step hb);have Hqt:=hid (kqt.step hb);have Hk:=hid (h3.step hb);clear hi h3 kpx kpy kpz kpt kqx kqy kqz kqt
 have S1:=hid (fun d e W h1 h2=>qcJ d e p.y p.x W lpy lpx h1 h2)
 have S2:=hid (fun d e W h1 h2=>qcJ d e q.y q.x W lqy lqx h1 h2)
 have S3:=hid (fun d e W h1 h2=>qaR d e (subF p.y p.x) (subF q.y q.x) W (qby _ _) (qby _ _) h1 h2)
 have A1:=hid (fun d e W h1 h2=>qdD d e p.y p.x W lpy lpx h1 h2)
 have A2:=hid (fun d e W h1 h2=>qdD d e q.y q.x W lqy lqx h1 h2)
 have A3:=hid (fun d e W h1 h2=>qaR d e (addF p.y p.x) (addF q.y q.x) W (qbV _ _) (qbV _ _) h1 h2)
 have T1:=hid (fun d e W h1 h2=>qaR d e p.t twoF W lpt twoF_lt h1 h2)
 have T2:=hid (fun d e W h1 h2=>qaR d e (mulF p.t twoF) q.t W (qaM _ _) lqt h1 h2)
 have M1:=hid (fun d e W h1 h2=>qdD d e p.z p.z W lpz lpz h1 h2)
 have M2:=hid (fun d e W h1 h2=>qaR d e (addF p.z p.z) q.z W (qbV _ _) lqz h1 h2)
 rw [show mulF (subF p.y p.x) (subF q.y q.x)=sumA p q from rfl] at S3
 rw [show mulF (addF p.y p.x) (addF q.y q.x)=sumB p q from rfl] at A3
 rw [show mulF (mulF p.t twoF) q.t=sumC p q from rfl] at T2
 rw [show mulF (addF p.z p.z) q.z=sumM p q from rfl] at M2
 have la:sumA p q<pF:=qaM _ _;have lb:sumB p q<pF:=qaM _ _;have lc:sumC p q<pF:=qaM _ _;have lm:sumM p q<pF:=qaM _ _;have HS:Hid (sumP p q=⟨mulF (subF (sumB p q) (sumA p q)) (subF (sumM p q) (sumC p q)),mulF (addF (sumM p q) (sumC p q)) (addF (sumB p q) (sumA p q)),mulF (subF (sumM p q) (sumC p q)) (addF (sumM p q) (sumC p q)),mulF (subF (sumB p q) (sumA p q)) (addF (sumB p q) (sumA p q))⟩):=hid rfl;generalize p.x=npx at *;generalize p.y=npy at *;generalize p.z=npz at *;generalize p.t=npt at *;generalize q.x=nqx at *;generalize q.y=nqy at *;generalize q.z=nqz at *;generalize q.t=nqt at *;generalize subF npy npx=s1 at *;generalize subF nqy nqx=s2 at *;generalize addF npy npx=a1 at *;generalize addF nqy nqx=a2 at *;generalize mulF npt twoF=t1 at *;generalize addF npz npz=m1 at *;generalize twoF=k2 at *;generalize sumA p q=sa at *;generalize sumB p q=sb at *;generalize sumC p q=sc at *;generalize sumM p q=sm at *
 have E1:=hid (fun d e W h1 h2=>qcJ d e sb sa W lb la h1 h2)
 have E2:=hid (fun d e W h1 h2=>qcJ d e sm sc W lm lc h1 h2)
 have E3:=hid (fun d e W h1 h2=>qdD d e sm sc W lm lc h1 h2)
 have E4:=hid (fun d e W h1 h2=>qdD d e sb sa W lb la h1 h2)
 have le1:=qby sb sa;have le2:=qby sm sc;have le3:=qbV sm sc;have le4:=qbV sb sa;generalize subF sb sa=ne at *;generalize subF sm sc=nf at *;generalize addF sm sc=ng at *;generalize addF sb sa=nh at *
 have X1:=hid (fun d e W h1 h2=>qaR d e ne nf W le1 le2 h1 h2)
 have X2:=hid (fun d e W h1 h2=>qaR d e ng nh W le3 le4 h1 h2)
 have X3:=hid (fun d e W h1 h2=>qaR d e nf ng W le2 le3 h1 h2)
 have X4:=hid (fun d e W h1 h2=>qaR d e ne nh W le1 le4 h1 h2)
 generalize mulF ne nf=nx at *;generalize mulF ng nh=ny at *;generalize mulF nf ng=nz at *;generalize mulF ne nh=nt at *;clear lpx lpy lpz lpt lqx lqy lqz lqt la lb lc lm le1 le2 le3 le4
 go_enter Tryz.func151,Tryz.ntmps151
 go_upto_region 1 with fail
 clear hz;generalize (((w.alloc _).alloc _).alloc _)=W0 at *;generalize hBB:w.heap.size=B at *;have HBB:=hid hBB;clear hBB
 have cpx:Hid (W0.cell? ⟨B,0,none⟩=some px):=hid (by rw [cell_of_row _ _ _ _ _ _ HA.out];rfl)
 have cpy:Hid (W0.cell? ⟨B,1,none⟩=some py):=hid (by rw [cell_of_row _ _ _ _ _ _ HA.out];rfl)
 have cpz:Hid (W0.cell? ⟨B,2,none⟩=some pz):=hid (by rw [cell_of_row _ _ _ _ _ _ HA.out];rfl)
 have cpt:Hid (W0.cell? ⟨B,3,none⟩=some pt):=hid (by rw [cell_of_row _ _ _ _ _ _ HA.out];rfl)
 have cqx:Hid (W0.cell? ⟨B+1,0,none⟩=some qx):=hid (by rw [cell_of_row _ _ _ _ _ _ HB.out];rfl)
 have cqy:Hid (W0.cell? ⟨B+1,1,none⟩=some qy):=hid (by rw [cell_of_row _ _ _ _ _ _ HB.out];rfl)
 have cqz:Hid (W0.cell? ⟨B+1,2,none⟩=some qz):=hid (by rw [cell_of_row _ _ _ _ _ _ HB.out];rfl)
 have cqt:Hid (W0.cell? ⟨B+1,3,none⟩=some qt):=hid (by rw [cell_of_row _ _ _ _ _ _ HB.out];rfl)
 refine qaC 11 77 [(Told.val (.pointer (some ⟨B,1,none⟩)),[3]),
  (Told.val py,[15]),
  (Told.val (.pointer (some ⟨B,0,none⟩)),[3]),
  (Told.val px,[17]),
  (tDig s1,[16,18]),
  (Told.val (.pointer (some ⟨B+1,1,none⟩)),[4]),
  (Told.val qy,[20]),
  (Told.val (.pointer (some ⟨B+1,0,none⟩)),[4]),
  (Told.val qx,[22]),
  (tDig s2,[21,23]),
  (tDig sa,[19,24])]
  (by kernel_rfl) (by kernel_rfl) rfl ?_ ?_
 ·simp only [take_succ_cons,List.take_zero,qaW,and_true]
  refine ⟨?_,?_,?_,?_,?_,?_,?_,?_,?_,?_,?_⟩
  ·intro a w hb h
   have e0:a.tmps.getD 3 undef=.pointer (some ⟨B,0,none⟩):=h 3 (by simp)
   simp only [getD_eq_getD_getElem?] at e0
   simp [go_sem,e0,qan,Told.val]
   exact Below.refl _ _
  ·intro a w hb h
   have e0:a.tmps.getD 15 undef=.pointer (some ⟨B,1,none⟩):=h 15 (by simp)
   simp only [getD_eq_getD_getElem?] at e0
   have cc:=(hb.cell (block_lt_of_cell cpy.out)).trans cpy.out
   simp [go_sem,e0,qan,Told.val,cc]
   exact Below.refl _ _
  ·intro a w hb h
   have e0:a.tmps.getD 3 undef=.pointer (some ⟨B,0,none⟩):=h 3 (by simp)
   simp only [getD_eq_getD_getElem?] at e0
   simp [go_sem,e0,qan,Told.val]
   exact Below.refl _ _
  ·intro a w hb h
   have e0:a.tmps.getD 17 undef=.pointer (some ⟨B,0,none⟩):=h 17 (by simp)
   simp only [getD_eq_getD_getElem?] at e0
   have cc:=(hb.cell (block_lt_of_cell cpx.out)).trans cpx.out
   simp [go_sem,e0,qan,Told.val,cc]
   exact Below.refl _ _
  ·intro a w hb h
   have e0:a.tmps.getD 16 undef=py:=h 16 (by simp)
   have e1:a.tmps.getD 18 undef=px:=h 18 (by simp)
   simp only [getD_eq_getD_getElem?] at e0 e1
   simp [go_sem,e0,e1,qan]
   exact digOf (S1.out py px w (Hpy.out.step hb) (Hpx.out.step hb))
  ·intro a w hb h
   have e0:a.tmps.getD 4 undef=.pointer (some ⟨B+1,0,none⟩):=h 4 (by simp)
   simp only [getD_eq_getD_getElem?] at e0
   simp [go_sem,e0,qan,Told.val]
   exact Below.refl _ _
  ·intro a w hb h
   have e0:a.tmps.getD 20 undef=.pointer (some ⟨B+1,1,none⟩):=h 20 (by simp)
   simp only [getD_eq_getD_getElem?] at e0
   have cc:=(hb.cell (block_lt_of_cell cqy.out)).trans cqy.out
   simp [go_sem,e0,qan,Told.val,cc]
   exact Below.refl _ _
  ·intro a w hb h
   have e0:a.tmps.getD 4 undef=.pointer (some ⟨B+1,0,none⟩):=h 4 (by simp)
   simp only [getD_eq_getD_getElem?] at e0
   simp [go_sem,e0,qan,Told.val]
   exact Below.refl _ _
  ·intro a w hb h
   have e0:a.tmps.getD 22 undef=.pointer (some ⟨B+1,0,none⟩):=h 22 (by simp)
   simp only [getD_eq_getD_getElem?] at e0
   have cc:=(hb.cell (block_lt_of_cell cqx.out)).trans cqx.out
   simp [go_sem,e0,qan,Told.val,cc]
   exact Below.refl _ _
  ·intro a w hb h
   have e0:a.tmps.getD 21 undef=qy:=h 21 (by simp)
   have e1:a.tmps.getD 23 undef=qx:=h 23 (by simp)
   simp only [getD_eq_getD_getElem?] at e0 e1
   simp [go_sem,e0,e1,qan]
   exact digOf (S2.out qy qx w (Hqy.out.step hb) (Hqx.out.step hb))
  ·intro a w hb h
   have f0:DigAt w (a.tmps.getD 19 undef) (digN s1):=h 19 (by simp)
   obtain ⟨u0,e0⟩:∃ u,a.tmps.getD 19 undef=u:=⟨_,rfl⟩;rw [e0] at f0
   have f1:DigAt w (a.tmps.getD 24 undef) (digN s2):=h 24 (by simp)
   obtain ⟨u1,e1⟩:∃ u,a.tmps.getD 24 undef=u:=⟨_,rfl⟩;rw [e1] at f1
   simp only [getD_eq_getD_getElem?] at e0 e1
   simp [go_sem,e0,e1,qan]
   exact digOf (S3.out u0 u1 w f0 f1)
 ·simp only [take_succ_cons,List.take_zero,drop_succ_cons,List.drop_zero,qaX,Act.put,setIfInBounds_toArray,set_cons_succ,set_cons_zero]
  rintro W1 bk v15 q15 v16 q16 v17 q17 v18 q18 u19 h19 v20 q20 v21 q21 v22 q22 v23 q23 u24 h24 u25 h25;obtain rfl:=q15.symm;obtain rfl:=q16.symm;obtain rfl:=q17.symm;obtain rfl:=q18.symm;obtain rfl:=q20.symm;obtain rfl:=q21.symm;obtain rfl:=q22.symm;obtain rfl:=q23.symm;have Hu25:Hid (DigAt W1 u25 (digN sa)):=hid h25;clear h19 h24 h25;replace Hpx:=hid (Hpx.out.step bk);replace Hpy:=hid (Hpy.out.step bk);replace Hpz:=hid (Hpz.out.step bk);replace Hpt:=hid (Hpt.out.step bk);replace Hqx:=hid (Hqx.out.step bk);replace Hqy:=hid (Hqy.out.step bk);replace Hqz:=hid (Hqz.out.step bk);replace Hqt:=hid (Hqt.out.step bk);replace Hk:=hid (Hk.out.step bk);replace hb:=hb.trans (bk.mono (Nat.le_of_lt (qab HA.out)));replace HA:=hid (qaa bk (qab HA.out) HA.out);replace HB:=hid (qaa bk (qab HB.out) HB.out);replace HR:=hid (qaa bk (qab HR.out) HR.out);clear bk
  go_wp2_with fail
  have cpx:Hid (W1.cell? ⟨B,0,none⟩=some px):=hid (by rw [cell_of_row _ _ _ _ _ _ HA.out];rfl)
  have cpy:Hid (W1.cell? ⟨B,1,none⟩=some py):=hid (by rw [cell_of_row _ _ _ _ _ _ HA.out];rfl)
  have cpz:Hid (W1.cell? ⟨B,2,none⟩=some pz):=hid (by rw [cell_of_row _ _ _ _ _ _ HA.out];rfl)
  have cpt:Hid (W1.cell? ⟨B,3,none⟩=some pt):=hid (by rw [cell_of_row _ _ _ _ _ _ HA.out];rfl)
  have cqx:Hid (W1.cell? ⟨B+1,0,none⟩=some qx):=hid (by rw [cell_of_row _ _ _ _ _ _ HB.out];rfl)
  have cqy:Hid (W1.cell? ⟨B+1,1,none⟩=some qy):=hid (by rw [cell_of_row _ _ _ _ _ _ HB.out];rfl)
  have cqz:Hid (W1.cell? ⟨B+1,2,none⟩=some qz):=hid (by rw [cell_of_row _ _ _ _ _ _ HB.out];rfl)
  have cqt:Hid (W1.cell? ⟨B+1,3,none⟩=some qt):=hid (by rw [cell_of_row _ _ _ _ _ _ HB.out];rfl)
  refine qaC 11 77 [(Told.val (.pointer (some ⟨B,1,none⟩)),[3]),
  (Told.val py,[26]),
  (Told.val (.pointer (some ⟨B,0,none⟩)),[3]),
  (Told.val px,[28]),
  (tDig a1,[27,29]),
  (Told.val (.pointer (some ⟨B+1,1,none⟩)),[4]),
  (Told.val qy,[31]),
  (Told.val (.pointer (some ⟨B+1,0,none⟩)),[4]),
  (Told.val qx,[33]),
  (tDig a2,[32,34]),
  (tDig sb,[30,35])]
   (by kernel_rfl) (by kernel_rfl) rfl ?_ ?_
  ·simp only [take_succ_cons,List.take_zero,qaW,and_true]
   refine ⟨?_,?_,?_,?_,?_,?_,?_,?_,?_,?_,?_⟩
   ·intro a w hb h
    have e0:a.tmps.getD 3 undef=.pointer (some ⟨B,0,none⟩):=h 3 (by simp)
    simp only [getD_eq_getD_getElem?] at e0
    simp [go_sem,e0,qan,Told.val]
    exact Below.refl _ _
   ·intro a w hb h
    have e0:a.tmps.getD 26 undef=.pointer (some ⟨B,1,none⟩):=h 26 (by simp)
    simp only [getD_eq_getD_getElem?] at e0
    have cc:=(hb.cell (block_lt_of_cell cpy.out)).trans cpy.out
    simp [go_sem,e0,qan,Told.val,cc]
    exact Below.refl _ _
   ·intro a w hb h
    have e0:a.tmps.getD 3 undef=.pointer (some ⟨B,0,none⟩):=h 3 (by simp)
    simp only [getD_eq_getD_getElem?] at e0
    simp [go_sem,e0,qan,Told.val]
    exact Below.refl _ _
   ·intro a w hb h
    have e0:a.tmps.getD 28 undef=.pointer (some ⟨B,0,none⟩):=h 28 (by simp)
    simp only [getD_eq_getD_getElem?] at e0
    have cc:=(hb.cell (block_lt_of_cell cpx.out)).trans cpx.out
    simp [go_sem,e0,qan,Told.val,cc]
    exact Below.refl _ _
   ·intro a w hb h
    have e0:a.tmps.getD 27 undef=py:=h 27 (by simp)
    have e1:a.tmps.getD 29 undef=px:=h 29 (by simp)
    simp only [getD_eq_getD_getElem?] at e0 e1
    simp [go_sem,e0,e1,qan]
    exact digOf (A1.out py px w (Hpy.out.step hb) (Hpx.out.step hb))
   ·intro a w hb h
    have e0:a.tmps.getD 4 undef=.pointer (some ⟨B+1,0,none⟩):=h 4 (by simp)
    simp only [getD_eq_getD_getElem?] at e0
    simp [go_sem,e0,qan,Told.val]
    exact Below.refl _ _
   ·intro a w hb h
    have e0:a.tmps.getD 31 undef=.pointer (some ⟨B+1,1,none⟩):=h 31 (by simp)
    simp only [getD_eq_getD_getElem?] at e0
    have cc:=(hb.cell (block_lt_of_cell cqy.out)).trans cqy.out
    simp [go_sem,e0,qan,Told.val,cc]
    exact Below.refl _ _
   ·intro a w hb h
    have e0:a.tmps.getD 4 undef=.pointer (some ⟨B+1,0,none⟩):=h 4 (by simp)
    simp only [getD_eq_getD_getElem?] at e0
    simp [go_sem,e0,qan,Told.val]
    exact Below.refl _ _
   ·intro a w hb h
    have e0:a.tmps.getD 33 undef=.pointer (some ⟨B+1,0,none⟩):=h 33 (by simp)
    simp only [getD_eq_getD_getElem?] at e0
    have cc:=(hb.cell (block_lt_of_cell cqx.out)).trans cqx.out
    simp [go_sem,e0,qan,Told.val,cc]
    exact Below.refl _ _
   ·intro a w hb h
    have e0:a.tmps.getD 32 undef=qy:=h 32 (by simp)
    have e1:a.tmps.getD 34 undef=qx:=h 34 (by simp)
    simp only [getD_eq_getD_getElem?] at e0 e1
    simp [go_sem,e0,e1,qan]
    exact digOf (A2.out qy qx w (Hqy.out.step hb) (Hqx.out.step hb))
   ·intro a w hb h
    have f0:DigAt w (a.tmps.getD 30 undef) (digN a1):=h 30 (by simp)
    obtain ⟨u0,e0⟩:∃ u,a.tmps.getD 30 undef=u:=⟨_,rfl⟩;rw [e0] at f0
    have f1:DigAt w (a.tmps.getD 35 undef) (digN a2):=h 35 (by simp)
    obtain ⟨u1,e1⟩:∃ u,a.tmps.getD 35 undef=u:=⟨_,rfl⟩;rw [e1] at f1
    simp only [getD_eq_getD_getElem?] at e0 e1
    simp [go_sem,e0,e1,qan]
    exact digOf (A3.out u0 u1 w f0 f1)
  ·simp only [take_succ_cons,List.take_zero,drop_succ_cons,List.drop_zero,qaX,Act.put,setIfInBounds_toArray,set_cons_succ,set_cons_zero]
   rintro W2 bk v26 q26 v27 q27 v28 q28 v29 q29 u30 h30 v31 q31 v32 q32 v33 q33 v34 q34 u35 h35 u36 h36;obtain rfl:=q26.symm;obtain rfl:=q27.symm;obtain rfl:=q28.symm;obtain rfl:=q29.symm;obtain rfl:=q31.symm;obtain rfl:=q32.symm;obtain rfl:=q33.symm;obtain rfl:=q34.symm;have Hu36:Hid (DigAt W2 u36 (digN sb)):=hid h36;clear h30 h35 h36;replace Hpx:=hid (Hpx.out.step bk);replace Hpy:=hid (Hpy.out.step bk);replace Hpz:=hid (Hpz.out.step bk);replace Hpt:=hid (Hpt.out.step bk);replace Hqx:=hid (Hqx.out.step bk);replace Hqy:=hid (Hqy.out.step bk);replace Hqz:=hid (Hqz.out.step bk);replace Hqt:=hid (Hqt.out.step bk);replace Hk:=hid (Hk.out.step bk);replace Hu25:=hid (Hu25.out.step bk);replace hb:=hb.trans (bk.mono (Nat.le_of_lt (qab HA.out)));replace HA:=hid (qaa bk (qab HA.out) HA.out);replace HB:=hid (qaa bk (qab HB.out) HB.out);replace HR:=hid (qaa bk (qab HR.out) HR.out);clear bk
   go_wp2_with fail
   have cpx:Hid (W2.cell? ⟨B,0,none⟩=some px):=hid (by rw [cell_of_row _ _ _ _ _ _ HA.out];rfl)
   have cpy:Hid (W2.cell? ⟨B,1,none⟩=some py):=hid (by rw [cell_of_row _ _ _ _ _ _ HA.out];rfl)
   have cpz:Hid (W2.cell? ⟨B,2,none⟩=some pz):=hid (by rw [cell_of_row _ _ _ _ _ _ HA.out];rfl)
   have cpt:Hid (W2.cell? ⟨B,3,none⟩=some pt):=hid (by rw [cell_of_row _ _ _ _ _ _ HA.out];rfl)
   have cqx:Hid (W2.cell? ⟨B+1,0,none⟩=some qx):=hid (by rw [cell_of_row _ _ _ _ _ _ HB.out];rfl)
   have cqy:Hid (W2.cell? ⟨B+1,1,none⟩=some qy):=hid (by rw [cell_of_row _ _ _ _ _ _ HB.out];rfl)
   have cqz:Hid (W2.cell? ⟨B+1,2,none⟩=some qz):=hid (by rw [cell_of_row _ _ _ _ _ _ HB.out];rfl)
   have cqt:Hid (W2.cell? ⟨B+1,3,none⟩=some qt):=hid (by rw [cell_of_row _ _ _ _ _ _ HB.out];rfl)
   refine qaC 7 77 [(Told.val (.pointer (some ⟨B,3,none⟩)),[3]),
  (Told.val pt,[37]),
  (Told.val vk,[2]),
  (tDig t1,[38,39]),
  (Told.val (.pointer (some ⟨B+1,3,none⟩)),[4]),
  (Told.val qt,[41]),
  (tDig sc,[40,42])]
    (by kernel_rfl) (by kernel_rfl) rfl ?_ ?_
   ·simp only [take_succ_cons,List.take_zero,qaW,and_true]
    refine ⟨?_,?_,?_,?_,?_,?_,?_⟩
    ·intro a w hb h
     have e0:a.tmps.getD 3 undef=.pointer (some ⟨B,0,none⟩):=h 3 (by simp)
     simp only [getD_eq_getD_getElem?] at e0
     simp [go_sem,e0,qan,Told.val]
     exact Below.refl _ _
    ·intro a w hb h
     have e0:a.tmps.getD 37 undef=.pointer (some ⟨B,3,none⟩):=h 37 (by simp)
     simp only [getD_eq_getD_getElem?] at e0
     have cc:=(hb.cell (block_lt_of_cell cpt.out)).trans cpt.out
     simp [go_sem,e0,qan,Told.val,cc]
     exact Below.refl _ _
    ·intro a w hb h
     have e0:a.tmps.getD 2 undef=vk:=h 2 (by simp)
     simp only [getD_eq_getD_getElem?] at e0
     simp [go_sem,e0,qan,Told.val]
     exact Below.refl _ _
    ·intro a w hb h
     have e0:a.tmps.getD 38 undef=pt:=h 38 (by simp)
     have e1:a.tmps.getD 39 undef=vk:=h 39 (by simp)
     simp only [getD_eq_getD_getElem?] at e0 e1
     simp [go_sem,e0,e1,qan]
     exact digOf (T1.out pt vk w (Hpt.out.step hb) (Hk.out.step hb))
    ·intro a w hb h
     have e0:a.tmps.getD 4 undef=.pointer (some ⟨B+1,0,none⟩):=h 4 (by simp)
     simp only [getD_eq_getD_getElem?] at e0
     simp [go_sem,e0,qan,Told.val]
     exact Below.refl _ _
    ·intro a w hb h
     have e0:a.tmps.getD 41 undef=.pointer (some ⟨B+1,3,none⟩):=h 41 (by simp)
     simp only [getD_eq_getD_getElem?] at e0
     have cc:=(hb.cell (block_lt_of_cell cqt.out)).trans cqt.out
     simp [go_sem,e0,qan,Told.val,cc]
     exact Below.refl _ _
    ·intro a w hb h
     have f0:DigAt w (a.tmps.getD 40 undef) (digN t1):=h 40 (by simp)
     obtain ⟨u0,e0⟩:∃ u,a.tmps.getD 40 undef=u:=⟨_,rfl⟩;rw [e0] at f0
     have e1:a.tmps.getD 42 undef=qt:=h 42 (by simp)
     simp only [getD_eq_getD_getElem?] at e0 e1
     simp [go_sem,e0,e1,qan]
     exact digOf (T2.out u0 qt w f0 (Hqt.out.step hb))
   ·simp only [take_succ_cons,List.take_zero,drop_succ_cons,List.drop_zero,qaX,Act.put,setIfInBounds_toArray,set_cons_succ,set_cons_zero]
    rintro W3 bk v37 q37 v38 q38 v39 q39 u40 h40 v41 q41 v42 q42 u43 h43;obtain rfl:=q37.symm;obtain rfl:=q38.symm;obtain rfl:=q39.symm;obtain rfl:=q41.symm;obtain rfl:=q42.symm;have Hu43:Hid (DigAt W3 u43 (digN sc)):=hid h43;clear h40 h43;replace Hpx:=hid (Hpx.out.step bk);replace Hpy:=hid (Hpy.out.step bk);replace Hpz:=hid (Hpz.out.step bk);replace Hpt:=hid (Hpt.out.step bk);replace Hqx:=hid (Hqx.out.step bk);replace Hqy:=hid (Hqy.out.step bk);replace Hqz:=hid (Hqz.out.step bk);replace Hqt:=hid (Hqt.out.step bk);replace Hk:=hid (Hk.out.step bk);replace Hu25:=hid (Hu25.out.step bk);replace Hu36:=hid (Hu36.out.step bk);replace hb:=hb.trans (bk.mono (Nat.le_of_lt (qab HA.out)));replace HA:=hid (qaa bk (qab HA.out) HA.out);replace HB:=hid (qaa bk (qab HB.out) HB.out);replace HR:=hid (qaa bk (qab HR.out) HR.out);clear bk
    go_wp2_with fail
    have cpx:Hid (W3.cell? ⟨B,0,none⟩=some px):=hid (by rw [cell_of_row _ _ _ _ _ _ HA.out];rfl)
    have cpy:Hid (W3.cell? ⟨B,1,none⟩=some py):=hid (by rw [cell_of_row _ _ _ _ _ _ HA.out];rfl)
    have cpz:Hid (W3.cell? ⟨B,2,none⟩=some pz):=hid (by rw [cell_of_row _ _ _ _ _ _ HA.out];rfl)
    have cpt:Hid (W3.cell? ⟨B,3,none⟩=some pt):=hid (by rw [cell_of_row _ _ _ _ _ _ HA.out];rfl)
    have cqx:Hid (W3.cell? ⟨B+1,0,none⟩=some qx):=hid (by rw [cell_of_row _ _ _ _ _ _ HB.out];rfl)
    have cqy:Hid (W3.cell? ⟨B+1,1,none⟩=some qy):=hid (by rw [cell_of_row _ _ _ _ _ _ HB.out];rfl)
    have cqz:Hid (W3.cell? ⟨B+1,2,none⟩=some qz):=hid (by rw [cell_of_row _ _ _ _ _ _ HB.out];rfl)
    have cqt:Hid (W3.cell? ⟨B+1,3,none⟩=some qt):=hid (by rw [cell_of_row _ _ _ _ _ _ HB.out];rfl)
    refine qaC 8 77 [(Told.val (.pointer (some ⟨B,2,none⟩)),[3]),
  (Told.val pz,[44]),
  (Told.val (.pointer (some ⟨B,2,none⟩)),[3]),
  (Told.val pz,[46]),
  (tDig m1,[45,47]),
  (Told.val (.pointer (some ⟨B+1,2,none⟩)),[4]),
  (Told.val qz,[49]),
  (tDig sm,[48,50])]
     (by kernel_rfl) (by kernel_rfl) rfl ?_ ?_
    ·simp only [take_succ_cons,List.take_zero,qaW,and_true]
     refine ⟨?_,?_,?_,?_,?_,?_,?_,?_⟩
     ·intro a w hb h
      have e0:a.tmps.getD 3 undef=.pointer (some ⟨B,0,none⟩):=h 3 (by simp)
      simp only [getD_eq_getD_getElem?] at e0
      simp [go_sem,e0,qan,Told.val]
      exact Below.refl _ _
     ·intro a w hb h
      have e0:a.tmps.getD 44 undef=.pointer (some ⟨B,2,none⟩):=h 44 (by simp)
      simp only [getD_eq_getD_getElem?] at e0
      have cc:=(hb.cell (block_lt_of_cell cpz.out)).trans cpz.out
      simp [go_sem,e0,qan,Told.val,cc]
      exact Below.refl _ _
     ·intro a w hb h
      have e0:a.tmps.getD 3 undef=.pointer (some ⟨B,0,none⟩):=h 3 (by simp)
      simp only [getD_eq_getD_getElem?] at e0
      simp [go_sem,e0,qan,Told.val]
      exact Below.refl _ _
     ·intro a w hb h
      have e0:a.tmps.getD 46 undef=.pointer (some ⟨B,2,none⟩):=h 46 (by simp)
      simp only [getD_eq_getD_getElem?] at e0
      have cc:=(hb.cell (block_lt_of_cell cpz.out)).trans cpz.out
      simp [go_sem,e0,qan,Told.val,cc]
      exact Below.refl _ _
     ·intro a w hb h
      have e0:a.tmps.getD 45 undef=pz:=h 45 (by simp)
      have e1:a.tmps.getD 47 undef=pz:=h 47 (by simp)
      simp only [getD_eq_getD_getElem?] at e0 e1
      simp [go_sem,e0,e1,qan]
      exact digOf (M1.out pz pz w (Hpz.out.step hb) (Hpz.out.step hb))
     ·intro a w hb h
      have e0:a.tmps.getD 4 undef=.pointer (some ⟨B+1,0,none⟩):=h 4 (by simp)
      simp only [getD_eq_getD_getElem?] at e0
      simp [go_sem,e0,qan,Told.val]
      exact Below.refl _ _
     ·intro a w hb h
      have e0:a.tmps.getD 49 undef=.pointer (some ⟨B+1,2,none⟩):=h 49 (by simp)
      simp only [getD_eq_getD_getElem?] at e0
      have cc:=(hb.cell (block_lt_of_cell cqz.out)).trans cqz.out
      simp [go_sem,e0,qan,Told.val,cc]
      exact Below.refl _ _
     ·intro a w hb h
      have f0:DigAt w (a.tmps.getD 48 undef) (digN m1):=h 48 (by simp)
      obtain ⟨u0,e0⟩:∃ u,a.tmps.getD 48 undef=u:=⟨_,rfl⟩;rw [e0] at f0
      have e1:a.tmps.getD 50 undef=qz:=h 50 (by simp)
      simp only [getD_eq_getD_getElem?] at e0 e1
      simp [go_sem,e0,e1,qan]
      exact digOf (M2.out u0 qz w f0 (Hqz.out.step hb))
    ·simp only [take_succ_cons,List.take_zero,drop_succ_cons,List.drop_zero,qaX,Act.put,setIfInBounds_toArray,set_cons_succ,set_cons_zero]
     rintro W4 bk v44 q44 v45 q45 v46 q46 v47 q47 u48 h48 v49 q49 v50 q50 u51 h51;obtain rfl:=q44.symm;obtain rfl:=q45.symm;obtain rfl:=q46.symm;obtain rfl:=q47.symm;obtain rfl:=q49.symm;obtain rfl:=q50.symm;have Hu51:Hid (DigAt W4 u51 (digN sm)):=hid h51;clear h48 h51;replace Hpx:=hid (Hpx.out.step bk);replace Hpy:=hid (Hpy.out.step bk);replace Hpz:=hid (Hpz.out.step bk);replace Hpt:=hid (Hpt.out.step bk);replace Hqx:=hid (Hqx.out.step bk);replace Hqy:=hid (Hqy.out.step bk);replace Hqz:=hid (Hqz.out.step bk);replace Hqt:=hid (Hqt.out.step bk);replace Hk:=hid (Hk.out.step bk);replace Hu25:=hid (Hu25.out.step bk);replace Hu36:=hid (Hu36.out.step bk);replace Hu43:=hid (Hu43.out.step bk);replace hb:=hb.trans (bk.mono (Nat.le_of_lt (qab HA.out)));replace HA:=hid (qaa bk (qab HA.out) HA.out);replace HB:=hid (qaa bk (qab HB.out) HB.out);replace HR:=hid (qaa bk (qab HR.out) HR.out);clear bk
     go_wp2_with fail
     refine (E1.out u36 u25 W4 Hu36.out Hu25.out).mono ?_
     rintro e W5 ⟨⟨de,rfl,hde⟩,bk⟩;have Hde:=hid hde;clear hde;replace Hpx:=hid (Hpx.out.step bk);replace Hpy:=hid (Hpy.out.step bk);replace Hpz:=hid (Hpz.out.step bk);replace Hpt:=hid (Hpt.out.step bk);replace Hqx:=hid (Hqx.out.step bk);replace Hqy:=hid (Hqy.out.step bk);replace Hqz:=hid (Hqz.out.step bk);replace Hqt:=hid (Hqt.out.step bk);replace Hk:=hid (Hk.out.step bk);replace Hu25:=hid (Hu25.out.step bk);replace Hu36:=hid (Hu36.out.step bk);replace Hu43:=hid (Hu43.out.step bk);replace Hu51:=hid (Hu51.out.step bk);replace hb:=hb.trans (bk.mono (Nat.le_of_lt (qab HA.out)));replace HA:=hid (qaa bk (qab HA.out) HA.out);replace HB:=hid (qaa bk (qab HB.out) HB.out);replace HR:=hid (qaa bk (qab HR.out) HR.out);clear bk
     go_wp2_with fail
     refine (E2.out u51 u43 W5 Hu51.out Hu43.out).mono ?_
     rintro e W6 ⟨⟨df,rfl,hdf⟩,bk⟩;have Hdf:=hid hdf;clear hdf;replace Hpx:=hid (Hpx.out.step bk);replace Hpy:=hid (Hpy.out.step bk);replace Hpz:=hid (Hpz.out.step bk);replace Hpt:=hid (Hpt.out.step bk);replace Hqx:=hid (Hqx.out.step bk);replace Hqy:=hid (Hqy.out.step bk);replace Hqz:=hid (Hqz.out.step bk);replace Hqt:=hid (Hqt.out.step bk);replace Hk:=hid (Hk.out.step bk);replace Hu25:=hid (Hu25.out.step bk);replace Hu36:=hid (Hu36.out.step bk);replace Hu43:=hid (Hu43.out.step bk);replace Hu51:=hid (Hu51.out.step bk);replace Hde:=hid (Hde.out.step bk);replace hb:=hb.trans (bk.mono (Nat.le_of_lt (qab HA.out)));replace HA:=hid (qaa bk (qab HA.out) HA.out);replace HB:=hid (qaa bk (qab HB.out) HB.out);replace HR:=hid (qaa bk (qab HR.out) HR.out);clear bk
     go_wp2_with fail
     refine (E3.out u51 u43 W6 Hu51.out Hu43.out).mono ?_
     rintro e W7 ⟨⟨dg,rfl,hdg⟩,bk⟩;have Hdg:=hid hdg;clear hdg;replace Hpx:=hid (Hpx.out.step bk);replace Hpy:=hid (Hpy.out.step bk);replace Hpz:=hid (Hpz.out.step bk);replace Hpt:=hid (Hpt.out.step bk);replace Hqx:=hid (Hqx.out.step bk);replace Hqy:=hid (Hqy.out.step bk);replace Hqz:=hid (Hqz.out.step bk);replace Hqt:=hid (Hqt.out.step bk);replace Hk:=hid (Hk.out.step bk);replace Hu25:=hid (Hu25.out.step bk);replace Hu36:=hid (Hu36.out.step bk);replace Hu43:=hid (Hu43.out.step bk);replace Hu51:=hid (Hu51.out.step bk);replace Hde:=hid (Hde.out.step bk);replace Hdf:=hid (Hdf.out.step bk);replace hb:=hb.trans (bk.mono (Nat.le_of_lt (qab HA.out)));replace HA:=hid (qaa bk (qab HA.out) HA.out);replace HB:=hid (qaa bk (qab HB.out) HB.out);replace HR:=hid (qaa bk (qab HR.out) HR.out);clear bk
     go_wp2_with fail
     refine (E4.out u36 u25 W7 Hu36.out Hu25.out).mono ?_
     rintro e W8 ⟨⟨dh,rfl,hdh⟩,bk⟩;have Hdh:=hid hdh;clear hdh;replace Hpx:=hid (Hpx.out.step bk);replace Hpy:=hid (Hpy.out.step bk);replace Hpz:=hid (Hpz.out.step bk);replace Hpt:=hid (Hpt.out.step bk);replace Hqx:=hid (Hqx.out.step bk);replace Hqy:=hid (Hqy.out.step bk);replace Hqz:=hid (Hqz.out.step bk);replace Hqt:=hid (Hqt.out.step bk);replace Hk:=hid (Hk.out.step bk);replace Hu25:=hid (Hu25.out.step bk);replace Hu36:=hid (Hu36.out.step bk);replace Hu43:=hid (Hu43.out.step bk);replace Hu51:=hid (Hu51.out.step bk);replace Hde:=hid (Hde.out.step bk);replace Hdf:=hid (Hdf.out.step bk);replace Hdg:=hid (Hdg.out.step bk);replace hb:=hb.trans (bk.mono (Nat.le_of_lt (qab HA.out)));replace HA:=hid (qaa bk (qab HA.out) HA.out);replace HB:=hid (qaa bk (qab HB.out) HB.out);replace HR:=hid (qaa bk (qab HR.out) HR.out);clear bk
     go_wp2_with fail
     refine (X1.out de df W8 Hde.out Hdf.out).mono ?_
     rintro e W9 ⟨⟨dx,rfl,hdx⟩,bk⟩;have Hdx:=hid hdx;clear hdx;replace Hpx:=hid (Hpx.out.step bk);replace Hpy:=hid (Hpy.out.step bk);replace Hpz:=hid (Hpz.out.step bk);replace Hpt:=hid (Hpt.out.step bk);replace Hqx:=hid (Hqx.out.step bk);replace Hqy:=hid (Hqy.out.step bk);replace Hqz:=hid (Hqz.out.step bk);replace Hqt:=hid (Hqt.out.step bk);replace Hk:=hid (Hk.out.step bk);replace Hu25:=hid (Hu25.out.step bk);replace Hu36:=hid (Hu36.out.step bk);replace Hu43:=hid (Hu43.out.step bk);replace Hu51:=hid (Hu51.out.step bk);replace Hde:=hid (Hde.out.step bk);replace Hdf:=hid (Hdf.out.step bk);replace Hdg:=hid (Hdg.out.step bk);replace Hdh:=hid (Hdh.out.step bk);replace hb:=hb.trans (bk.mono (Nat.le_of_lt (qab HA.out)));replace HA:=hid (qaa bk (qab HA.out) HA.out);replace HB:=hid (qaa bk (qab HB.out) HB.out);replace HR:=hid (qaa bk (qab HR.out) HR.out);clear bk
     go_wp2_with fail
     refine (X2.out dg dh W9 Hdg.out Hdh.out).mono ?_
     rintro e W10 ⟨⟨dy,rfl,hdy⟩,bk⟩;have Hdy:=hid hdy;clear hdy;replace Hpx:=hid (Hpx.out.step bk);replace Hpy:=hid (Hpy.out.step bk);replace Hpz:=hid (Hpz.out.step bk);replace Hpt:=hid (Hpt.out.step bk);replace Hqx:=hid (Hqx.out.step bk);replace Hqy:=hid (Hqy.out.step bk);replace Hqz:=hid (Hqz.out.step bk);replace Hqt:=hid (Hqt.out.step bk);replace Hk:=hid (Hk.out.step bk);replace Hu25:=hid (Hu25.out.step bk);replace Hu36:=hid (Hu36.out.step bk);replace Hu43:=hid (Hu43.out.step bk);replace Hu51:=hid (Hu51.out.step bk);replace Hde:=hid (Hde.out.step bk);replace Hdf:=hid (Hdf.out.step bk);replace Hdg:=hid (Hdg.out.step bk);replace Hdh:=hid (Hdh.out.step bk);replace Hdx:=hid (Hdx.out.step bk);replace hb:=hb.trans (bk.mono (Nat.le_of_lt (qab HA.out)));replace HA:=hid (qaa bk (qab HA.out) HA.out);replace HB:=hid (qaa bk (qab HB.out) HB.out);replace HR:=hid (qaa bk (qab HR.out) HR.out);clear bk
     go_wp2_with fail
     refine (X3.out df dg W10 Hdf.out Hdg.out).mono ?_
     rintro e W11 ⟨⟨dz,rfl,hdz⟩,bk⟩;have Hdz:=hid hdz;clear hdz;replace Hpx:=hid (Hpx.out.step bk);replace Hpy:=hid (Hpy.out.step bk);replace Hpz:=hid (Hpz.out.step bk);replace Hpt:=hid (Hpt.out.step bk);replace Hqx:=hid (Hqx.out.step bk);replace Hqy:=hid (Hqy.out.step bk);replace Hqz:=hid (Hqz.out.step bk);replace Hqt:=hid (Hqt.out.step bk);replace Hk:=hid (Hk.out.step bk);replace Hu25:=hid (Hu25.out.step bk);replace Hu36:=hid (Hu36.out.step bk);replace Hu43:=hid (Hu43.out.step bk);replace Hu51:=hid (Hu51.out.step bk);replace Hde:=hid (Hde.out.step bk);replace Hdf:=hid (Hdf.out.step bk);replace Hdg:=hid (Hdg.out.step bk);replace Hdh:=hid (Hdh.out.step bk);replace Hdx:=hid (Hdx.out.step bk);replace Hdy:=hid (Hdy.out.step bk);replace hb:=hb.trans (bk.mono (Nat.le_of_lt (qab HA.out)));replace HA:=hid (qaa bk (qab HA.out) HA.out);replace HB:=hid (qaa bk (qab HB.out) HB.out);replace HR:=hid (qaa bk (qab HR.out) HR.out);clear bk
     go_wp2_with fail
     refine (X4.out de dh W11 Hde.out Hdh.out).mono ?_
     rintro e W12 ⟨⟨dt,rfl,hdt⟩,bk⟩;have Hdt:=hid hdt;clear hdt;replace Hpx:=hid (Hpx.out.step bk);replace Hpy:=hid (Hpy.out.step bk);replace Hpz:=hid (Hpz.out.step bk);replace Hpt:=hid (Hpt.out.step bk);replace Hqx:=hid (Hqx.out.step bk);replace Hqy:=hid (Hqy.out.step bk);replace Hqz:=hid (Hqz.out.step bk);replace Hqt:=hid (Hqt.out.step bk);replace Hk:=hid (Hk.out.step bk);replace Hu25:=hid (Hu25.out.step bk);replace Hu36:=hid (Hu36.out.step bk);replace Hu43:=hid (Hu43.out.step bk);replace Hu51:=hid (Hu51.out.step bk);replace Hde:=hid (Hde.out.step bk);replace Hdf:=hid (Hdf.out.step bk);replace Hdg:=hid (Hdg.out.step bk);replace Hdh:=hid (Hdh.out.step bk);replace Hdx:=hid (Hdx.out.step bk);replace Hdy:=hid (Hdy.out.step bk);replace Hdz:=hid (Hdz.out.step bk);replace hb:=hb.trans (bk.mono (Nat.le_of_lt (qab HA.out)));replace HA:=hid (qaa bk (qab HA.out) HA.out);replace HB:=hid (qaa bk (qab HB.out) HB.out);replace HR:=hid (qaa bk (qab HR.out) HR.out);clear bk;have hbd:=build_pt Hdx.out Hdy.out Hdz.out Hdt.out;have HSz:=hid (qc6 dx dy dz dt);have HO:=hid (qbS dx dy dz dt);have H11:=hid (qf9 Hdx.out Hdy.out Hdz.out Hdt.out)
     go_wp2_with (first
      | (with_reducible refine qdi rfl _ _ _ _ rfl dx dy dz dt rfl rfl rfl rfl hbd ?_)
      | (with_reducible refine wpList_store_row rfl 82 _ _ rfl (B+1+1) #[dx,dy,dz,dt] rfl rfl 82 _ HR.out HSz.out HO.out H11.out ?_))
     have H5:PtAt W12 (.agg #[dx,dy,dz,dt]) ⟨nx,ny,nz,nt⟩:=⟨dx,dy,dz,dt,rfl,Hdx.out,Hdy.out,Hdz.out,Hdt.out⟩;have H6:=H5.rowed HR.out ⟨_,_,_,rfl⟩ #[dx,dy,dz,dt];rw [← HS.out] at H6
     exact bodyPost_ret (v:=.agg #[dx,dy,dz,dt]) (results_cell_row (by rfl) _ _ (B+1+1) 82 _ (0,0) _ rfl (setRow_heap _ _ _ _ _ _ HR.out) Tryz.underlying82 rfl HSz.out) rfl ⟨⟨_,rfl,H6⟩,by rw [HBB.out];exact below_setRow hb (by omega) _⟩
end
section
open Go.RowKit Go.Sort
theorem qbo {P:Program} {w:World} {v:Value} {r:Result Next} (h:qac P w v r):qan P w (Told.val v) r:=by
 cases r with
 | ok n w'=>
  cases n <;> simp only [qac] at h <;> simp only [qan]
  case value u=>obtain ⟨rfl,rfl⟩:=h;exact ⟨Below.refl _ _,rfl⟩
  case enter f args=>
   obtain ⟨rfl,hc⟩:=h
   exact ⟨rfl,hc.mono fun e w'' ⟨he,hb⟩=>⟨v,he,rfl,hb⟩⟩
 | halt x w'=>simp only [qac] at h
theorem PtAt.one {w:World} {a b c d:Value} {p:PtN} (h:PtAt w (.agg #[a,b,c,d]) p):(#[a,b,c,d]:Array Value).all (·.oneCell')=true:=by
 obtain ⟨vx,vy,vz,vt,he,h1,h2,h3,h4⟩:=h
 injection he with he
 injection he with he
 simp only [List.cons.injEq,and_true] at he
 obtain ⟨rfl,rfl,rfl,rfl⟩:=he;exact qf9 h1 h2 h3 h4
theorem PtAt.first {w:World} {a b c d:Value} {p:PtN} (h:PtAt w (.agg #[a,b,c,d]) p):∃ x n e,(#[a,b,c,d]:Array Value)[0]?=some (.slice x n e):=by
 obtain ⟨vx,vy,vz,vt,he,h1,h2,h3,h4⟩:=h
 injection he with he
 injection he with he
 simp only [List.cons.injEq,and_true] at he
 obtain ⟨rfl,rfl,rfl,rfl⟩:=he;obtain ⟨D,cap,rfl⟩:=h1.slice;exact ⟨_,_,_,rfl⟩
theorem PtAt.four {w:World} {v:Value} {p:PtN} (h:PtAt w v p):∃ a b c d,v=.agg #[a,b,c,d]:=by
 obtain ⟨vx,vy,vz,vt,rfl,_⟩:=h;exact ⟨_,_,_,_,rfl⟩
end
section
open Go.RowKit Go.Sort
theorem and_1p (y:Nat) (h:y<256):bits .and .u8 (y:Int) 1=((y%2:Nat):Int):=by
 have h1:(BitVec.ofInt 8 1).toNat=2^1-1:=by decide
 have key:(BitVec.ofInt 8 (y:Int) &&& BitVec.ofInt 8 1).toNat=((y:Int)%((2^8:Nat):Int)).toNat%2^1:=by
  rw [BitVec.toNat_and,BitVec.toNat_ofInt,h1,Nat.and_two_pow_sub_one_eq_mod]
 show IntKind.u8.wrap ((BitVec.ofInt 8 (y:Int) &&& BitVec.ofInt 8 1).toNat:Nat)=_
 rw [key,IntKind.wrap_u8]
 omega
theorem bitP_u8 (l:List UInt8) (i:Nat):bits .and .u8 (((l.getD (i / 8) 0).toNat:Int) / 2^(i%8)) 1=((bitP l i:Nat):Int):=by
 have h:(((l.getD (i / 8) 0).toNat:Int) / 2^(i%8))=(((l.getD (i / 8) 0).toNat / 2^(i%8):Nat):Int):=by simp
 rw [h,and_1p _ (Nat.lt_of_le_of_lt (Nat.div_le_self _ _) (UInt8.toNat_lt _))]
 rfl
set_option maxHeartbeats 4000000 in
theorem rmulOk_any (vp:Value) (p:PtN) (s:ByteArray) (w:World) (hp:p.Ok) (h1:PtAt w vp p) (hs:s.size=32) :
  Calls Tryz.prog 82 #[vp,.string s] w fun e w'=>(∃ d',e=.returned (.tuple #[d',.int .i64 0])∧PtAt w' d' (mulP p s.data.toList 256))∧Below w.heap.size w w':=by
 obtain ⟨hz,hi⟩:=zero_of_info infoR
 have hd:((s.size:Int) != 32)=false:=by simp [hs]
 obtain ⟨a1,b1,c1,d1,rfl⟩:=h1.four;have hb:=qaP w (.cells #[a1,b1,c1,d1] 82) (.cells zeroR 82);have HA:=hid (qaj (o:=.cells zeroR 82) (qag w (.cells #[a1,b1,c1,d1] 82)));have HR:=hid (qaw w (.cells #[a1,b1,c1,d1] 82) (.cells zeroR 82));have HP:=hid (h1.step hb);have HS:=hid hs
 have C1:=hid (fun W=>rtwo_any W)
 have C2:=hid (fun W=>qfy W)
 have C3:=hid (fun v k m W g1 g3=>rtog_any v v k (mulP p s.data.toList m) (mulP p s.data.toList m) W (mulP_ok _ _ _) (mulP_ok _ _ _) g1 g1 g3)
 have C4:=hid (fun v k q W (hq:q.Ok) g1 g2 g3=>rtog_any v (.agg #[a1,b1,c1,d1]) k q p W hq hp g1 g2 g3)
 have S1:=hid (qc6 a1 b1 c1 d1)
 have HM:=hid (fun m=>show mulP p s.data.toList (m+1)=if bitP s.data.toList (255-m)=1 then sumP (sumP (mulP p s.data.toList m) (mulP p s.data.toList m)) p else sumP (mulP p s.data.toList m) (mulP p s.data.toList m) from rfl)
 have HBit:=hid (fun i=>bitP_u8 s.data.toList i)
 have HB2:=hid (fun i=>bitP_two s.data.toList i)
 clear hi h1 hp hs
 go_enter Tryz.func82,Tryz.ntmps82
 go_wp2_with fail
 clear hz;generalize ((w.alloc _).alloc _)=W0 at *;generalize hBB:w.heap.size=B at *;have HBB:=hid hBB;clear hBB hd
 refine (C1.out W0).mono ?_
 rintro e W1 ⟨⟨vk,rfl,hk⟩,bk⟩;have HK:=hid hk;replace HP:=hid (HP.out.step bk);replace hb:=hb.trans (bk.mono (Nat.le_of_lt (qab HA.out)));replace HA:=hid (qaa bk (qab HA.out) HA.out);replace HR:=hid (qaa bk (qab HR.out) HR.out);clear hk bk C1
 go_wp2_with fail
 refine (C2.out W1).mono ?_
 rintro e W2 ⟨⟨vo,rfl,ho⟩,bk⟩;replace HK:=hid (HK.out.step bk);replace HP:=hid (HP.out.step bk);replace hb:=hb.trans (bk.mono (Nat.le_of_lt (qab HA.out)));replace HA:=hid (qaa bk (qab HA.out) HA.out);replace HR:=hid (qaa bk (qab HR.out) HR.out);clear bk C2;obtain ⟨x0,y0,z0,t0,rfl⟩:=ho.four;have S0:=hid (qc6 x0 y0 z0 t0);have O0:=hid (qbS x0 y0 z0 t0);have N0:=hid ho.one;obtain ⟨hz,hi⟩:=zero_of_info infoR;clear hi;have HO:=hid ho;clear ho;have HN:=hid (qag W2 (.cells zeroR 82))
 go_wp2_with (with_reducible refine wpList_store_row rfl 82 _ _ rfl W2.heap.size #[x0,y0,z0,t0] rfl rfl 82 _ HN.out S0.out O0.out N0.out ?_)
 have hbM:Below W2.heap.size W2 ((W2.alloc (.cells zeroR 82)).setRow W2.heap.size #[x0,y0,z0,t0]):=below_setRow (qah W2 _) (Nat.le_refl _) _;have HMr:=hid (setRow_heap _ W2.heap.size _ #[x0,y0,z0,t0] _ _ HN.out);replace HK:=hid (HK.out.step hbM);replace HP:=hid (HP.out.step hbM);replace HO:=hid (HO.out.step hbM);have hBM:B+1<W2.heap.size:=qab HR.out
 replace hb:=hb.trans (hbM.mono (by omega))
 replace HA:=hid (qaa hbM (qab HA.out) HA.out);replace HR:=hid (qaa hbM (qab HR.out) HR.out);clear hbM HN S0 O0 N0 hz;generalize (W2.alloc (.cells zeroR 82)).setRow W2.heap.size #[x0,y0,z0,t0]=V0 at *;generalize W2.heap.size=M at *
 go_loopw [8] (fun iv wr=>∃ i:Nat,i≤256∧iv=.int .i64 ((i:Int)-1)∧(∃ x y z t,wr.heap[M]?=some (.cells #[x,y,z,t] 82)∧PtAt wr (.agg #[x,y,z,t]) (mulP p s.data.toList (256-i)))∧PtAt wr (.agg #[a1,b1,c1,d1]) p∧DigAt wr vk (digN twoF)∧wr.heap[B]?=some (.cells #[a1,b1,c1,d1] 82)∧wr.heap[B+1]?=some (.cells zeroR 82)∧Below B w wr) (fun iv _=>(intOf iv+1).toNat)
 case atStart=>exact ⟨256,by omega,rfl,⟨x0,y0,z0,t0,HMr.out,HO.out⟩,HP.out,HK.out,HA.out,HR.out,hb⟩
 case round=>
  clear HMr HO HP HK HA HR hb;obtain ⟨i,hi,rfl,⟨x,y,z,t,hm,ho⟩,hp,hk,ha,hr,hb⟩:=hrel;have HMr:=hid hm;have HO:=hid ho;have HP:=hid hp;have HK:=hid hk;have HA:=hid ha;have HR:=hid hr;clear hm ho hp hk ha hr;have SO:=hid (qc6 x y z t)
  by_cases hi0:i=0
  ·subst hi0
   have hd:decide ((0:Int)≤((0:Nat):Int)-1)=false:=by decide
   have OO:=hid (qbS x y z t);have NO:=hid HO.out.one;have H6:=hid (HO.out.rowed HR.out ⟨_,_,_,rfl⟩ #[x,y,z,t])
   go_wp2_with (first
    | (with_reducible refine wpList_load_row rfl 82 _ rfl M rfl 82 _ (0,0) _ HMr.out Tryz.underlying82 rfl SO.out ?_)
    | (with_reducible refine wpList_store_row rfl 82 _ _ rfl (B+1) #[x,y,z,t] rfl rfl 82 _ HR.out SO.out OO.out NO.out ?_))
   exact bodyPost_ret (qax (by rfl) _ _ (B+1) 82 _ (0,0) _ rfl (setRow_heap _ _ _ _ _ _ HR.out) Tryz.underlying82 rfl SO.out) rfl ⟨⟨_,rfl,H6.out⟩,by rw [HBB.out];exact below_setRow hb (by omega) _⟩
  ·obtain ⟨j,rfl⟩:∃ j,i=j+1:=⟨i-1,by omega⟩
   have hcast:((j+1:Nat):Int)-1=(j:Int):=by omega
   rw [hcast]
   have hd:decide ((0:Int)≤(j:Int))=true:=by simp
   have hj:j<256:=by omega
   have hms:=HM.out (256-(j+1))
   rw [show 256-(j+1)+1=256-j by omega,show 255-(256-(j+1))=j by omega] at hms
   have HMS:=hid hms
   have hin:j / 8<s.size:=by rw [HS.out];omega
   have hbit:=HBit.out j;rw [qcK s _ hin] at hbit;have hb2:=HB2.out j
   have C3':=hid (fun W g1 g3=>C3.out (.agg #[x,y,z,t]) vk (256-(j+1)) W g1 g3)
   have hok:=hid (sumP_ok (mulP p s.data.toList (256-(j+1))) (mulP p s.data.toList (256-(j+1))));generalize mulP p s.data.toList (256-(j+1))=o at *;generalize sumP o o=o2 at *;generalize bitP s.data.toList j=bt at *
   have e1:((j:Int) / 8).toNat=j / 8:=by omega
   have e2:((j:Int)%8).toNat=j%8:=by omega
   clear hms hcast hi
   go_wp2_with (with_reducible refine wpList_load_row rfl 82 _ rfl M rfl 82 _ (0,0) _ HMr.out Tryz.underlying82 rfl SO.out ?_)
   refine (C3'.out wr HO.out HK.out).mono ?_
   rintro e W3 ⟨⟨v3,rfl,h3⟩,bk⟩;obtain ⟨x3,y3,z3,t3,rfl⟩:=h3.four
   have hfir:=HO.out.first
   have HM3:=hid (qaa bk (qab HMr.out) HMr.out);have S3:=hid (qc6 x3 y3 z3 t3);have N3:=hid h3.one;have O3:Hid ((#[x,y,z,t]:Array Value).size=(#[x3,y3,z3,t3]:Array Value).size):=hid rfl;have HO3:=hid (h3.rowed HM3.out hfir #[x3,y3,z3,t3]);have HP3:=hid ((HP.out.step bk).rowed HM3.out hfir #[x3,y3,z3,t3]);have HK3:=hid ((HK.out.step bk).rowed HM3.out hfir #[x3,y3,z3,t3])
   have HA3:Hid ((W3.setRow M #[x3,y3,z3,t3]).heap[B]?=some (.cells #[a1,b1,c1,d1] 82)):=hid (by rw [setRow_other _ _ _ _ (by omega)];exact qaa bk (qab HA.out) HA.out)
   have HR3:Hid ((W3.setRow M #[x3,y3,z3,t3]).heap[B+1]?=some (.cells zeroR 82)):=hid (by rw [setRow_other _ _ _ _ (by omega)];exact qaa bk (qab HR.out) HR.out)
   have hb3:Below B w (W3.setRow M #[x3,y3,z3,t3]):=below_setRow (hb.trans (bk.mono (Nat.le_of_lt (qab HA.out)))) (by omega) _
   have HMq:=hid (setRow_heap W3 M _ #[x3,y3,z3,t3] _ _ HM3.out);clear HMr HO HP HK HA HR hb bk h3 hfir C3'
   rcases hb2 with rfl | rfl
   ·rw [if_neg (by decide)] at HMS
    rw [← HMS.out] at HO3;have hbit:bits .and .u8 ((s[j / 8].toNat:Int) / 2^(j%8)) 1=0:=hbit
    go_wp2_with (with_reducible refine wpList_store_row rfl 82 _ _ rfl M #[x3,y3,z3,t3] rfl rfl 82 _ HM3.out S3.out O3.out N3.out ?_)
    go_roundw
    case rel=>exact ⟨j,by omega,by go_num,⟨x3,y3,z3,t3,HMq.out,HO3.out⟩,HP3.out,HK3.out,HA3.out,HR3.out,hb3⟩
    case measure=>simp [intOf] <;> omega
   ·rw [if_pos rfl] at HMS
    have hbit:bits .and .u8 ((s[j / 8].toNat:Int) / 2^(j%8)) 1=1:=hbit
    have C5:=hid (fun W g1 g2 g3=>C4.out (.agg #[x3,y3,z3,t3]) vk o2 W hok.out g1 g2 g3)
    rw [← HMS.out] at C5;have S1':=S1
    go_wp2_with (first
     | (with_reducible refine wpList_store_row rfl 82 _ _ rfl M #[x3,y3,z3,t3] rfl rfl 82 _ HM3.out S3.out O3.out N3.out ?_)
     | (with_reducible refine wpList_load_row rfl 82 _ rfl M rfl 82 _ (0,0) _ HMq.out Tryz.underlying82 rfl S3.out ?_)
     | (with_reducible refine wpList_load_row rfl 82 _ rfl B rfl 82 _ (0,0) _ HA3.out Tryz.underlying82 rfl S1.out ?_))
    clear HM3 O3 N3;generalize W3.setRow M #[x3,y3,z3,t3]=V3 at *
    refine (C5.out V3 HO3.out HP3.out HK3.out).mono ?_
    rintro e W4 ⟨⟨v4,rfl,h4⟩,bk⟩;obtain ⟨x4,y4,z4,t4,rfl⟩:=h4.four
    have hfir:=HO3.out.first
    have HM4:=hid (qaa bk (qab HMq.out) HMq.out);have S4:=hid (qc6 x4 y4 z4 t4);have N4:=hid h4.one;have O4:Hid ((#[x3,y3,z3,t3]:Array Value).size=(#[x4,y4,z4,t4]:Array Value).size):=hid rfl;have HO4:=hid (h4.rowed HM4.out hfir #[x4,y4,z4,t4]);have HP4:=hid ((HP3.out.step bk).rowed HM4.out hfir #[x4,y4,z4,t4]);have HK4:=hid ((HK3.out.step bk).rowed HM4.out hfir #[x4,y4,z4,t4])
    have HA4:Hid ((W4.setRow M #[x4,y4,z4,t4]).heap[B]?=some (.cells #[a1,b1,c1,d1] 82)):=hid (by rw [setRow_other _ _ _ _ (by omega)];exact qaa bk (qab HA3.out) HA3.out)
    have HR4:Hid ((W4.setRow M #[x4,y4,z4,t4]).heap[B+1]?=some (.cells zeroR 82)):=hid (by rw [setRow_other _ _ _ _ (by omega)];exact qaa bk (qab HR3.out) HR3.out)
    have hb4:Below B w (W4.setRow M #[x4,y4,z4,t4]):=below_setRow (hb3.trans (bk.mono (Nat.le_of_lt (qab HA3.out)))) (by omega) _
    have HMq4:=hid (setRow_heap W4 M _ #[x4,y4,z4,t4] _ _ HM4.out);clear HMq HO3 HP3 HK3 HA3 HR3 hb3 bk h4 hfir C5
    go_wp2_with (with_reducible refine wpList_store_row rfl 82 _ _ rfl M #[x4,y4,z4,t4] rfl rfl 82 _ HM4.out S4.out O4.out N4.out ?_)
    go_roundw
    case rel=>exact ⟨j,by omega,by go_num,⟨x4,y4,z4,t4,HMq4.out,HO4.out⟩,HP4.out,HK4.out,HA4.out,HR4.out,hb4⟩
    case measure=>simp [intOf] <;> omega
set_option maxHeartbeats 1000000 in
theorem rmulBad_any (vp:Value) (p:PtN) (s:ByteArray) (w:World) (h1:PtAt w vp p) (hs:s.size≠32) :
  Calls Tryz.prog 82 #[vp,.string s] w fun e w'=>(∃ d',e=.returned (.tuple #[d',.int .i64 1])∧PtAt w' d' zeroP)∧Below w.heap.size w w':=by
 obtain ⟨hz,hi⟩:=zero_of_info infoR
 have hd:((s.size:Int) != 32)=true:=by simp;omega
 obtain ⟨a1,b1,c1,d1,rfl⟩:=h1.four;have hb:=qaP w (.cells #[a1,b1,c1,d1] 82) (.cells zeroR 82);have HR:=hid (qaw w (.cells #[a1,b1,c1,d1] 82) (.cells zeroR 82))
 have C2:=hid (fun W=>qfy W)
 clear hi h1 hs
 go_enter Tryz.func82,Tryz.ntmps82
 go_wp2_with fail
 clear hz;generalize ((w.alloc _).alloc _)=W0 at *;generalize hBB:w.heap.size=B at *;have HBB:=hid hBB;clear hBB hd
 refine (C2.out W0).mono ?_
 rintro e W1 ⟨⟨v1,rfl,h1⟩,bk⟩;obtain ⟨x,y,z,t,rfl⟩:=h1.four
 replace hb:=hb.trans (bk.mono (by have:=qab HR.out;omega))
 replace HR:=hid (qaa bk (qab HR.out) HR.out);have SO:=hid (qc6 x y z t);have OO:=hid (qbS x y z t);have NO:=hid h1.one;have H6:=hid (h1.rowed HR.out ⟨_,_,_,rfl⟩ #[x,y,z,t]);clear bk h1 C2
 go_wp2_with (with_reducible refine wpList_store_row rfl 82 _ _ rfl (B+1) #[x,y,z,t] rfl rfl 82 _ HR.out SO.out OO.out NO.out ?_)
 exact bodyPost_ret (qax (by rfl) _ _ (B+1) 82 _ (0,0) _ rfl (setRow_heap _ _ _ _ _ _ HR.out) Tryz.underlying82 rfl SO.out) rfl ⟨⟨_,rfl,H6.out⟩,by rw [HBB.out];exact below_setRow hb (by omega) _⟩
end
section
open Go.RowKit Go.Sort
theorem or_bit7 (b:UInt8) (n:Nat) (hb:b.toNat<128) (hn:n<2):bits .or .u8 (b.toNat:Int) ((n:Int)*128)=((b.toNat+128*n:Nat):Int):=by
 have e1:(BitVec.ofInt 8 (b.toNat:Int)).toNat=b.toNat:=by rw [BitVec.toNat_ofInt];omega
 have e2:(BitVec.ofInt 8 ((n:Int)*128)).toNat=2^7*n:=by rw [BitVec.toNat_ofInt];omega
 have h:=Nat.two_pow_add_eq_or_of_lt (show b.toNat<2^7 by omega) n
 show IntKind.u8.wrap (((BitVec.ofInt 8 (b.toNat:Int) ||| BitVec.ofInt 8 ((n:Int)*128)).toNat:Nat):Int)=_
 rw [BitVec.toNat_or,e1,e2,Nat.or_comm,← h,IntKind.wrap_u8]
 omega
theorem leF_top (y n:Nat) (hy:y<57896044618658097711785492504343953926634992332820282019728792003956564819968) (hn:n<2):((leF y 32).getD 31 0).toNat<128∧(leF y 32).set 31 (UInt8.ofNat (((leF y 32).getD 31 0).toNat+128*n))=leF (y+n*57896044618658097711785492504343953926634992332820282019728792003956564819968) 32:=by
 have e31:(256:Nat)^31=452312848583266388373324160190187140051835877600158453279131187530910662656:=by decide
 have hg:((leF y 32).getD 31 0).toNat=y / 256^31:=by
  rw [leF_get _ _ _ (by decide),UInt8.toNat_ofNat',e31]
  omega
 constructor
 ·rw [hg,e31];omega
 ·rw [hg]
  apply List.ext_getElem (by rw [List.length_set,qa2,qa2])
  intro i h1 h2;rw [qa2] at h2
  simp only [leF,List.getElem_set,List.getElem_map,List.getElem_range]
  by_cases h31:31=i
  ·subst h31
   rw [if_pos rfl]
   apply UInt8.toNat_inj.1
   rw [UInt8.toNat_ofNat',UInt8.toNat_ofNat',e31]
   omega
  ·rw [if_neg h31]
   apply UInt8.toNat_inj.1
   rw [UInt8.toNat_ofNat',UInt8.toNat_ofNat']
   have hd:57896044618658097711785492504343953926634992332820282019728792003956564819968=256^i*(256*(256^(30-i)*128)):=by
    rw [show 256^i*(256*(256^(30-i)*128))=256^i*256*256^(30-i)*128 by simp only [Nat.mul_assoc],← Nat.pow_succ,← Nat.pow_add,show i+1+(30-i)=31 by omega,e31]
   rw [hd,Nat.mul_left_comm n,Nat.add_mul_div_left _ _ (Nat.pow_pos (by decide)),Nat.mul_left_comm n,Nat.add_mul_mod_self_left]
set_option maxHeartbeats 4000000 in
theorem rbytes_any (vp:Value) (p:PtN) (w:World) (hp:p.Ok) (h1:PtAt w vp p) :
  Calls Tryz.prog 84 #[vp] w fun e w'=>e=.returned (.string ⟨(bytP p).toArray⟩)∧Below w.heap.size w w':=by
 obtain ⟨px,py,pz,pt,rfl,kx,ky,kz,kt⟩:=h1;have hb:=qah w (.cells #[px,py,pz,pt] 82);have HA:=hid (qag w (.cells #[px,py,pz,pt] 82));have Hpx:=hid (kx.step hb);have Hpy:=hid (ky.step hb);have Hpz:=hid (kz.step hb)
 have C1:=hid (fun W g=>qeS pz p.z W hp.2.2.1 g)
 have C2:=hid (fun d W g1 g2=>qaR px d p.x (invF p.z) W hp.1 (qaU _ _) g1 g2)
 have C3:=hid (fun d W g1 g2=>qaR py d p.y (invF p.z) W hp.2.1 (qaU _ _) g1 g2)
 have hy:mulF p.y (invF p.z)<57896044618658097711785492504343953926634992332820282019728792003956564819968:=Nat.lt_trans (qaM _ _) (by decide)
 obtain ⟨t1,t2⟩:=leF_top (mulF p.y (invF p.z)) (mulF p.x (invF p.z)%2) hy (by omega)
 have HT2:Hid ((leF (mulF p.y (invF p.z)) 32).set 31 (UInt8.ofNat (((leF (mulF p.y (invF p.z)) 32).getD 31 0).toNat+128*(mulF p.x (invF p.z)%2)))=bytP p):=hid t2
 have C4:=hid (fun d W g=>qfd d (mulF p.y (invF p.z)) W g)
 have hg0:=qbm (mulF p.x (invF p.z)) 0 (by decide)
 have hll:=qa2 (mulF p.y (invF p.z)) 32;generalize hbp:bytP p=bp at *;have HBP:=hid hbp;generalize invF p.z=i at *;generalize p.x=nx at *;generalize p.y=ny at *;generalize p.z=nz at *;generalize mulF nx i=mx at *;generalize mulF ny i=my at *;clear kx ky kz kt hp t2 hy hbp
 go_enter Tryz.func84,Tryz.ntmps84
 go_upto_region 1 with fail
 generalize (w.alloc _)=W0 at *;generalize hBB:w.heap.size=B at *;have HBB:=hid hBB;clear hBB
 have cz:W0.cell? ⟨B,2,none⟩=some pz:=by rw [cell_of_row _ _ _ _ _ _ HA.out];rfl
 go_wp2_with fail
 clear cz
 refine (C1.out W0 Hpz.out).mono ?_
 rintro e W1 ⟨⟨di,rfl,hd⟩,bk⟩;have Hdi:=hid hd;replace Hpx:=hid (Hpx.out.step bk);replace Hpy:=hid (Hpy.out.step bk);replace hb:=hb.trans (bk.mono (Nat.le_of_lt (qab HA.out)));replace HA:=hid (qaa bk (qab HA.out) HA.out);clear hd bk C1 Hpz
 have cx:W1.cell? ⟨B,0,none⟩=some px:=by rw [cell_of_row _ _ _ _ _ _ HA.out];rfl
 go_wp2_with fail
 clear cx
 refine (C2.out di W1 Hpx.out Hdi.out).mono ?_
 rintro e W2 ⟨⟨dx,rfl,hd⟩,bk⟩;have Hdx:=hid hd;replace Hdi:=hid (Hdi.out.step bk);replace Hpy:=hid (Hpy.out.step bk);replace hb:=hb.trans (bk.mono (Nat.le_of_lt (qab HA.out)));replace HA:=hid (qaa bk (qab HA.out) HA.out);clear hd bk C2 Hpx
 have cy:W2.cell? ⟨B,1,none⟩=some py:=by rw [cell_of_row _ _ _ _ _ _ HA.out];rfl
 go_wp2_with fail
 clear cy
 refine (C3.out di W2 Hpy.out Hdi.out).mono ?_
 rintro e W3 ⟨⟨dy,rfl,hd⟩,bk⟩;have Hdy:=hid hd;replace Hdx:=hid (Hdx.out.step bk);replace hb:=hb.trans (bk.mono (Nat.le_of_lt (qab HA.out)));replace HA:=hid (qaa bk (qab HA.out) HA.out);clear hd bk C3 Hpy Hdi
 go_wp2_with fail
 refine (C4.out dy W3 Hdy.out).mono ?_
 rintro e W4 ⟨rfl,bk⟩;replace Hdx:=hid (Hdx.out.step bk);replace hb:=hb.trans (bk.mono (Nat.le_of_lt (qab HA.out)));have hB4:B≤W4.heap.size:=Nat.le_trans (Nat.le_of_lt (qab HA.out)) bk.size;clear bk C4 Hdy HA;obtain ⟨ca,hcv,howa,hbo⟩:=qdU ⟨(leF my 32).toArray⟩ W4;have hsz:(⟨(leF my 32).toArray⟩:ByteArray).size=32:=hll;have hdl:(⟨(leF my 32).toArray⟩:ByteArray).data.toList=leF my 32:=rfl;rw [hsz] at hcv;rw [hdl] at howa;replace Hdx:=hid (Hdx.out.step hbo);replace hb:=hb.trans (hbo.mono hB4);have hB5:=Nat.le_trans hB4 hbo.size;generalize (⟨(leF my 32).toArray⟩:ByteArray)=sb at *;generalize Lib.bytesWorld W4 5 sb=W5 at *;generalize W4.heap.size=g at *;obtain ⟨b31,hb31⟩:∃ b,b=(leF my 32).getD 31 0:=⟨_,rfl⟩;rw [← hb31] at t1 HT2;have HOw:=hid howa;have HLL:=hid hll;obtain ⟨Dx,cx,rfl,hcx⟩:=Hdx.out
 have c0:=hcx 0 (by decide)
 rw [hg0,Nat.pow_zero,Nat.div_one] at c0
 obtain ⟨c31,f31⟩:=qca howa 31 (by rw [hll];decide)
 rw [← hb31] at c31
 have hor:=or_bit7 b31 (mx%2) t1 (by omega)
 have hnb:(UInt8.ofNat (b31.toNat+128*(mx%2))).toNat=b31.toNat+128*(mx%2):=by rw [UInt8.toNat_ofNat'];omega
 rw [← hnb] at hor;generalize hnn:UInt8.ofNat (b31.toNat+128*(mx%2))=nb at *
 rw [show ((mx%2:Nat):Int)=(mx:Int)%2 by omega] at hor
 have HB31:=hid hb31;clear hb31;have HNB:=hid hnn;clear hcx hg0 howa hbo hsz hdl hnb t1 Hdx hnn
 go_wp2_with fail
 clear hcv;have ka:=cell_regrown c31;have kb:=cell_regrown c0
 refine qap 12 (by kernel_rfl) (by kernel_rfl) ?_
 simp only [take_succ_cons,List.take_zero,drop_succ_cons,List.drop_zero]
 repeat (first | go_big_quiet_step (fail) | quiet_step (fail))
 refine wpQuiet_nil ?_
 intro W6 bk;replace HOw:=hid (HOw.out.stays bk)
 have hput:=qbX HOw.out 31 (by rw [HLL.out];decide) nb
 rw [HT2.out] at hput
 obtain ⟨c2,f2⟩:=qca HOw.out 31 (by rw [HLL.out];decide)
 rw [← HB31.out] at c2;have hbl:(bytP p).length=32:=bytP_length p;rw [HBP.out] at hbl;have hgB:B≤g:=hB4;replace hb:=hb.trans (bk.mono hB5);have KW:=hid hput
 have hb2:Below B w (W6.setCell ⟨g,31,none⟩ (.int .u8 (nb.toNat:Int))):=hb.setCell (by show B≤g;omega) _
 have hcv:=qcm KW.out hbl ca;clear hput bk ka kb hor HOw KW
 go_wp2_with fail
 go_ret
 exact ⟨by first | rfl | (rw [HBP.out];rfl),by rw [HBB.out];exact hb2⟩
end
section
open Go.RowKit Go.Sort
theorem and_127 (b:UInt8):bits .and .u8 (b.toNat:Int) 127=((b.toNat%128:Nat):Int):=by
 have h1:(BitVec.ofInt 8 127).toNat=2^7-1:=by decide
 have key:(BitVec.ofInt 8 (b.toNat:Int) &&& BitVec.ofInt 8 127).toNat=((b.toNat:Int)%((2^8:Nat):Int)).toNat%2^7:=by
  rw [BitVec.toNat_and,BitVec.toNat_ofInt,h1,Nat.and_two_pow_sub_one_eq_mod]
 have hb:=UInt8.toNat_lt b
 show IntKind.u8.wrap ((BitVec.ofInt 8 (b.toNat:Int) &&& BitVec.ofInt 8 127).toNat:Nat)=_
 rw [key,IntKind.wrap_u8]
 omega
def tBlk (n c:Nat) (ob:Obj):Told:=⟨fun w u=>∃ g,u=mkS n c g∧w.heap[g]?=some ob,fun w w' v hb ⟨g,h1,h2⟩=>⟨g,h1,qaa hb (qab h2) h2⟩⟩
def oneB (c:UInt8):Obj:=.cells (qaZ [c]) 5
theorem ofL_text (s:ByteArray) (h:s.size=32):s.extract 0 31++⟨#[UInt8.ofNat ((s.data.toList.getD 31 0).toNat%128)]⟩=⟨(lowL s.data.toList).toArray⟩:=by
 apply ByteArray.ext
 apply Array.toList_inj.1
 rw [ByteArray.data_append,Array.toList_append,Lib.extract_data]
 rfl
set_option maxHeartbeats 8000000 in
theorem rofOk_any (s:ByteArray) (w:World) (hs:s.size=32) :
  Calls Tryz.prog 80 #[.string s] w fun e w'=>(∃ d',e=.returned (.tuple #[d',.int .i64 (ofE s.data.toList)])∧PtAt w' d' (ofP s.data.toList))∧Below w.heap.size w w':=by
 obtain ⟨hz,hi⟩:=zero_of_info infoR
 have hd:((s.size:Int) != 32)=false:=by simp [hs]
 have hsl:s.data.toList.length=32:=by rw [← Lib.size_eq];exact hs
 have hb:=qah w (.cells zeroR 82);have HR:=hid (qag w (.cells zeroR 82))
 have hin:31<s.size:=by omega
 have hg31:=qcK s 31 hin;have htx:=ofL_text s hs;have hand:=and_127 s[31];rw [hg31] at htx
 have hcb:(UInt8.ofNat (s[31].toNat%128)).toNat=s[31].toNat%128:=by rw [UInt8.toNat_ofNat'];omega
 rw [← hcb] at hand;generalize UInt8.ofNat (s[31].toNat%128)=c8 at *;have hl31:=lowL_length s.data.toList hsl;have hszT:(⟨(lowL s.data.toList).toArray⟩:ByteArray).size=32:=hl31
 have hOf:=fun W=>ofRef_any ⟨(lowL s.data.toList).toArray⟩ W hszT
 rw [show (⟨(lowL s.data.toList).toArray⟩:ByteArray).data.toList=lowL s.data.toList from rfl] at hOf
 have hlv:=nV_leV (lowL s.data.toList);rw [hl31] at hlv;rw [hlv] at hOf;have CO:=hid hOf
 have hsame:=low_same (lowL s.data.toList) pF hl31 qc8 (by decide)
 have htl:((⟨(leF (nV (lowL s.data.toList)%pF) 32).toArray⟩:ByteArray).toList==(⟨(lowL s.data.toList).toArray⟩:ByteArray).toList)=decide (lowP s.data.toList<pF):=by
  rw [Lib.toList_data,Lib.toList_data];exact hsame
 have CB:=hid (fun d W g=>qfd d (nV (lowL s.data.toList)%pF) W g)
 have hodd:decide ((128:Int)≤(s[31].toNat:Int))=oddP s.data.toList:=by
  rw [oddP,hg31];rw [decide_eq_decide]
  omega
 have CZ:=hid (fun W=>qfy W)
 have hE:isP s.data.toList=(decide (lowP s.data.toList<pF)&&(qa6 (sqrP (lowP s.data.toList))).2&&!(oddP s.data.toList&&decide ((qa6 (sqrP (lowP s.data.toList))).1=0))):=rfl
 have hX:xP s.data.toList=if oddP s.data.toList then subF 0 (qa6 (sqrP (lowP s.data.toList))).1 else (qa6 (sqrP (lowP s.data.toList))).1:=rfl
 have HP1:Hid (ofP s.data.toList=if isP s.data.toList then ⟨xP s.data.toList,lowP s.data.toList,1,mulF (xP s.data.toList) (lowP s.data.toList)⟩ else zeroP):=hid rfl
 have HE1:Hid (ofE s.data.toList=if isP s.data.toList then 0 else 21):=hid rfl
 have HIs:=hid hE;have HXs:=hid hX
 have hs0:(s.extract 0 31).size=31:=by rw [ByteArray.size_extract];omega
 clear hE hX hsl hlv hl31 hsame hOf hg31 hi hcb
 rw [show nV (lowL s.data.toList)=lowP s.data.toList from rfl] at CO CB htl
 generalize hofp:ofP s.data.toList=OP at *;generalize hofe:ofE s.data.toList=OE at *;have HOP:=hid hofp;have HOE:=hid hofe;clear hofp hofe;generalize isP s.data.toList=isb at *;generalize xP s.data.toList=xx at *;generalize lowP s.data.toList=V at *;generalize oddP s.data.toList=od at *;generalize (⟨(lowL s.data.toList).toArray⟩:ByteArray)=tx at *;obtain ⟨s31,hs31⟩:∃ x,x=s.extract 0 31:=⟨_,rfl⟩;have HS31:=hid hs31;rw [← hs31] at htx hs0;clear hs31;have hone:Obj.cells #[.int .u8 (c8.toNat:Int)] 5=oneB c8:=rfl
 go_enter Tryz.func80,Tryz.ntmps80
 go_wp2_with fail
 clear hz;generalize (w.alloc _)=W0 at *;generalize hBB:w.heap.size=B at *;have HBB:=hid hBB;clear hBB hd
 refine qaC 8 81 [(Told.val (.string s),[0]),(Told.val (.string s31),[21]),(Told.val (.string s),[0]),(Told.val (.int .u8 (s[31].toNat:Int)),[23]),(Told.val (.int .u8 (c8.toNat:Int)),[24]),(tBlk 1 1 (oneB c8),[25]),(Told.val (.string ⟨#[c8]⟩),[26]),(Told.val (.string tx),[22,27])]
  (by kernel_rfl) (by kernel_rfl) rfl ?_ ?_
 ·simp only [take_succ_cons,List.take_zero,qaW,and_true]
  refine ⟨?_,?_,?_,?_,?_,?_,?_,?_⟩
  ·intro a w hb h
   have e0:a.tmps.getD 0 undef=.string s:=h 0 (by simp)
   simp only [getD_eq_getD_getElem?] at e0
   simp [go_sem,e0,qan,Told.val]
   exact Below.refl _ _
  ·intro a w hb h
   have e0:a.tmps.getD 21 undef=.string s:=h 21 (by simp)
   simp only [getD_eq_getD_getElem?] at e0
   simp [go_sem,e0,qan,Told.val,hs,HS31.out]
   exact Below.refl _ _
  ·intro a w hb h
   have e0:a.tmps.getD 0 undef=.string s:=h 0 (by simp)
   simp only [getD_eq_getD_getElem?] at e0
   simp [go_sem,e0,qan,Told.val]
   exact Below.refl _ _
  ·intro a w hb h
   have e0:a.tmps.getD 23 undef=.string s:=h 23 (by simp)
   simp only [getD_eq_getD_getElem?] at e0
   simp [go_sem,e0,qan,Told.val,hin,show (31:Int)<(s.size:Int) by omega]
   exact Below.refl _ _
  ·intro a w hb h
   have e0:a.tmps.getD 24 undef=.int .u8 (s[31].toNat:Int):=h 24 (by simp)
   simp only [getD_eq_getD_getElem?] at e0
   simp [go_sem,e0,qan,Told.val,hand]
   exact Below.refl _ _
  ·intro a w hb h
   have e0:a.tmps.getD 25 undef=.int .u8 (c8.toNat:Int):=h 25 (by simp)
   simp only [getD_eq_getD_getElem?] at e0
   simp [go_sem,e0,qan,hone]
   exact ⟨qah w _,w.heap.size,rfl,qag w _⟩
  ·intro a w hb h
   obtain ⟨g,e0,hg⟩:∃ g,a.tmps.getD 26 undef=mkS 1 1 g∧w.heap[g]?=some (oneB c8):=h 26 (by simp)
   simp only [getD_eq_getD_getElem?,mkS] at e0
   simp [go_sem,e0,qan,Told.val,text_row w g 1 1 [c8] rfl hg]
   exact Below.refl _ _
  ·intro a w hb h
   have e0:a.tmps.getD 22 undef=.string s31:=h 22 (by simp)
   have e1:a.tmps.getD 27 undef=.string ⟨#[c8]⟩:=h 27 (by simp)
   simp only [getD_eq_getD_getElem?] at e0 e1
   simp [go_sem,e0,e1,qan,Told.val,htx,hs0]
   exact Below.refl _ _
 simp only [take_succ_cons,List.take_zero,drop_succ_cons,List.drop_zero,qaX,Act.put,setIfInBounds_toArray,set_cons_succ,set_cons_zero]
 intro W1 bk v21 q21 v22 q22 v23 q23 v24 q24 v25 q25 v26 q26 v27 q27 v28 q28;obtain rfl:=q28.symm;replace hb:=hb.trans (bk.mono (Nat.le_of_lt (qab HR.out)));replace HR:=hid (qaa bk (qab HR.out) HR.out);clear bk q21 q22 q23 q24 q25 q26 q27 q28 htx hand hone hs0
 go_wp2_with fail
 refine (CO.out W1).mono ?_
 rintro e W2 ⟨⟨dy,rfl,hdy⟩,bk⟩;have Hdy:=hid hdy;replace hb:=hb.trans (bk.mono (Nat.le_of_lt (qab HR.out)));replace HR:=hid (qaa bk (qab HR.out) HR.out);clear bk hdy CO
 go_wp2_with fail
 refine (CB.out dy W2 Hdy.out).mono ?_
 rintro e W3 ⟨rfl,bk⟩;replace Hdy:=hid (Hdy.out.step bk);replace hb:=hb.trans (bk.mono (Nat.le_of_lt (qab HR.out)));replace HR:=hid (qaa bk (qab HR.out) HR.out);clear bk CB;generalize (⟨(leF (V%pF) 32).toArray⟩:ByteArray)=ty at *
 by_cases hV:V<pF
 case neg=>
  have hq:(ty.toList==tx.toList)=false:=by rw [htl,decide_eq_false hV]
  have hf:isb=false:=by rw [HIs.out,decide_eq_false hV];rfl
  rw [hf,if_neg (by decide)] at HP1 HE1
  clear htl hf HIs
  go_wp2_with fail
  refine (CZ.out W3).mono ?_
  rintro e W4 ⟨⟨vz,rfl,hvz⟩,bk⟩;obtain ⟨ax,ay,az,at',rfl⟩:=hvz.four;replace hb:=hb.trans (bk.mono (Nat.le_of_lt (qab HR.out)));replace HR:=hid (qaa bk (qab HR.out) HR.out);have SO:=hid (qc6 ax ay az at');have OO:=hid (qbS ax ay az at');have NO:=hid hvz.one;have H6:=hvz.rowed HR.out ⟨_,_,_,rfl⟩ #[ax,ay,az,at'];rw [← HP1.out] at H6;have H7:=hid H6;clear bk hvz H6
  go_wp2_with (with_reducible refine wpList_store_row rfl 82 _ _ rfl B #[ax,ay,az,at'] rfl rfl 82 _ HR.out SO.out OO.out NO.out ?_)
  exact bodyPost_ret (qax (by rfl) _ _ B 82 _ (0,0) _ rfl (setRow_heap _ _ _ _ _ _ HR.out) Tryz.underlying82 rfl SO.out) rfl ⟨⟨_,by rw [HE1.out];rfl,H7.out⟩,by rw [HBB.out];exact below_setRow hb (Nat.le_refl _) _⟩
 have hq:(ty.toList==tx.toList)=true:=by rw [htl,decide_eq_true hV]
 rw [Nat.mod_eq_of_lt hV] at Hdy
 have K1:=hid (fun W=>one_any W)
 have K2:=hid (fun W g=>qaR dy dy V V W hV hV g g)
 have K3:=hid (fun d e W g1 g2=>qcJ d e (mulF V V) 1 W (qaM _ _) (by decide) g1 g2)
 have K4:=hid (fun W=>rfac_any W)
 have K5:=hid (fun d e W g1 g2=>qaR d e facF (mulF V V) W facF_lt (qaM _ _) g1 g2)
 have K6:=hid (fun d e W g1 g2=>qdD d e (mulF facF (mulF V V)) 1 W (qaM _ _) (by decide) g1 g2)
 have K7:=hid (fun d W g1=>qeS d (addF (mulF facF (mulF V V)) 1) W (qbV _ _) g1)
 have K8:=hid (fun d e W g1 g2=>qaR d e (subF (mulF V V) 1) (invF (addF (mulF facF (mulF V V)) 1)) W (qby _ _) (qaU _ _) g1 g2)
 rw [show mulF (subF (mulF V V) 1) (invF (addF (mulF facF (mulF V V)) 1))=sqrP V from rfl] at K8
 have K9:=hid (fun d W g1=>rootRef_any d (sqrP V) W (qaM _ _) g1)
 have hrl:=rootF_lt (sqrP V);generalize (qa6 (sqrP V)).1=rx at *;generalize (qa6 (sqrP V)).2=rb at *;generalize sqrP V=sq at *;generalize invF (addF (mulF facF (mulF V V)) 1)=iv at *;generalize addF (mulF facF (mulF V V)) 1=vv at *;generalize mulF facF (mulF V V)=fy at *;generalize subF (mulF V V) 1=uu at *;generalize mulF V V=yy at *;rw [decide_eq_true hV,Bool.true_and] at HIs;have HVl:=hid hV;clear htl hV
 go_wp2_with fail
 refine (K1.out W3 ).mono ?_
 rintro e W4 ⟨⟨d1,rfl,hd1⟩,bk⟩;have Hd1:=hid hd1;replace Hdy:=hid (Hdy.out.step bk);replace hb:=hb.trans (bk.mono (Nat.le_of_lt (qab HR.out)));replace HR:=hid (qaa bk (qab HR.out) HR.out);clear bk hd1
 go_wp2_with fail
 refine (K2.out W4 Hdy.out).mono ?_
 rintro e W5 ⟨⟨dyy,rfl,hdyy⟩,bk⟩;have Hdyy:=hid hdyy;replace Hdy:=hid (Hdy.out.step bk);replace Hd1:=hid (Hd1.out.step bk);replace hb:=hb.trans (bk.mono (Nat.le_of_lt (qab HR.out)));replace HR:=hid (qaa bk (qab HR.out) HR.out);clear bk hdyy
 go_wp2_with fail
 refine (K3.out dyy d1 W5 Hdyy.out Hd1.out).mono ?_
 rintro e W6 ⟨⟨du,rfl,hdu⟩,bk⟩;have Hdu:=hid hdu;replace Hdy:=hid (Hdy.out.step bk);replace Hd1:=hid (Hd1.out.step bk);replace Hdyy:=hid (Hdyy.out.step bk);replace hb:=hb.trans (bk.mono (Nat.le_of_lt (qab HR.out)));replace HR:=hid (qaa bk (qab HR.out) HR.out);clear bk hdu
 go_wp2_with fail
 refine (K4.out W6 ).mono ?_
 rintro e W7 ⟨⟨df,rfl,hdf⟩,bk⟩;have Hdf:=hid hdf;replace Hdy:=hid (Hdy.out.step bk);replace Hd1:=hid (Hd1.out.step bk);replace Hdyy:=hid (Hdyy.out.step bk);replace Hdu:=hid (Hdu.out.step bk);replace hb:=hb.trans (bk.mono (Nat.le_of_lt (qab HR.out)));replace HR:=hid (qaa bk (qab HR.out) HR.out);clear bk hdf
 go_wp2_with fail
 refine (K5.out df dyy W7 Hdf.out Hdyy.out).mono ?_
 rintro e W8 ⟨⟨dfy,rfl,hdfy⟩,bk⟩;have Hdfy:=hid hdfy;replace Hdy:=hid (Hdy.out.step bk);replace Hd1:=hid (Hd1.out.step bk);replace Hdyy:=hid (Hdyy.out.step bk);replace Hdu:=hid (Hdu.out.step bk);replace Hdf:=hid (Hdf.out.step bk);replace hb:=hb.trans (bk.mono (Nat.le_of_lt (qab HR.out)));replace HR:=hid (qaa bk (qab HR.out) HR.out);clear bk hdfy
 go_wp2_with fail
 refine (K6.out dfy d1 W8 Hdfy.out Hd1.out).mono ?_
 rintro e W9 ⟨⟨dv,rfl,hdv⟩,bk⟩;have Hdv:=hid hdv;replace Hdy:=hid (Hdy.out.step bk);replace Hd1:=hid (Hd1.out.step bk);replace Hdyy:=hid (Hdyy.out.step bk);replace Hdu:=hid (Hdu.out.step bk);replace Hdfy:=hid (Hdfy.out.step bk);replace hb:=hb.trans (bk.mono (Nat.le_of_lt (qab HR.out)));replace HR:=hid (qaa bk (qab HR.out) HR.out);clear bk hdv
 go_wp2_with fail
 refine (K7.out dv W9 Hdv.out).mono ?_
 rintro e W10 ⟨⟨di,rfl,hdi⟩,bk⟩;have Hdi:=hid hdi;replace Hdy:=hid (Hdy.out.step bk);replace Hd1:=hid (Hd1.out.step bk);replace Hdu:=hid (Hdu.out.step bk);replace Hdv:=hid (Hdv.out.step bk);replace hb:=hb.trans (bk.mono (Nat.le_of_lt (qab HR.out)));replace HR:=hid (qaa bk (qab HR.out) HR.out);clear bk hdi
 go_wp2_with fail
 refine (K8.out du di W10 Hdu.out Hdi.out).mono ?_
 rintro e W11 ⟨⟨dq,rfl,hdq⟩,bk⟩;have Hdq:=hid hdq;replace Hdy:=hid (Hdy.out.step bk);replace Hd1:=hid (Hd1.out.step bk);replace Hdu:=hid (Hdu.out.step bk);replace Hdi:=hid (Hdi.out.step bk);replace hb:=hb.trans (bk.mono (Nat.le_of_lt (qab HR.out)));replace HR:=hid (qaa bk (qab HR.out) HR.out);clear bk hdq
 go_wp2_with fail
 refine (K9.out dq W11 Hdq.out).mono ?_
 rintro e W12 ⟨⟨dx,rfl,hdx⟩,bk⟩;have Hdx:=hid hdx;replace Hdy:=hid (Hdy.out.step bk);replace Hd1:=hid (Hd1.out.step bk);replace Hdq:=hid (Hdq.out.step bk);replace hb:=hb.trans (bk.mono (Nat.le_of_lt (qab HR.out)));replace HR:=hid (qaa bk (qab HR.out) HR.out);clear bk hdx
 have CD:=hid (fun W=>zeroD_any W)
 clear CZ K1 K2 K3 K4 K5 K6 K7 K8 K9 Hdf Hdfy Hdyy Hdv Hdu Hdi Hdq
 have CZ:=hid (fun W=>qfy W)
 cases rb
 case false=>
  have hf:isb=false:=by rw [HIs.out];rfl
  rw [hf,if_neg (by decide)] at HP1 HE1
  clear hf HIs CD
  go_wp2_with fail
  refine (CZ.out W12).mono ?_
  rintro e U1 ⟨⟨vz,rfl,hvz⟩,bk⟩;obtain ⟨ax,ay,az,at',rfl⟩:=hvz.four;replace hb:=hb.trans (bk.mono (Nat.le_of_lt (qab HR.out)));replace HR:=hid (qaa bk (qab HR.out) HR.out);have SO:=hid (qc6 ax ay az at');have OO:=hid (qbS ax ay az at');have NO:=hid hvz.one;have H6:=hvz.rowed HR.out ⟨_,_,_,rfl⟩ #[ax,ay,az,at'];rw [← HP1.out] at H6;have H7:=hid H6;clear bk hvz H6
  go_wp2_with (with_reducible refine wpList_store_row rfl 82 _ _ rfl B #[ax,ay,az,at'] rfl rfl 82 _ HR.out SO.out OO.out NO.out ?_)
  exact bodyPost_ret (qax (by rfl) _ _ B 82 _ (0,0) _ rfl (setRow_heap _ _ _ _ _ _ HR.out) Tryz.underlying82 rfl SO.out) rfl ⟨⟨_,by rw [HE1.out];rfl,H7.out⟩,by rw [HBB.out];exact below_setRow hb (Nat.le_refl _) _⟩
 rw [Bool.true_and] at HIs
 cases od
 case true=>
  have CS:=hid (fun dz W g1 g2=>qey dx dz rx 0 W (Nat.lt_trans hrl qdK) (by decide) g1 g2)
  go_wp2_with fail
  refine (CD.out W12).mono ?_
  rintro e U1 ⟨⟨dz,rfl,hdz⟩,bk⟩;have Hdz:=hid hdz;replace Hdx:=hid (Hdx.out.step bk);replace Hdy:=hid (Hdy.out.step bk);replace Hd1:=hid (Hd1.out.step bk);replace hb:=hb.trans (bk.mono (Nat.le_of_lt (qab HR.out)));replace HR:=hid (qaa bk (qab HR.out) HR.out);clear bk hdz
  go_wp2_with fail
  refine (CS.out dz U1 Hdx.out Hdz.out).mono ?_
  rintro e U2 ⟨rfl,bk⟩;replace Hdx:=hid (Hdx.out.step bk);replace Hdy:=hid (Hdy.out.step bk);replace Hd1:=hid (Hd1.out.step bk);replace hb:=hb.trans (bk.mono (Nat.le_of_lt (qab HR.out)));replace HR:=hid (qaa bk (qab HR.out) HR.out);clear bk CS Hdz
  by_cases hx0:rx=0
  case pos=>
   rw [decide_eq_true hx0] at HIs ⊢
   have hf:isb=false:=by rw [HIs.out];rfl
   rw [hf,if_neg (by decide)] at HP1 HE1
   clear hf HIs CD
   go_wp2_with fail
   refine (CZ.out U2).mono ?_
   rintro e U3 ⟨⟨vz,rfl,hvz⟩,bk⟩;obtain ⟨ax,ay,az,at',rfl⟩:=hvz.four;replace hb:=hb.trans (bk.mono (Nat.le_of_lt (qab HR.out)));replace HR:=hid (qaa bk (qab HR.out) HR.out);have SO:=hid (qc6 ax ay az at');have OO:=hid (qbS ax ay az at');have NO:=hid hvz.one;have H6:=hvz.rowed HR.out ⟨_,_,_,rfl⟩ #[ax,ay,az,at'];rw [← HP1.out] at H6;have H7:=hid H6;clear bk hvz H6
   go_wp2_with (with_reducible refine wpList_store_row rfl 82 _ _ rfl B #[ax,ay,az,at'] rfl rfl 82 _ HR.out SO.out OO.out NO.out ?_)
   exact bodyPost_ret (qax (by rfl) _ _ B 82 _ (0,0) _ rfl (setRow_heap _ _ _ _ _ _ HR.out) Tryz.underlying82 rfl SO.out) rfl ⟨⟨_,by rw [HE1.out];rfl,H7.out⟩,by rw [HBB.out];exact below_setRow hb (Nat.le_refl _) _⟩
  rw [decide_eq_false hx0] at HIs ⊢
  have hT:isb=true:=by rw [HIs.out];rfl
  rw [hT,if_pos rfl] at HP1 HE1
  have hxx:xx=subF 0 rx:=by rw [HXs.out];simp
  have CM:=hid (fun d W g1 g2=>qaR d dy (subF 0 rx) V W (qby _ _) HVl.out g1 g2)
  have CN:=hid (fun dz W g1 g2=>qcJ dz dx 0 rx W (by decide) hrl g1 g2)
  rw [← hxx] at CM CN;clear hT hxx HIs HXs
  go_wp2_with fail
  refine (CD.out U2).mono ?_
  rintro e U3 ⟨⟨dz2,rfl,hdz⟩,bk⟩;have Hdz:=hid hdz;replace Hdx:=hid (Hdx.out.step bk);replace Hdy:=hid (Hdy.out.step bk);replace Hd1:=hid (Hd1.out.step bk);replace hb:=hb.trans (bk.mono (Nat.le_of_lt (qab HR.out)));replace HR:=hid (qaa bk (qab HR.out) HR.out);clear bk hdz CD
  go_wp2_with fail
  refine (CN.out dz2 U3 Hdz.out Hdx.out).mono ?_
  rintro e U4 ⟨⟨dn,rfl,hdn⟩,bk⟩;have Hdn:=hid hdn;replace Hdy:=hid (Hdy.out.step bk);replace Hd1:=hid (Hd1.out.step bk);replace hb:=hb.trans (bk.mono (Nat.le_of_lt (qab HR.out)));replace HR:=hid (qaa bk (qab HR.out) HR.out);clear bk hdn CN Hdz Hdx
  go_wp2_with fail
  refine (CM.out dn U4 Hdn.out Hdy.out).mono ?_
  rintro e U5 ⟨⟨dt,rfl,hdt⟩,bk⟩;have Hdt:=hid hdt;replace Hdn:=hid (Hdn.out.step bk);replace Hdy:=hid (Hdy.out.step bk);replace Hd1:=hid (Hd1.out.step bk);replace hb:=hb.trans (bk.mono (Nat.le_of_lt (qab HR.out)));replace HR:=hid (qaa bk (qab HR.out) HR.out);clear bk hdt CM;have H5:PtAt U5 (.agg #[dn,dy,d1,dt]) ⟨xx,V,1,mulF xx V⟩:=⟨dn,dy,d1,dt,rfl,Hdn.out,Hdy.out,Hd1.out,Hdt.out⟩;have hbd:=build_pt Hdn.out Hdy.out Hd1.out Hdt.out;have SO:=hid (qc6 dn dy d1 dt);have OO:=hid (qbS dn dy d1 dt);have NO:=hid H5.one;have H6:=H5.rowed HR.out ⟨_,_,_,rfl⟩ #[dn,dy,d1,dt];rw [← HP1.out] at H6;have H7:=hid H6;clear H5 H6
  go_wp2_with (first
   | (with_reducible refine qdi rfl _ _ _ _ rfl dn dy d1 dt rfl rfl rfl rfl hbd ?_)
   | (with_reducible refine wpList_store_row rfl 82 _ _ rfl B #[dn,dy,d1,dt] rfl rfl 82 _ HR.out SO.out OO.out NO.out ?_))
  exact bodyPost_ret (qax (by rfl) _ _ B 82 _ (0,0) _ rfl (setRow_heap _ _ _ _ _ _ HR.out) Tryz.underlying82 rfl SO.out) rfl ⟨⟨_,by rw [HE1.out];rfl,H7.out⟩,by rw [HBB.out];exact below_setRow hb (Nat.le_refl _) _⟩
 case false=>
  have hT:isb=true:=by rw [HIs.out];rfl
  rw [hT,if_pos rfl] at HP1 HE1
  have hxx:xx=rx:=by rw [HXs.out];simp
  have CM:=hid (fun d W g1 g2=>qaR d dy rx V W hrl HVl.out g1 g2)
  rw [← hxx] at CM Hdx;clear hT hxx HIs HXs CD
  go_wp2_with fail
  refine (CM.out dx W12 Hdx.out Hdy.out).mono ?_
  rintro e U5 ⟨⟨dt,rfl,hdt⟩,bk⟩;have Hdt:=hid hdt;replace Hdx:=hid (Hdx.out.step bk);replace Hdy:=hid (Hdy.out.step bk);replace Hd1:=hid (Hd1.out.step bk);replace hb:=hb.trans (bk.mono (Nat.le_of_lt (qab HR.out)));replace HR:=hid (qaa bk (qab HR.out) HR.out);clear bk hdt CM;have H5:PtAt U5 (.agg #[dx,dy,d1,dt]) ⟨xx,V,1,mulF xx V⟩:=⟨dx,dy,d1,dt,rfl,Hdx.out,Hdy.out,Hd1.out,Hdt.out⟩;have hbd:=build_pt Hdx.out Hdy.out Hd1.out Hdt.out;have SO:=hid (qc6 dx dy d1 dt);have OO:=hid (qbS dx dy d1 dt);have NO:=hid H5.one;have H6:=H5.rowed HR.out ⟨_,_,_,rfl⟩ #[dx,dy,d1,dt];rw [← HP1.out] at H6;have H7:=hid H6;clear H5 H6
  go_wp2_with (first
   | (with_reducible refine qdi rfl _ _ _ _ rfl dx dy d1 dt rfl rfl rfl rfl hbd ?_)
   | (with_reducible refine wpList_store_row rfl 82 _ _ rfl B #[dx,dy,d1,dt] rfl rfl 82 _ HR.out SO.out OO.out NO.out ?_))
  exact bodyPost_ret (qax (by rfl) _ _ B 82 _ (0,0) _ rfl (setRow_heap _ _ _ _ _ _ HR.out) Tryz.underlying82 rfl SO.out) rfl ⟨⟨_,by rw [HE1.out];rfl,H7.out⟩,by rw [HBB.out];exact below_setRow hb (Nat.le_refl _) _⟩
end
section
open Go.RowKit Go.Sort
set_option maxHeartbeats 2000000 in
theorem rbase_any (w:World) :
  Calls Tryz.prog 83 #[] w fun e w'=>(∃ d',e=.returned d'∧PtAt w' d' baseP)∧Below w.heap.size w w':=by
 obtain ⟨hz,hi⟩:=zero_of_info infoR;have hb:=qah w (.cells zeroR 82);have HR:=hid (qag w (.cells zeroR 82))
 have C4:Hid (∀ W:World,Calls Tryz.prog 139 #[.int .i64 4] W fun e w'=>(∃ d',e=.returned d'∧DigAt w' d' (digN 4))∧Below W.heap.size W w'):=hid (fun W=>qb2 4 W (by decide))
 have C5:Hid (∀ W:World,Calls Tryz.prog 139 #[.int .i64 5] W fun e w'=>(∃ d',e=.returned d'∧DigAt w' d' (digN 5))∧Below W.heap.size W w'):=hid (fun W=>qb2 5 W (by decide))
 have CI:=hid (fun d W g=>qeS d 5 W (by decide) g)
 have CM:=hid (fun d e W g1 g2=>qaR d e 4 (invF 5) W (by decide) (qaU _ _) g1 g2)
 have CB:=hid (fun d W g=>qfd d (mulF 4 (invF 5)) W g)
 have CO:=hid (fun W=>rofOk_any ⟨(leF (mulF 4 (invF 5)) 32).toArray⟩ W (qa2 _ 32))
 have HBs:Hid (ofP (⟨(leF (mulF 4 (invF 5)) 32).toArray⟩:ByteArray).data.toList=baseP):=hid rfl;rw [HBs.out] at CO;generalize baseP=bp at *;generalize ofE (⟨(leF (mulF 4 (invF 5)) 32).toArray⟩:ByteArray).data.toList=q at *;generalize (⟨(leF (mulF 4 (invF 5)) 32).toArray⟩:ByteArray)=s at *;generalize mulF 4 (invF 5)=m at *;generalize invF 5=i5 at *;clear hi HBs
 go_enter Tryz.func83,Tryz.ntmps83
 go_wp2_with fail
 generalize (w.alloc _)=W0 at *;generalize hBB:w.heap.size=B at *;have HBB:=hid hBB;clear hBB
 refine (C4.out W0).mono ?_
 rintro e W1 ⟨⟨d4,rfl,h⟩,bk⟩;have H4:=hid h;replace hb:=hb.trans (bk.mono (Nat.le_of_lt (qab HR.out)));replace HR:=hid (qaa bk (qab HR.out) HR.out);clear bk h
 go_wp2_with fail
 refine (C5.out W1).mono ?_
 rintro e W2 ⟨⟨d5,rfl,h⟩,bk⟩;have H5:=hid h;replace H4:=hid (H4.out.step bk);replace hb:=hb.trans (bk.mono (Nat.le_of_lt (qab HR.out)));replace HR:=hid (qaa bk (qab HR.out) HR.out);clear bk h
 go_wp2_with fail
 refine (CI.out d5 W2 H5.out).mono ?_
 rintro e W3 ⟨⟨di,rfl,h⟩,bk⟩;have Hi:=hid h;replace H4:=hid (H4.out.step bk);replace hb:=hb.trans (bk.mono (Nat.le_of_lt (qab HR.out)));replace HR:=hid (qaa bk (qab HR.out) HR.out);clear bk h H5
 go_wp2_with fail
 refine (CM.out d4 di W3 H4.out Hi.out).mono ?_
 rintro e W4 ⟨⟨dm,rfl,h⟩,bk⟩;have Hm:=hid h;replace hb:=hb.trans (bk.mono (Nat.le_of_lt (qab HR.out)));replace HR:=hid (qaa bk (qab HR.out) HR.out);clear bk h H4 Hi
 go_wp2_with fail
 refine (CB.out dm W4 Hm.out).mono ?_
 rintro e W5 ⟨rfl,bk⟩;replace hb:=hb.trans (bk.mono (Nat.le_of_lt (qab HR.out)));replace HR:=hid (qaa bk (qab HR.out) HR.out);clear bk Hm
 go_wp2_with fail
 refine (CO.out W5).mono ?_
 rintro e W6 ⟨⟨dp,rfl,hp⟩,bk⟩;obtain ⟨x,y,z,t,rfl⟩:=hp.four;replace hb:=hb.trans (bk.mono (Nat.le_of_lt (qab HR.out)));replace HR:=hid (qaa bk (qab HR.out) HR.out);have SO:=hid (qc6 x y z t);have OO:=hid (qbS x y z t);have NO:=hid hp.one;have HN:=hid (qag W6 (.cells zeroR 82));have bn:=qah W6 (.cells zeroR 82);have HP1:=hp.step bn;have HP2:=HP1.rowed HN.out ⟨_,_,_,rfl⟩ #[x,y,z,t];have HMq:=hid (setRow_heap _ W6.heap.size _ #[x,y,z,t] _ _ HN.out);have hlt:=qab HR.out
 have HR2:Hid (((W6.alloc (.cells zeroR 82)).setRow W6.heap.size #[x,y,z,t]).heap[B]?=some (.cells zeroR 82)):=hid (by rw [setRow_other _ _ _ _ (by omega)];exact qaa bn hlt HR.out)
 have HP3:=hid (HP2.rowed HR2.out ⟨_,_,_,rfl⟩ #[x,y,z,t])
 have hb2:Below B w ((W6.alloc (.cells zeroR 82)).setRow W6.heap.size #[x,y,z,t]):=below_setRow (hb.trans (bn.mono (by omega))) (by omega) _
 clear bk hp bn HP1 HP2 hb HR
 go_wp2_with (first
  | (with_reducible refine wpList_store_row rfl 82 _ _ rfl W6.heap.size #[x,y,z,t] rfl rfl 82 _ HN.out SO.out OO.out NO.out ?_)
  | (with_reducible refine wpList_load_row rfl 82 _ rfl W6.heap.size rfl 82 _ (0,0) _ HMq.out Tryz.underlying82 rfl SO.out ?_)
  | (with_reducible refine wpList_store_row rfl 82 _ _ rfl B #[x,y,z,t] rfl rfl 82 _ HR2.out SO.out OO.out NO.out ?_))
 exact bodyPost_ret (v:=.agg #[x,y,z,t]) (results_cell_row (by rfl) _ _ B 82 _ (0,0) _ rfl (setRow_heap _ _ _ _ _ _ HR2.out) Tryz.underlying82 rfl SO.out) rfl ⟨⟨_,rfl,HP3.out⟩,by rw [HBB.out];exact below_setRow hb2 (Nat.le_refl _) _⟩
theorem rmulT_any (vp:Value) (p:PtN) (s:ByteArray) (w:World) (hp:p.Ok) (h1:PtAt w vp p) :
  Calls Tryz.prog 82 #[vp,.string s] w fun e w'=>(∃ d',e=.returned (.tuple #[d',.int .i64 (mulET s)])∧PtAt w' d' (qb8 p s))∧Below w.heap.size w w':=by
 by_cases h:s.size=32
 ·rw [mulET,qb8,if_pos h,if_pos h];exact rmulOk_any vp p s w hp h1 h
 ·rw [mulET,qb8,if_neg h,if_neg h];exact rmulBad_any vp p s w h1 h
theorem rbytesT_any (vp:Value) (p:PtN) (w:World) (hp:p.Ok) (h1:PtAt w vp p) :
  Calls Tryz.prog 84 #[vp] w fun e w'=>e=.returned (.string (txtP p))∧Below w.heap.size w w':=rbytes_any vp p w hp h1
end
end Go.Proofs.YteomfleofeeofaaGreatDoor
