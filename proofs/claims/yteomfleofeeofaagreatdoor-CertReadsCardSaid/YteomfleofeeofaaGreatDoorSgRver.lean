/- The reference's Verify. -/
import Derived.Test.YteomfleofeeofaaGreatDoorSgSpec
import Derived.Test.YteomfleofeeofaaGreatDoorShaR
import Derived.Test.YteomfleofeeofaaGreatDoorScaR
import Derived.Test.YteomfleofeeofaaGreatDoorPrR
import Derived.Test.YteomfleofeeofaaGreatDoorToldW
namespace Go.Proofs.YteomfleofeeofaaGreatDoor
open Go.Lib (hid)
open _root_.List (take_succ_cons)
open _root_.Array (getD_eq_getD_getElem?)
set_option maxHeartbeats 16000000
open Go.Proofs.Tryz
set_option maxRecDepth 100000
set_option linter.unusedSimpArgs false
set_option linter.unusedVariables false
open Go.RowKit Go.Sort
theorem DigAt.keepRow{W:World}{v:Value}{l:List Nat}{B:Nat}{row:Array Value}{T:TypeId}{fr:Nat×Nat}(h:DigAt W v l)(hB:W.heap[B]?=some (.cells row T fr))(h0:∃ v,row[0]?=some v∧∀ n,v≠.int .i64 n)(new:Array Value):DigAt (W.setRow B new) v l:=by
 obtain⟨D,z0,rfl,hc⟩:=h;obtain⟨u,h0,hu⟩:=h0;have z1:D≠B:=by
  rintro rfl;have h1:=hc 0 (by decide);rw[jco _ _ _ _ _ _ hB,h0]at h1;exact hu _ (Option.some.inj h1)
 exact⟨D,z0,rfl,fun j hj=>(World.cell?_of_block (a:=⟨D,j,none⟩) (jro _ _ _ _ z1)).trans (hc j hj)⟩
theorem PtAt.keepRow{W:World}{v:Value}{p:PtN}{B:Nat}{row:Array Value}{T:TypeId}{fr:Nat×Nat}(h:PtAt W v p)(hB:W.heap[B]?=some (.cells row T fr))(h0:∃ v,row[0]?=some v∧∀ n,v≠.int .i64 n)(new:Array Value):PtAt (W.setRow B new) v p:=by
 obtain⟨vx,vy,vz,vt,rfl,h1,h2,h3,h4⟩:=h;exact⟨vx,vy,vz,vt,rfl,h1.keepRow hB h0 new,h2.keepRow hB h0 new,h3.keepRow hB h0 new,h4.keepRow hB h0 new⟩
theorem zeroR_first:∃ v,zeroR[0]?=some v∧∀ n,v≠.int .i64 n:=⟨_,rfl,fun n e=>by cases e⟩
def tTupR(p:PtN)(q:Int):Told:=⟨fun w v=>∃ d,v=.tuple #[d,.int .i64 q]∧PtAt w d p,fun _ _ _ hb ⟨d,h1,h2⟩=>⟨d,h1,h2.step hb⟩⟩
def tNewR(B:Nat):Told:=⟨fun w v=>∃ g,v=.pointer (some ⟨g,0,none⟩)∧B≤g∧w.heap[g]?=some (.cells zeroR 82),fun w w' v hb ⟨g,h1,h2,h3⟩=>⟨g,h1,h2,qap hb (qac h3) h3⟩⟩
theorem told_pt{P:Program}{f:Nat}{z0:Array Value}{w:World}{p:PtN}(h:Calls P f z0 w fun e w'=>(∃ d,e=.returned d∧PtAt w' d p)∧Below w.heap.size w w'):Calls P f z0 w (fun e z1=>∃ v,e=.returned v∧(tPt p).T z1 v∧Below w.heap.size w z1):=
 h.mono fun e z1 ⟨⟨d,h1,h2⟩,h3⟩=>⟨_,h1,h2,h3⟩
theorem told_tup{P:Program}{f:Nat}{z0:Array Value}{w:World}{p:PtN}{q:Int}(h:Calls P f z0 w fun e w'=>(∃ d,e=.returned (.tuple #[d,.int .i64 q])∧PtAt w' d p)∧Below w.heap.size w w'):Calls P f z0 w (fun e z1=>∃ v,e=.returned v∧(tTupR p q).T z1 v∧Below w.heap.size w z1):=
 h.mono fun e z1 ⟨⟨d,h1,h2⟩,h3⟩=>⟨_,h1,⟨d,rfl,h2⟩,h3⟩
theorem told_txt{P:Program}{f:Nat}{z0:Array Value}{w:World}{v:Value}(h:Calls P f z0 w fun e w'=>e=.returned v∧Below w.heap.size w w'):Calls P f z0 w (fun e z1=>∃ u,e=.returned u∧(Told.val v).T z1 u∧Below w.heap.size w z1):=
 h.mono fun e z1 ⟨h1,h2⟩=>⟨v,h1,rfl,h2⟩
theorem ver_sizes(p t g:ByteArray)(hp:p.size=32)(hg:g.size=64)(ht:t.size≤1000000):(g.extract 0 32++p++t).size≤1048576:=by
 rw[ByteArray.size_append,ByteArray.size_append,ByteArray.size_extract,hp,hg];omega
theorem rverify_any(p t g:ByteArray)(w:World)(ht:t.size≤1000000):Rt 41 #[.string p,.string t,.string g] w (.int .i64 (verE p t g)):=by
 unfold Rt;have hb:=Below.refl w.heap.size w;have CO:=hid (rofT_any p);have z5:=ofPT_ok p;have zo:=(jzi qee).1;by_cases h1:ofET p=0
 ·have d1:((0:Int) != 0)=false:=rfl;rw[h1]at CO;by_cases h2:g.size=64
  ·have d2:((g.size:Int) != 64)=false:=by simp;omega
   have y3:(32:Int)≤(g.size:Int):=by omega
   have y0:(0:Int)≤(32:Int):=by omega
   have CR:=hid (fun W=>rright_any (g.extract 32 g.size) W);by_cases h3:okR (g.extract 32 64)=true
   ·have hv:verE p t g=if (txtP (verP p t g)).toList==(g.extract 0 32).toList then 0 else 22:=by rw[verE,if_pos h1,if_pos ⟨h2,h3⟩]
    rw[show okR (g.extract 32 g.size)=true by rw[h2];exact h3]at CR;obtain⟨k1,k2,k3,k4⟩:=ver_cats p t g (ofET_ok p h1).1 h2 ht;have ze:(g.extract 32 64).size=32:=by rw[ByteArray.size_extract,h2];rfl
    have CD:=hid (fun W=>refSum64_any (g.extract 0 32++p++t) W (ver_sizes p t g (ofET_ok p h1).1 h2 ht));rw[show (⟨(qdl kf hf (g.extract 0 32++p++t).data.toList).toArray⟩:ByteArray)=digT (g.extract 0 32++p++t) from rfl]at CD;have CW:=hid (fun W=>rwide_any (digT (g.extract 0 32++p++t)) W);rw[show qdF (digT (g.extract 0 32++p++t))=kT (g.extract 0 32) p t from rfl]at CW;have CB:=hid rbase_any;have z9:=hid (fun v W h=>rmulT_any v baseP (g.extract 32 g.size) W baseP_ok h);rw[show qbB baseP (g.extract 32 g.size)=qbB baseP (g.extract 32 64) by rw[h2],show mulET (g.extract 32 g.size)=0 by rw[h2];exact if_pos ze]at z9;have zb:=hid (fun v W h=>rmulT_any v (ofPT p) (kT (g.extract 0 32) p t) W z5 h);have CN:=hid (fun v W h=>rneg_any v (qbB (ofPT p) (kT (g.extract 0 32) p t)) W (qe6 _ _) h);have CA:=hid (fun v u W h k=>radd_any v u (qbB baseP (g.extract 32 64)) (negP (qbB (ofPT p) (kT (g.extract 0 32) p t))) W (qe6 _ _) (negP_ok _ (qe6 _ _)) h k);rw[show sumP (qbB baseP (g.extract 32 64)) (negP (qbB (ofPT p) (kT (g.extract 0 32) p t)))=verP p t g from rfl]at CA;have CY:=hid (fun v W h=>rbytesT_any v (verP p t g) W (verP_ok _ _ _) h)
    have HV:=hid hv;generalize verE p t g=ve at *;generalize txtP (verP p t g)=tv at *;generalize verP p t g=vp at *;generalize negP (qbB (ofPT p) (kT (g.extract 0 32) p t))=nk at *;generalize qbB (ofPT p) (kT (g.extract 0 32) p t)=mk at *;generalize qbB baseP (g.extract 32 64)=mb at *;generalize mulET (kT (g.extract 0 32) p t)=qe at *;generalize kT (g.extract 0 32) p t=kk at *;generalize zn:digT (g.extract 0 32++p++t)=dd at *;clear zn;generalize qef dd=we at *;generalize baseP=bp at *;generalize ofPT p=pp at *;have HOP:=hid z5;clear h3 ze z5 hv h1 h2;go_enter func41,ntmps41;go_wp2_with fail;refine (CO.out w).mono ?_;rintro e W1⟨⟨vr,rfl,z1⟩,bk⟩;replace hb:=bws hb bk;clear bk;have z0:=hid z1;clear z1;obtain⟨ra,rb,rc,rd,rfl⟩:=z0.out.four;have HN:=hid (qad W1 (.cells zeroR 82));have bn:=qaf W1 (.cells zeroR 82);have Sr:=hid (qb5 ra rb rc rd);have Or:=hid (qbh ra rb rc rd);have Ir:=hid z0.out.one;have Br:=hid (jsh _ W1.heap.size _ #[ra,rb,rc,rd] _ _ HN.out);have bk:=jbr bn (jlr _) #[ra,rb,rc,rd]
    go_wp2_with (first|(with_reducible refine jsr rfl 82 _ _ rfl W1.heap.size #[ra,rb,rc,rd] rfl rfl 82 _ HN.out Sr.out Or.out Ir.out ?_)|(with_reducible refine jlw rfl 82 _ rfl W1.heap.size rfl 82 _ (0,0) _ Br.out underlying82 rfl Sr.out ?_));replace hb:=bws hb bk;replace z0:=hid (z0.out.step bk);clear bk;generalize (World.setRow (World.alloc _ _) _ _)=V2 at *;generalize W1.heap.size=g1 at *;clear bn HN
    try simp only[Act.put]
    refine (CR.out V2).mono ?_;rintro e W3⟨rfl,bk⟩;replace hb:=bws hb bk;replace z0:=hid (z0.out.step bk);replace Br:=hkp Br bk;clear bk;go_wp2_with fail;refine (CD.out W3).mono ?_;rintro e W4⟨rfl,bk⟩;replace hb:=bws hb bk;replace z0:=hid (z0.out.step bk);replace Br:=hkp Br bk;clear bk;go_wp2_with fail;refine (CW.out W4).mono ?_;rintro e W5⟨rfl,bk⟩;replace hb:=bws hb bk;replace z0:=hid (z0.out.step bk);replace Br:=hkp Br bk;clear bk;go_wp2_with fail;have zi:=hid CB.out;refine qeV 8 6 63 [11,47] [(tPt bp,[]),(Told.val (.string g),[2]),(Told.val (.string (g.extract 32 g.size)),[44]),(tTupR mb 0,[43,45]),(tTupR mb 0,[46]),(tPt mb,[42]),(Told.val (.int .i64 0),[42]),(tNewR W5.heap.size,[])]
     _ rfl (by kernel_rfl) (by kernel_rfl) rfl (by simp[qc8]) ?_ ?_ ?_ ?_
    ·intro k hk o ho;simp at ho;subst ho;rcases List.mem_cons.1 hk with rfl|hk
     ·decide
     ·rcases List.mem_cons.1 hk with rfl|hk
      ·decide
      ·cases hk
    ·simp only[take_succ_cons,List.take_zero,qaQ,and_true];refine⟨?_,?_,?_,?_,?_,?_,?_,?_⟩
     ·intro a w hb h;simp[go_sem,qai];exact told_pt (CB.out w)
     ·intro a w hb h;have e0:a.tmps.getD 2 undef=.string g:=h 2 (by simp);simp only[getD_eq_getD_getElem?]at e0;simp[go_sem,e0,qai,Told.val];exact Below.refl _ _
     ·intro a w hb h;have e0:a.tmps.getD 44 undef=.string g:=h 44 (by simp);simp only[getD_eq_getD_getElem?]at e0;simp[go_sem,e0,qai,Told.val,y3];exact Below.refl _ _
     ·intro a w hb h;have e1:a.tmps.getD 45 undef=.string (g.extract 32 g.size):=h 45 (by simp);have f0:PtAt w (a.tmps.getD 43 undef) bp:=h 43 (by simp);obtain⟨u0,e0⟩:∃ u,a.tmps.getD 43 undef=u:=⟨_,rfl⟩;rw[e0]at f0;simp only[getD_eq_getD_getElem?]at e0 e1;simp[go_sem,e0,e1,qai];exact told_tup (z9.out u0 w f0)
     ·intro a w hb h;obtain⟨u0,e0,f0⟩:∃ d,a.tmps.getD 46 undef=.tuple #[d,.int .i64 0]∧PtAt w d mb:=h 46 (by simp);simp only[getD_eq_getD_getElem?]at e0;simp[go_sem,e0,qai];exact⟨Below.refl _ _,u0,rfl,f0⟩
     ·intro a w hb h;obtain⟨u0,e0,f0⟩:∃ d,a.tmps.getD 42 undef=.tuple #[d,.int .i64 0]∧PtAt w d mb:=h 42 (by simp);simp only[getD_eq_getD_getElem?]at e0;simp[go_sem,e0,qai];exact⟨Below.refl _ _,f0⟩
     ·intro a w hb h;obtain⟨u0,e0,f0⟩:∃ d,a.tmps.getD 42 undef=.tuple #[d,.int .i64 0]∧PtAt w d mb:=h 42 (by simp);simp only[getD_eq_getD_getElem?]at e0;simp[go_sem,e0,qai,Told.val];exact Below.refl _ _
     ·intro a w hb h;simp[go_sem,zo,qai];exact⟨qaf w _,w.heap.size,rfl,hb.size,qad w _⟩
    ·intro o s ho hs a w h;simp at ho hs;subst ho hs;obtain⟨u0,e0,f0⟩:∃ d,a.tmps.getD 42 undef=.tuple #[d,.int .i64 0]∧PtAt w d mb:=h 42 (by simp);simp only[getD_eq_getD_getElem?]at e0;exact⟨.int .i64 0,fun w2=>by simp[go_sem,e0],fun w1=>rfl⟩
    intro X bk;simp only[take_succ_cons,List.take_zero,List.drop_succ_cons,List.drop_zero,qf1,Act.put,List.setIfInBounds_toArray,List.set_cons_succ,List.set_cons_zero];rintro v43 zq v44 zr v45 zs v46 zt v42 zp v47 z7 v48 zh _⟨g3,rfl,zf,z8⟩;obtain rfl:=zh.symm;obtain⟨ma,z2,mc,md,rfl⟩:=z7.four;have Sm:=hid (qb5 ma z2 mc md);have Om:=hid (qbh ma z2 mc md);have Im:=hid z7.one;have z6:=jbr bk zf #[ma,z2,mc,md];refine⟨X.setRow g3 #[ma,z2,mc,md],z6,fun a' zd=>?_,?_⟩
    ·have zl:a'.eval (.tmp 11)=.pointer (some ⟨g3,0,none⟩):=zd 11 (by simp);have zm:a'.eval (.tmp 47)=.agg #[ma,z2,mc,md]:=zd 47 (by simp);have za:=run_storeVar_row (P:=Tryz.prog) X g3 82 82 zeroR #[ma,z2,mc,md] z8 Sm.out Om.out Im.out;unfold execOp;simp only[zl,zm,Instr.storeAt,Instr.sureAddr,Sem.run_bind,Sem.run_pure,Result.andThen_ok,za]
    have z4:=hid (z7.keepRow z8 zeroR_first #[ma,z2,mc,md]);have Bm:=hid (jsh X g3 _ #[ma,z2,mc,md] _ _ z8);clear zq zr zs zt zp zh z7 z8 zf;replace hb:=hb.trans (z6.mono hb.size);replace z0:=hid (z0.out.step z6);replace Br:=hkp Br z6;clear z6;clear bk;generalize X.setRow g3 _=X2 at *;clear zi CB z9;go_wp2_with (with_reducible refine jlw rfl 82 _ rfl g1 rfl 82 _ (0,0) _ Br.out underlying82 rfl Sr.out ?_);refine (zb.out _ X2 z0.out).mono ?_;rintro e W6⟨⟨vk,rfl,zg⟩,bk⟩;replace hb:=bws hb bk;replace z0:=hid (z0.out.step bk);replace z4:=hid (z4.out.step bk);replace Br:=hkp Br bk;replace Bm:=hkp Bm bk;clear bk;have z3:=hid zg;clear zg;obtain⟨ka,kb,kc,kd,rfl⟩:=z3.out.four;have HN:=hid (qad W6 (.cells zeroR 82));have bn:=qaf W6 (.cells zeroR 82);have Sk:=hid (qb5 ka kb kc kd);have Ok:=hid (qbh ka kb kc kd);have Ik:=hid z3.out.one;have Bk:=hid (jsh _ W6.heap.size _ #[ka,kb,kc,kd] _ _ HN.out);have bk:=jbr bn (jlr _) #[ka,kb,kc,kd];have zk:=hkp Br bk;have zj:=hkp Bm bk
    go_wp2_with (first|(with_reducible refine jsr rfl 82 _ _ rfl W6.heap.size #[ka,kb,kc,kd] rfl rfl 82 _ HN.out Sk.out Ok.out Ik.out ?_)|(with_reducible refine jlw rfl 82 _ rfl W6.heap.size rfl 82 _ (0,0) _ Bk.out underlying82 rfl Sk.out ?_));clear zk;clear zj;replace hb:=bws hb bk;replace z0:=hid (z0.out.step bk);replace z4:=hid (z4.out.step bk);replace z3:=hid (z3.out.step bk);replace Br:=hkp Br bk;replace Bm:=hkp Bm bk;clear bk;generalize (World.setRow (World.alloc _ _) _ _)=V7 at *;generalize W6.heap.size=g5 at *;clear bn HN
    try simp only[Act.put]
    refine qaA 7 63 [(Told.val (.agg #[ma,z2,mc,md]),[11]),(Told.val (.agg #[ka,kb,kc,kd]),[13]),(tPt nk,[56]),(tPt vp,[55,57]),(Told.val (.string tv),[58]),(Told.val (.string g),[2]),(Told.val (.string (g.extract 0 32)),[60])]
     (by kernel_rfl) (by kernel_rfl) rfl ?_ ?_
    ·simp only[take_succ_cons,List.take_zero,qaQ,and_true];refine⟨?_,?_,?_,?_,?_,?_,?_⟩
     ·intro a w hb h;have e0:a.tmps.getD 11 undef=.pointer (some ⟨g3,0,none⟩):=h 11 (by simp);exact qan (qab 82 (.tmp 11) rfl g3 e0 82 _ (0,0) _ (hkq Bm hb) underlying82 rfl Sm.out)
     ·intro a w hb h;have e0:a.tmps.getD 13 undef=.pointer (some ⟨g5,0,none⟩):=h 13 (by simp);exact qan (qab 82 (.tmp 13) rfl g5 e0 82 _ (0,0) _ (hkq Bk hb) underlying82 rfl Sk.out)
     ·intro a w hb h;simp[go_sem,td0 h rfl,qai];exact told_pt (CN.out _ w (z3.out.step hb))
     ·intro a w hb h;have f1:PtAt w (a.tmps.getD 57 undef) nk:=h 57 (by simp);obtain⟨u1,e1⟩:∃ u,a.tmps.getD 57 undef=u:=⟨_,rfl⟩;rw[e1]at f1;simp only[getD_eq_getD_getElem?]at e1;simp[go_sem,td0 h rfl,e1,qai];exact told_pt (CA.out _ _ w (z4.out.step hb) f1)
     ·intro a w hb h;have f1:PtAt w (a.tmps.getD 58 undef) vp:=h 58 (by simp);obtain⟨u1,e1⟩:∃ u,a.tmps.getD 58 undef=u:=⟨_,rfl⟩;rw[e1]at f1;simp only[getD_eq_getD_getElem?]at e1;simp[go_sem,e1,qai];exact told_txt (CY.out _ w f1)
     ·intro a w hb h;simp[go_sem,ud0 h rfl,qai,Told.val];exact Below.refl _ _
     ·intro a w hb h;simp[go_sem,td0 h rfl,qai,Told.val,y3];exact Below.refl _ _
    simp only[take_succ_cons,List.take_zero,List.drop_succ_cons,List.drop_zero,qaW,Act.put,List.setIfInBounds_toArray,List.set_cons_succ,List.set_cons_zero];rintro Y bk _ rfl _ rfl v57 zu v58 zv _ rfl _ rfl _ rfl;replace hb:=bws hb bk;clear bk zu zv z3 z4 Bm Bk Br z0 CN CA CY zb
    cases hc:(tv.toList==(g.extract 0 32).toList) with
    | true=>
     have hn:(tv.toList != (g.extract 0 32).toList)=false:=by rw[bne,hc];rfl
     go_wp2_with fail;go_ret;exact⟨by rw[HV.out,hc];rfl,hb⟩
    | false=>
     have hn:(tv.toList != (g.extract 0 32).toList)=true:=by rw[bne,hc];rfl
     go_wp2_with fail;go_ret;exact⟨by rw[HV.out,hc];rfl,hb⟩
   ·have hv:verE p t g=22:=by rw[verE,if_pos h1,if_neg (fun k=>h3 k.2)]
    have zc:okR (g.extract 32 g.size)=false:=by rw[h2];simpa using h3
    rw[zc]at CR;rw[hv];generalize ofPT p=pp at *;clear h1 h2 h3 zc hv z5;go_enter func41,ntmps41;go_wp2_with fail;refine (CO.out w).mono ?_;rintro e W1⟨⟨vr,rfl,z1⟩,bk⟩;replace hb:=bws hb bk;clear bk;have z0:=hid z1;clear z1;obtain⟨ra,rb,rc,rd,rfl⟩:=z0.out.four;have HN:=hid (qad W1 (.cells zeroR 82));have bn:=qaf W1 (.cells zeroR 82);have Sr:=hid (qb5 ra rb rc rd);have Or:=hid (qbh ra rb rc rd);have Ir:=hid z0.out.one;have Br:=hid (jsh _ W1.heap.size _ #[ra,rb,rc,rd] _ _ HN.out);have bk:=jbr bn (jlr _) #[ra,rb,rc,rd];go_wp2_with (first|(with_reducible refine jsr rfl 82 _ _ rfl W1.heap.size #[ra,rb,rc,rd] rfl rfl 82 _ HN.out Sr.out Or.out Ir.out ?_)|(with_reducible refine jlw rfl 82 _ rfl W1.heap.size rfl 82 _ (0,0) _ Br.out underlying82 rfl Sr.out ?_));replace hb:=bws hb bk;replace z0:=hid (z0.out.step bk);clear bk;generalize (World.setRow (World.alloc _ _) _ _)=V2 at *;generalize W1.heap.size=g1 at *;clear bn HN
    try simp only[Act.put]
    refine (CR.out V2).mono ?_;rintro e W3⟨rfl,bk⟩;replace hb:=bws hb bk;replace z0:=hid (z0.out.step bk);replace Br:=hkp Br bk;clear bk;go_wp2_with fail;go_ret;exact⟨rfl,hb⟩
  ·have d2:((g.size:Int) != 64)=true:=by simp;omega
   have hv:verE p t g=22:=by rw[verE,if_pos h1,if_neg (fun k=>h2 k.1)]
   rw[hv];generalize ofPT p=pp at *;clear h1 h2 hv z5;go_enter func41,ntmps41;go_wp2_with fail;refine (CO.out w).mono ?_;rintro e W1⟨⟨vr,rfl,z1⟩,bk⟩;replace hb:=bws hb bk;clear bk;have z0:=hid z1;clear z1;obtain⟨ra,rb,rc,rd,rfl⟩:=z0.out.four;have HN:=hid (qad W1 (.cells zeroR 82));have bn:=qaf W1 (.cells zeroR 82);have Sr:=hid (qb5 ra rb rc rd);have Or:=hid (qbh ra rb rc rd);have Ir:=hid z0.out.one;have Br:=hid (jsh _ W1.heap.size _ #[ra,rb,rc,rd] _ _ HN.out);have bk:=jbr bn (jlr _) #[ra,rb,rc,rd];go_wp2_with (first|(with_reducible refine jsr rfl 82 _ _ rfl W1.heap.size #[ra,rb,rc,rd] rfl rfl 82 _ HN.out Sr.out Or.out Ir.out ?_)|(with_reducible refine jlw rfl 82 _ rfl W1.heap.size rfl 82 _ (0,0) _ Br.out underlying82 rfl Sr.out ?_));replace hb:=bws hb bk;replace z0:=hid (z0.out.step bk);clear bk;generalize (World.setRow (World.alloc _ _) _ _)=V2 at *;generalize W1.heap.size=g1 at *;clear bn HN
   try simp only[Act.put]
   go_ret;exact⟨rfl,hb⟩
 ·have d1:(ofET p != 0)=true:=by simp;omega
  have hv:verE p t g=21:=by rw[verE,if_neg h1]
  rw[hv];generalize ofPT p=pp at *;generalize ofET p=q at *;clear h1 hv z5;go_enter func41,ntmps41;go_wp2_with fail;refine (CO.out w).mono ?_;rintro e W1⟨⟨vr,rfl,z1⟩,bk⟩;replace hb:=bws hb bk;clear bk;have z0:=hid z1;clear z1;obtain⟨ra,rb,rc,rd,rfl⟩:=z0.out.four;have HN:=hid (qad W1 (.cells zeroR 82));have bn:=qaf W1 (.cells zeroR 82);have Sr:=hid (qb5 ra rb rc rd);have Or:=hid (qbh ra rb rc rd);have Ir:=hid z0.out.one;have Br:=hid (jsh _ W1.heap.size _ #[ra,rb,rc,rd] _ _ HN.out);have bk:=jbr bn (jlr _) #[ra,rb,rc,rd];go_wp2_with (first|(with_reducible refine jsr rfl 82 _ _ rfl W1.heap.size #[ra,rb,rc,rd] rfl rfl 82 _ HN.out Sr.out Or.out Ir.out ?_)|(with_reducible refine jlw rfl 82 _ rfl W1.heap.size rfl 82 _ (0,0) _ Br.out underlying82 rfl Sr.out ?_));replace hb:=bws hb bk;replace z0:=hid (z0.out.step bk);clear bk;generalize (World.setRow (World.alloc _ _) _ _)=V2 at *;generalize W1.heap.size=g1 at *;clear bn HN
  try simp only[Act.put]
  go_ret;exact⟨rfl,hb⟩
end Go.Proofs.YteomfleofeeofaaGreatDoor
