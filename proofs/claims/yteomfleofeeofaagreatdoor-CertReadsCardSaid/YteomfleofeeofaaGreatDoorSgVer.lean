/- The program's Verify, and all of its calls. -/
import Derived.Test.YteomfleofeeofaaGreatDoorSgPar
import Derived.Test.YteomfleofeeofaaGreatDoorSgTop
import Derived.Test.YteomfleofeeofaaGreatDoorToldW
namespace Go.Proofs.YteomfleofeeofaaGreatDoor
open Go.Lib (hid)
open _root_.List (take_succ_cons drop_succ_cons set_cons_succ set_cons_zero setIfInBounds_toArray)
open _root_.Array (getD_eq_getD_getElem?)
set_option maxHeartbeats 16000000
open Go.Proofs.Tryz
set_option maxRecDepth 100000
set_option linter.unusedSimpArgs false
set_option linter.unusedVariables false
open Go.RowKit Go.Sort
def tNewP(B:Nat):Told:=⟨fun w v=>∃ g,v=.pointer (some ⟨g,0,none⟩)∧B≤g∧w.heap[g]?=some (.cells zrow4 63),fun w w' v hb ⟨g,h1,h2,h3⟩=>⟨g,h1,h2,qap hb (qac h3) h3⟩⟩
theorem pver_sizes(p t g:ByteArray)(hp:p.size=32)(hg:g.size=64)(ht:t.size≤1000000):(g.extract 0 32++p++t).size≤1099511627776:=by
 rw[ByteArray.size_append,ByteArray.size_append,ByteArray.size_extract,hp,hg];omega
theorem pverify_any(p t g:ByteArray)(w:World)(ht:t.size≤1000000)(hT:SgnQ w):Rt 39 #[.string p,.string t,.string g] w (.int .i64 (verE p t g)):=by
 unfold Rt;have hb:=Below.refl w.heap.size w;have CO:=hid (fun W (hW:SgnQ W)=>ptOf_any p W hW.2.2.1);have z1:=ofPT_ok p;obtain⟨zm,zl⟩:=jzi qch;have HP:=hid hT;clear hT zl;by_cases h1:ofET p=0
 ·have d1:((0:Int) != 0)=false:=rfl;rw[h1]at CO;by_cases h2:g.size=64
  ·have d2:((g.size:Int) != 64)=false:=by simp;omega
   have y3:(32:Int)≤(g.size:Int):=by omega
   have y0:(0:Int)≤(32:Int):=by omega
   have CR:=hid (fun W (hW:SgnQ W)=>right_any (g.extract 32 g.size) W hW.2.2.2);by_cases h3:okR (g.extract 32 64)=true
   ·have hv:verE p t g=if (txtP (verP p t g)).toList==(g.extract 0 32).toList then 0 else 22:=by rw[verE,if_pos h1,if_pos ⟨h2,h3⟩]
    rw[show okR (g.extract 32 g.size)=true by rw[h2];exact h3]at CR;obtain⟨k1,k2,k3,k4⟩:=ver_cats p t g (ofET_ok p h1).1 h2 ht;have CW:=hid (fun W hW=>pwide_any (g.extract 0 32++p++t) W (pver_sizes p t g (ofET_ok p h1).1 h2 ht) hW);rw[show wdT (g.extract 0 32++p++t)=kT (g.extract 0 32) p t from rfl]at CW;have CT:=hid (fun W hW=>ptimes_any (g.extract 32 g.size) W hW);rw[show qbB baseP (g.extract 32 g.size)=qbB baseP (g.extract 32 64) by rw[h2]]at CT;have z4:=hid (fun W (hW:SgnQ W)=>ptMulT_any (ofPT p) (kT (g.extract 0 32) p t) W z1 hW.2.2.1);have CN:=hid (fun W (hW:SgnQ W)=>ptNeg_any (qbB (ofPT p) (kT (g.extract 0 32) p t)) W (qe6 _ _) hW.2.2.1);have CA:=hid (fun W (hW:SgnQ W)=>ptAdd_any (qbB baseP (g.extract 32 64)) (negP (qbB (ofPT p) (kT (g.extract 0 32) p t))) W (qe6 _ _) (negP_ok _ (qe6 _ _)) hW.2.2.1);rw[show sumP (qbB baseP (g.extract 32 64)) (negP (qbB (ofPT p) (kT (g.extract 0 32) p t)))=verP p t g from rfl]at CA;have CY:=hid (fun W (hW:SgnQ W)=>ptBytes_any (verP p t g) W (verP_ok _ _ _) hW.2.2.1);have HV:=hid hv;generalize verE p t g=ve at *;generalize txtP (verP p t g)=tv at *;generalize verP p t g=vp at *;generalize negP (qbB (ofPT p) (kT (g.extract 0 32) p t))=nk at *;generalize qbB (ofPT p) (kT (g.extract 0 32) p t)=mk at *;generalize qbB baseP (g.extract 32 64)=mb at *;generalize mulET (kT (g.extract 0 32) p t)=qe at *;generalize kT (g.extract 0 32) p t=kk at *;generalize ofPT p=pp at *;clear h3 z1 hv h1 h2
    go_enter func39,ntmps39;go_wp2_with fail;refine (CO.out w HP.out).mono ?_;rintro e W1⟨rfl,bk⟩;replace hb:=bws hb bk;replace HP:=hid (HP.out.step bk);clear bk;have HN:=hid (qad W1 (.cells zrow4 63));have bn:=qaf W1 (.cells zrow4 63);have Br:=hid (jsh _ W1.heap.size _ (uc (ptL pp)) _ _ HN.out);have bk:=jbr bn (jlr _) (uc (ptL pp));go_wp2_with (first|(with_reducible refine jsr rfl 63 _ _ rfl W1.heap.size (uc (ptL pp)) rfl rfl 63 _ HN.out (qaR _ (qas _)) (qaU _ (qas _)) (qar _) ?_)|(with_reducible refine jlw rfl 63 _ rfl W1.heap.size rfl 63 _ (0,0) _ Br.out underlying63 rfl (qaR _ (qas _)) ?_));replace hb:=bws hb bk;replace HP:=hid (HP.out.step bk);clear bk;generalize (World.setRow (World.alloc _ _) _ _)=V2 at *;generalize W1.heap.size=g1 at *;clear bn HN
    try simp only[Act.put]
    refine qaA 5 49 [(Told.val (.string g),[2]),
     (Told.val (.string (g.extract 0 32)),[23]),
     (Told.val (.string g),[2]),
     (Told.val (.string (g.extract 32 g.size)),[25]),
     (Told.val (.string (g.extract 0 32)),[24])]
     (by kernel_rfl) (by kernel_rfl) rfl ?_ ?_
    ·simp only[take_succ_cons,List.take_zero,qaQ,and_true];refine⟨?_,?_,?_,?_,?_⟩
     ·intro a w hb h;refine qan ?_;simp[go_sem,ud0 h rfl,qaa]
     ·intro a w hb h;refine qan ?_;simp[go_sem,td0 h rfl,qaa,y3]
     ·intro a w hb h;refine qan ?_;simp[go_sem,ud0 h rfl,qaa]
     ·intro a w hb h;refine qan ?_;simp[go_sem,td0 h rfl,qaa,y3]
     ·intro a w hb h;refine qan ?_;simp[go_sem,td0 h rfl,qaa]
    simp only[zks,qaW,Act.put,zkt];rintro X6 bk _ rfl _ rfl _ rfl _ rfl _ rfl;replace hb:=bws hb bk;replace HP:=hid (HP.out.step bk);replace Br:=hkp Br bk;clear bk;go_wp2_with fail;refine (CR.out X6 HP.out).mono ?_;rintro e W3⟨rfl,bk⟩;replace hb:=bws hb bk;replace HP:=hid (HP.out.step bk);replace Br:=hkp Br bk;clear bk;go_wp2_with fail;refine qeV 12 10 49 [11,39] [(Told.val (.agg (uc (ptL pp))),[7]),
     (Told.val (.string (g.extract 0 32)),[9]),
     (Told.val (.string p),[0]),
     (Told.val (.string ((g.extract 0 32)++p)),[32,33]),
     (Told.val (.string t),[1]),
     (Told.val (.string ((g.extract 0 32)++p++t)),[34,35]),
     (Told.val (.string kk),[36]),
     (Told.val (.tuple #[.agg (uc (ptL mk)),.int .i64 qe]),[31,37]),
     (Told.val (.tuple #[.agg (uc (ptL mk)),.int .i64 qe]),[38]),
     (Told.val (.agg (uc (ptL mk))),[30]),
     (Told.val (.int .i64 qe),[30]),
     (tNewP W3.heap.size,[])]
     _ rfl (by kernel_rfl) (by kernel_rfl) rfl (by simp[qc8]) ?_ ?_ ?_ ?_
    ·intro k hk o ho;simp at ho;subst ho;rcases List.mem_cons.1 hk with rfl|hk
     ·decide
     ·rcases List.mem_cons.1 hk with rfl|hk
      ·decide
      ·cases hk
    ·simp only[take_succ_cons,List.take_zero,qaQ,and_true];refine⟨?_,?_,?_,?_,?_,?_,?_,?_,?_,?_,?_,?_⟩
     ·intro a w hb h;have e0:a.tmps.getD 7 undef=.pointer (some ⟨g1,0,none⟩):=h 7 (by simp);exact qan (qab 63 (.tmp 7) rfl g1 e0 63 _ (0,0) _ (hkq Br hb) underlying63 rfl (qaR _ (qas _)))
     ·intro a w hb h;have e0:a.tmps.getD 9 undef=.string (g.extract 0 32):=h 9 (by simp);simp only[getD_eq_getD_getElem?]at e0;refine qan ?_;simp[go_sem,e0,qaa]
     ·intro a w hb h;have e0:a.tmps.getD 0 undef=.string p:=h 0 (by simp);simp only[getD_eq_getD_getElem?]at e0;refine qan ?_;simp[go_sem,e0,qaa]
     ·intro a w hb h;have e0:a.tmps.getD 32 undef=.string (g.extract 0 32):=h 32 (by simp);have e1:a.tmps.getD 33 undef=.string p:=h 33 (by simp);simp only[getD_eq_getD_getElem?]at e0 e1;refine qan ?_;simp[go_sem,e0,e1,qaa,Nat.not_lt.2 k3]
     ·intro a w hb h;have e0:a.tmps.getD 1 undef=.string t:=h 1 (by simp);simp only[getD_eq_getD_getElem?]at e0;refine qan ?_;simp[go_sem,e0,qaa]
     ·intro a w hb h;have e0:a.tmps.getD 34 undef=.string ((g.extract 0 32)++p):=h 34 (by simp);have e1:a.tmps.getD 35 undef=.string t:=h 35 (by simp);simp only[getD_eq_getD_getElem?]at e0 e1;refine qan ?_;simp[go_sem,e0,e1,qaa,Nat.not_lt.2 k4]
     ·intro a w hb h;have e0:a.tmps.getD 36 undef=.string ((g.extract 0 32)++p++t):=h 36 (by simp);simp only[getD_eq_getD_getElem?]at e0;refine qan ?_;simp[go_sem,e0,qaa];exact CW.out w (HP.out.step hb)
     ·intro a w hb h;have e0:a.tmps.getD 31 undef=.agg (uc (ptL pp)):=h 31 (by simp);have e1:a.tmps.getD 37 undef=.string kk:=h 37 (by simp);simp only[getD_eq_getD_getElem?]at e0 e1;refine qan ?_;simp[go_sem,e0,e1,qaa];exact z4.out w (HP.out.step hb)
     ·intro a w hb h;have e0:a.tmps.getD 38 undef=.tuple #[.agg (uc (ptL mk)),.int .i64 qe]:=h 38 (by simp);simp only[getD_eq_getD_getElem?]at e0;refine qan ?_;simp[go_sem,e0,qaa]
     ·intro a w hb h;have e0:a.tmps.getD 30 undef=.tuple #[.agg (uc (ptL mk)),.int .i64 qe]:=h 30 (by simp);simp only[getD_eq_getD_getElem?]at e0;refine qan ?_;simp[go_sem,e0,qaa]
     ·intro a w hb h;have e0:a.tmps.getD 30 undef=.tuple #[.agg (uc (ptL mk)),.int .i64 qe]:=h 30 (by simp);simp only[getD_eq_getD_getElem?]at e0;refine qan ?_;simp[go_sem,e0,qaa]
     ·intro a w hb h;simp[go_sem,zm,qai];exact⟨qaf w _,w.heap.size,rfl,hb.size,qad w _⟩
    ·intro o s ho hs a w h;simp at ho hs;subst ho hs;have e0:a.tmps.getD 30 undef=.tuple #[.agg (uc (ptL mk)),.int .i64 qe]:=h 30 (by simp);simp only[getD_eq_getD_getElem?]at e0;exact⟨.int .i64 qe,fun w2=>by simp[go_sem,e0],fun w1=>rfl⟩
    intro X bk;simp only[zks,qf1,Act.put,zkt];rintro v31 z9 v32 za v33 zb v34 zc v35 zd v36 ze v37 zf v38 zg v30 z8 v39 zh v40 zi _⟨g3,rfl,z7,z3⟩;obtain rfl:=z9.symm;obtain rfl:=za.symm;obtain rfl:=zb.symm;obtain rfl:=zc.symm;obtain rfl:=zd.symm;obtain rfl:=ze.symm;obtain rfl:=zf.symm;obtain rfl:=zg.symm;obtain rfl:=z8.symm;obtain rfl:=zh.symm;obtain rfl:=zi.symm;have z0:=jbr bk z7 (uc (ptL mk));refine⟨X.setRow g3 (uc (ptL mk)),z0,fun a' z6=>?_,?_⟩
    ·have zj:a'.eval (.tmp 11)=.pointer (some ⟨g3,0,none⟩):=z6 11 (by simp);have zk:a'.eval (.tmp 39)=.agg (uc (ptL mk)):=z6 39 (by simp);have z2:=run_storeVar_row (P:=Tryz.prog) X g3 63 63 zrow4 (uc (ptL mk)) z3 (qaR _ (qas _)) (qaU _ (qas _)) (qar _);unfold execOp;simp only[zj,zk,Instr.storeAt,Instr.sureAddr,Sem.run_bind,Sem.run_pure,Result.andThen_ok,z2]
    have Bm:=hid (jsh X g3 _ (uc (ptL mk)) _ _ z3);clear z9 za zb zc zd ze zf zg z8 zh zi z3 z7;replace hb:=hb.trans (z0.mono hb.size);replace HP:=hid (HP.out.step z0);replace Br:=hkp Br z0;clear z0;clear bk;generalize X.setRow g3 _=X2 at *;clear CW z4 CO CR;go_wp2_with fail;refine qaA 7 49 [(Told.val (.string (g.extract 32 g.size)),[10]),
     (Told.val (.agg (uc (ptL mb))),[41]),
     (Told.val (.agg (uc (ptL mk))),[11]),
     (Told.val (.agg (uc (ptL nk))),[43]),
     (Told.val (.agg (uc (ptL vp))),[42,44]),
     (Told.val (.string tv),[45]),
     (Told.val (.string (g.extract 0 32)),[9])]
     (by kernel_rfl) (by kernel_rfl) rfl ?_ ?_
    ·simp only[take_succ_cons,List.take_zero,qaQ,and_true];refine⟨?_,?_,?_,?_,?_,?_,?_⟩
     ·intro a w hb h;refine qan ?_;simp[go_sem,ud0 h rfl,qaa]
     ·intro a w hb h;refine qan ?_;simp[go_sem,td0 h rfl,qaa];exact CT.out w (HP.out.step hb)
     ·intro a w hb h;have e0:a.tmps.getD 11 undef=.pointer (some ⟨g3,0,none⟩):=h 11 (by simp);exact qan (qab 63 (.tmp 11) rfl g3 e0 63 _ (0,0) _ (hkq Bm hb) underlying63 rfl (qaR _ (qas _)))
     ·intro a w hb h;refine qan ?_;simp[go_sem,td0 h rfl,qaa];exact CN.out w (HP.out.step hb)
     ·intro a w hb h;refine qan ?_;simp[go_sem,td0 h rfl,td1 h rfl,qaa];exact CA.out w (HP.out.step hb)
     ·intro a w hb h;refine qan ?_;simp[go_sem,td0 h rfl,qaa];exact CY.out w (HP.out.step hb)
     ·intro a w hb h;refine qan ?_;simp[go_sem,ud0 h rfl,qaa]
    simp only[zks,qaW,Act.put,zkt];rintro Y bk _ rfl _ rfl _ rfl _ rfl _ rfl _ rfl _ rfl;replace hb:=bws hb bk;replace HP:=hid (HP.out.step bk);replace Br:=hkp Br bk;replace Bm:=hkp Bm bk;clear bk;clear Bm Br CN CA CY CT
    cases hc:(tv.toList==(g.extract 0 32).toList) with
    | true=>
     have hn:(tv.toList != (g.extract 0 32).toList)=false:=by rw[bne,hc];rfl
     go_wp2_with fail;go_ret;exact⟨by rw[HV.out,hc];rfl,hb⟩
    | false=>
     have hn:(tv.toList != (g.extract 0 32).toList)=true:=by rw[bne,hc];rfl
     go_wp2_with fail;go_ret;exact⟨by rw[HV.out,hc];rfl,hb⟩
   ·have hv:verE p t g=22:=by rw[verE,if_pos h1,if_neg (fun k=>h3 k.2)]
    have z5:okR (g.extract 32 g.size)=false:=by rw[h2];simpa using h3
    rw[z5]at CR;rw[hv];generalize ofPT p=pp at *;clear h1 h2 h3 z5 hv z1;go_enter func39,ntmps39;go_wp2_with fail;refine (CO.out w HP.out).mono ?_;rintro e W1⟨rfl,bk⟩;replace hb:=bws hb bk;replace HP:=hid (HP.out.step bk);clear bk;have HN:=hid (qad W1 (.cells zrow4 63));have bn:=qaf W1 (.cells zrow4 63);have Br:=hid (jsh _ W1.heap.size _ (uc (ptL pp)) _ _ HN.out);have bk:=jbr bn (jlr _) (uc (ptL pp));go_wp2_with (first|(with_reducible refine jsr rfl 63 _ _ rfl W1.heap.size (uc (ptL pp)) rfl rfl 63 _ HN.out (qaR _ (qas _)) (qaU _ (qas _)) (qar _) ?_)|(with_reducible refine jlw rfl 63 _ rfl W1.heap.size rfl 63 _ (0,0) _ Br.out underlying63 rfl (qaR _ (qas _)) ?_));replace hb:=bws hb bk;replace HP:=hid (HP.out.step bk);clear bk;generalize (World.setRow (World.alloc _ _) _ _)=V2 at *;generalize W1.heap.size=g1 at *;clear bn HN
    try simp only[Act.put]
    refine qaA 5 49 [(Told.val (.string g),[2]),
     (Told.val (.string (g.extract 0 32)),[23]),
     (Told.val (.string g),[2]),
     (Told.val (.string (g.extract 32 g.size)),[25]),
     (Told.val (.string (g.extract 0 32)),[24])]
     (by kernel_rfl) (by kernel_rfl) rfl ?_ ?_
    ·simp only[take_succ_cons,List.take_zero,qaQ,and_true];refine⟨?_,?_,?_,?_,?_⟩
     ·intro a w hb h;refine qan ?_;simp[go_sem,ud0 h rfl,qaa]
     ·intro a w hb h;refine qan ?_;simp[go_sem,td0 h rfl,qaa,y3]
     ·intro a w hb h;refine qan ?_;simp[go_sem,ud0 h rfl,qaa]
     ·intro a w hb h;refine qan ?_;simp[go_sem,td0 h rfl,qaa,y3]
     ·intro a w hb h;refine qan ?_;simp[go_sem,td0 h rfl,qaa]
    simp only[zks,qaW,Act.put,zkt];rintro X6 bk _ rfl _ rfl _ rfl _ rfl _ rfl;replace hb:=bws hb bk;replace HP:=hid (HP.out.step bk);replace Br:=hkp Br bk;clear bk;go_wp2_with fail;refine (CR.out X6 HP.out).mono ?_;rintro e W3⟨rfl,bk⟩;replace hb:=bws hb bk;replace HP:=hid (HP.out.step bk);replace Br:=hkp Br bk;clear bk;go_wp2_with fail;go_ret;exact⟨rfl,hb⟩
  ·have d2:((g.size:Int) != 64)=true:=by simp;omega
   have hv:verE p t g=22:=by rw[verE,if_pos h1,if_neg (fun k=>h2 k.1)]
   rw[hv];generalize ofPT p=pp at *;clear h1 h2 hv z1;go_enter func39,ntmps39;go_wp2_with fail;refine (CO.out w HP.out).mono ?_;rintro e W1⟨rfl,bk⟩;replace hb:=bws hb bk;replace HP:=hid (HP.out.step bk);clear bk;have HN:=hid (qad W1 (.cells zrow4 63));have bn:=qaf W1 (.cells zrow4 63);have Br:=hid (jsh _ W1.heap.size _ (uc (ptL pp)) _ _ HN.out);have bk:=jbr bn (jlr _) (uc (ptL pp));go_wp2_with (first|(with_reducible refine jsr rfl 63 _ _ rfl W1.heap.size (uc (ptL pp)) rfl rfl 63 _ HN.out (qaR _ (qas _)) (qaU _ (qas _)) (qar _) ?_)|(with_reducible refine jlw rfl 63 _ rfl W1.heap.size rfl 63 _ (0,0) _ Br.out underlying63 rfl (qaR _ (qas _)) ?_));replace hb:=bws hb bk;replace HP:=hid (HP.out.step bk);clear bk;generalize (World.setRow (World.alloc _ _) _ _)=V2 at *;generalize W1.heap.size=g1 at *;clear bn HN
   try simp only[Act.put]
   go_ret;exact⟨rfl,hb⟩
 ·have d1:(ofET p != 0)=true:=by simp;omega
  have hv:verE p t g=21:=by rw[verE,if_neg h1]
  rw[hv];generalize ofPT p=pp at *;generalize ofET p=q at *;clear h1 hv z1;go_enter func39,ntmps39;go_wp2_with fail;refine (CO.out w HP.out).mono ?_;rintro e W1⟨rfl,bk⟩;replace hb:=bws hb bk;replace HP:=hid (HP.out.step bk);clear bk;have HN:=hid (qad W1 (.cells zrow4 63));have bn:=qaf W1 (.cells zrow4 63);have Br:=hid (jsh _ W1.heap.size _ (uc (ptL pp)) _ _ HN.out);have bk:=jbr bn (jlr _) (uc (ptL pp));go_wp2_with (first|(with_reducible refine jsr rfl 63 _ _ rfl W1.heap.size (uc (ptL pp)) rfl rfl 63 _ HN.out (qaR _ (qas _)) (qaU _ (qas _)) (qar _) ?_)|(with_reducible refine jlw rfl 63 _ rfl W1.heap.size rfl 63 _ (0,0) _ Br.out underlying63 rfl (qaR _ (qas _)) ?_));replace hb:=bws hb bk;replace HP:=hid (HP.out.step bk);clear bk;generalize (World.setRow (World.alloc _ _) _ _)=V2 at *;generalize W1.heap.size=g1 at *;clear bn HN
  try simp only[Act.put]
  go_ret;exact⟨rfl,hb⟩
end Go.Proofs.YteomfleofeeofaaGreatDoor
