/- The program's Verify, and all of its calls. -/
import Derived.Test.YteomfleofeeofaaGreatDoorSgPub
import Derived.Test.YteomfleofeeofaaGreatDoorSgLaid
import Derived.Test.YteomfleofeeofaaGreatDoorSgSpec
import Derived.Test.YteomfleofeeofaaGreatDoorPtA
import Derived.Test.YteomfleofeeofaaGreatDoorConvS
import Derived.Test.YteomfleofeeofaaGreatDoorToldW
namespace Go.Proofs.YteomfleofeeofaaGreatDoor
open Go.Lib (hid)
open _root_.List (take_succ_cons drop_succ_cons set_cons_succ set_cons_zero setIfInBounds_toArray)
open _root_.Array (getD_eq_getD_getElem?)
set_option maxRecDepth 100000
set_option linter.unusedSimpArgs false
set_option linter.unusedVariables false
open Go.RowKit Go.Sort
def tNewP (B:Nat):Told:=⟨fun w v=>∃ g,v=.pointer (some ⟨g,0,none⟩)∧B≤g∧w.heap[g]?=some (.cells zrow4 63),fun w w' v hb ⟨g,h1,h2,h3⟩=>⟨g,h1,h2,qaa hb (qab h3) h3⟩⟩
theorem pver_sizes (p t g:ByteArray) (hp:p.size=32) (hg:g.size=64) (ht:t.size≤1000000):(g.extract 0 32++p++t).size≤1099511627776:=by
 rw [ByteArray.size_append,ByteArray.size_append,ByteArray.size_extract,hp,hg]
 omega
set_option maxHeartbeats 8000000 in
theorem pverify_any (p t g:ByteArray) (w:World) (ht:t.size≤1000000) (hT:SgnQ w) :
  Calls Tryz.prog 39 #[.string p,.string t,.string g] w fun e w'=>e=.returned (.int .i64 (verE p t g))∧Below w.heap.size w w':=by
 have hb:=Below.refl w.heap.size w
 have CO:=hid (fun W (hW:SgnQ W)=>ptOf_any p W hW.2.2.1)
 have hop:=ofPT_ok p;obtain ⟨hzp,hip⟩:=zero_of_info qbE;have HP:=hid hT;clear hT hip
 by_cases h1:ofET p=0
 ·have d1:((0:Int) != 0)=false:=rfl
  rw [h1] at CO
  by_cases h2:g.size=64
  ·have d2:((g.size:Int) != 64)=false:=by simp;omega
   have y3:(32:Int)≤(g.size:Int):=by omega
   have y0:(0:Int)≤(32:Int):=by omega
   have CR:=hid (fun W (hW:SgnQ W)=>right_any (g.extract 32 g.size) W hW.2.2.2)
   by_cases h3:okR (g.extract 32 64)=true
   ·have hv:verE p t g=if (txtP (verP p t g)).toList==(g.extract 0 32).toList then 0 else 22:=by rw [verE,if_pos h1,if_pos ⟨h2,h3⟩]
    rw [show okR (g.extract 32 g.size)=true by rw [h2];exact h3] at CR
    obtain ⟨k1,k2,k3,k4⟩:=ver_cats p t g (ofET_ok p h1).1 h2 ht
    have CW:=hid (fun W hW=>pwide_any (g.extract 0 32++p++t) W (pver_sizes p t g (ofET_ok p h1).1 h2 ht) hW)
    rw [show wdT (g.extract 0 32++p++t)=kT (g.extract 0 32) p t from rfl] at CW
    have CT:=hid (fun W hW=>qfh (g.extract 32 g.size) W hW)
    rw [show qbr baseP (g.extract 32 g.size)=qbr baseP (g.extract 32 64) by rw [h2]] at CT
    have CM2:=hid (fun W (hW:SgnQ W)=>ptMulT_any (ofPT p) (kT (g.extract 0 32) p t) W hop hW.2.2.1)
    have CN:=hid (fun W (hW:SgnQ W)=>ptNeg_any (qbr (ofPT p) (kT (g.extract 0 32) p t)) W (qeC _ _) hW.2.2.1)
    have CA:=hid (fun W (hW:SgnQ W)=>ptAdd_any (qbr baseP (g.extract 32 64)) (negP (qbr (ofPT p) (kT (g.extract 0 32) p t))) W (qeC _ _) (negP_ok _ (qeC _ _)) hW.2.2.1)
    rw [show sumP (qbr baseP (g.extract 32 64)) (negP (qbr (ofPT p) (kT (g.extract 0 32) p t)))=verP p t g from rfl] at CA
    have CY:=hid (fun W (hW:SgnQ W)=>qeX (verP p t g) W (verP_ok _ _ _) hW.2.2.1)
    have HV:=hid hv;generalize verE p t g=ve at *;generalize txtP (verP p t g)=tv at *;generalize verP p t g=vp at *;generalize negP (qbr (ofPT p) (kT (g.extract 0 32) p t))=nk at *;generalize qbr (ofPT p) (kT (g.extract 0 32) p t)=mk at *;generalize qbr baseP (g.extract 32 64)=mb at *;generalize mulET (kT (g.extract 0 32) p t)=qe at *;generalize kT (g.extract 0 32) p t=kk at *;generalize ofPT p=pp at *;clear h3 hop hv h1 h2
    go_enter Tryz.func39,Tryz.ntmps39
    go_wp2_with fail
    refine (CO.out w HP.out).mono ?_
    rintro e W1 ⟨rfl,bk⟩;replace hb:=hb.trans (bk.mono hb.size);replace HP:=hid (HP.out.step bk);clear bk;have HN:=hid (qag W1 (.cells zrow4 63));have bn:=qaf W1 (.cells zrow4 63);have Br:=hid (setRow_heap _ W1.heap.size _ (uc (ptL pp)) _ _ HN.out);have bk:=below_setRow bn (Nat.le_refl _) (uc (ptL pp))
    go_wp2_with (first | (with_reducible refine wpList_store_row rfl 63 _ _ rfl W1.heap.size (uc (ptL pp)) rfl rfl 63 _ HN.out (qaH _ (qaq _)) (qaK _ (qaq _)) (qao _) ?_) | (with_reducible refine wpList_load_row rfl 63 _ rfl W1.heap.size rfl 63 _ (0,0) _ Br.out Tryz.underlying63 rfl (qaH _ (qaq _)) ?_))
    replace hb:=hb.trans (bk.mono hb.size);replace HP:=hid (HP.out.step bk);clear bk;generalize (World.setRow (World.alloc _ _) _ _)=V2 at *;generalize W1.heap.size=g1 at *;clear bn HN
    try simp only [Act.put]
    refine qaN 5 49 [(Told.val (.string g),[2]),
     (Told.val (.string (g.extract 0 32)),[23]),
     (Told.val (.string g),[2]),
     (Told.val (.string (g.extract 32 g.size)),[25]),
     (Told.val (.string (g.extract 0 32)),[24])]
     (by kernel_rfl) (by kernel_rfl) rfl ?_ ?_
    ·simp only [take_succ_cons,List.take_zero,qaV,and_true]
     refine ⟨?_,?_,?_,?_,?_⟩
     ·intro a w hb h
      have e0:a.tmps.getD 2 undef=.string g:=h 2 (by simp)
      simp only [getD_eq_getD_getElem?] at e0
      refine qan ?_
      simp [go_sem,e0,qac]
     ·intro a w hb h
      have e0:a.tmps.getD 23 undef=.string g:=h 23 (by simp)
      simp only [getD_eq_getD_getElem?] at e0
      refine qan ?_
      simp [go_sem,e0,qac,y3]
     ·intro a w hb h
      have e0:a.tmps.getD 2 undef=.string g:=h 2 (by simp)
      simp only [getD_eq_getD_getElem?] at e0
      refine qan ?_
      simp [go_sem,e0,qac]
     ·intro a w hb h
      have e0:a.tmps.getD 25 undef=.string g:=h 25 (by simp)
      simp only [getD_eq_getD_getElem?] at e0
      refine qan ?_
      simp [go_sem,e0,qac,y3]
     ·intro a w hb h
      have e0:a.tmps.getD 24 undef=.string (g.extract 0 32):=h 24 (by simp)
      simp only [getD_eq_getD_getElem?] at e0
      refine qan ?_
      simp [go_sem,e0,qac]
    simp only [take_succ_cons,List.take_zero,drop_succ_cons,List.drop_zero,qa5,Act.put,setIfInBounds_toArray,set_cons_succ,set_cons_zero]
    rintro X6 bk v23 q23 v24 q24 v25 q25 v26 q26 v9 q9;obtain rfl:=q23.symm;obtain rfl:=q24.symm;obtain rfl:=q25.symm;obtain rfl:=q26.symm;obtain rfl:=q9.symm;clear q23 q24 q25 q26 q9;replace hb:=hb.trans (bk.mono hb.size);replace HP:=hid (HP.out.step bk);replace Br:=hid (qaa bk (qab Br.out) Br.out);clear bk
    go_wp2_with fail
    refine (CR.out X6 HP.out).mono ?_
    rintro e W3 ⟨rfl,bk⟩;replace hb:=hb.trans (bk.mono hb.size);replace HP:=hid (HP.out.step bk);replace Br:=hid (qaa bk (qab Br.out) Br.out);clear bk
    go_wp2_with fail
    refine wp_region_told_latew 12 10 49 [11,39] [(Told.val (.agg (uc (ptL pp))),[7]),
     (Told.val (.string (g.extract 0 32)),[9]),
     (Told.val (.string p),[0]),
     (Told.val (.string ((g.extract 0 32)++p)),[32,33]),
     (Told.val (.string t),[1]),
     (Told.val (.string ((g.extract 0 32)++p++t)),[34,35]),
     (Told.val (.string kk),[36]),
     (Told.val (.tuple #[.agg (uc (ptL mk)),.int .i64 qe]),[31,37]),
     (Told.val (.tuple #[.agg (uc (ptL mk)),.int .i64 qe]),[38]),
     (Told.val (.agg (uc (ptL mk))),[30]),
     (Told.val (.int .i64 qe),[30]),
     (tNewP W3.heap.size,[])]
     _ rfl (by kernel_rfl) (by kernel_rfl) rfl (by simp [qbu]) ?_ ?_ ?_ ?_
    ·intro k hk o ho
     simp at ho
     subst ho
     rcases List.mem_cons.1 hk with rfl | hk
     ·decide
     ·rcases List.mem_cons.1 hk with rfl | hk
      ·decide
      ·cases hk
    ·simp only [take_succ_cons,List.take_zero,qaV,and_true]
     refine ⟨?_,?_,?_,?_,?_,?_,?_,?_,?_,?_,?_,?_⟩
     ·intro a w hb h
      have e0:a.tmps.getD 7 undef=.pointer (some ⟨g1,0,none⟩):=h 7 (by simp)
      exact qan (qae 63 (.tmp 7) rfl g1 e0 63 _ (0,0) _ (qaa hb (qab Br.out) Br.out) Tryz.underlying63 rfl (qaH _ (qaq _)))
     ·intro a w hb h
      have e0:a.tmps.getD 9 undef=.string (g.extract 0 32):=h 9 (by simp)
      simp only [getD_eq_getD_getElem?] at e0
      refine qan ?_
      simp [go_sem,e0,qac]
     ·intro a w hb h
      have e0:a.tmps.getD 0 undef=.string p:=h 0 (by simp)
      simp only [getD_eq_getD_getElem?] at e0
      refine qan ?_
      simp [go_sem,e0,qac]
     ·intro a w hb h
      have e0:a.tmps.getD 32 undef=.string (g.extract 0 32):=h 32 (by simp)
      have e1:a.tmps.getD 33 undef=.string p:=h 33 (by simp)
      simp only [getD_eq_getD_getElem?] at e0 e1
      refine qan ?_
      simp [go_sem,e0,e1,qac,Nat.not_lt.2 k3]
     ·intro a w hb h
      have e0:a.tmps.getD 1 undef=.string t:=h 1 (by simp)
      simp only [getD_eq_getD_getElem?] at e0
      refine qan ?_
      simp [go_sem,e0,qac]
     ·intro a w hb h
      have e0:a.tmps.getD 34 undef=.string ((g.extract 0 32)++p):=h 34 (by simp)
      have e1:a.tmps.getD 35 undef=.string t:=h 35 (by simp)
      simp only [getD_eq_getD_getElem?] at e0 e1
      refine qan ?_
      simp [go_sem,e0,e1,qac,Nat.not_lt.2 k4]
     ·intro a w hb h
      have e0:a.tmps.getD 36 undef=.string ((g.extract 0 32)++p++t):=h 36 (by simp)
      simp only [getD_eq_getD_getElem?] at e0
      refine qan ?_
      simp [go_sem,e0,qac]
      exact CW.out w (HP.out.step hb)
     ·intro a w hb h
      have e0:a.tmps.getD 31 undef=.agg (uc (ptL pp)):=h 31 (by simp)
      have e1:a.tmps.getD 37 undef=.string kk:=h 37 (by simp)
      simp only [getD_eq_getD_getElem?] at e0 e1
      refine qan ?_
      simp [go_sem,e0,e1,qac]
      exact CM2.out w (HP.out.step hb)
     ·intro a w hb h
      have e0:a.tmps.getD 38 undef=.tuple #[.agg (uc (ptL mk)),.int .i64 qe]:=h 38 (by simp)
      simp only [getD_eq_getD_getElem?] at e0
      refine qan ?_
      simp [go_sem,e0,qac]
     ·intro a w hb h
      have e0:a.tmps.getD 30 undef=.tuple #[.agg (uc (ptL mk)),.int .i64 qe]:=h 30 (by simp)
      simp only [getD_eq_getD_getElem?] at e0
      refine qan ?_
      simp [go_sem,e0,qac]
     ·intro a w hb h
      have e0:a.tmps.getD 30 undef=.tuple #[.agg (uc (ptL mk)),.int .i64 qe]:=h 30 (by simp)
      simp only [getD_eq_getD_getElem?] at e0
      refine qan ?_
      simp [go_sem,e0,qac]
     ·intro a w hb h
      simp [go_sem,hzp,qa6]
      exact ⟨qaf w _,w.heap.size,rfl,hb.size,qag w _⟩
    ·intro o s ho hs a w h
     simp at ho hs
     subst ho hs
     have e0:a.tmps.getD 30 undef=.tuple #[.agg (uc (ptL mk)),.int .i64 qe]:=h 30 (by simp)
     simp only [getD_eq_getD_getElem?] at e0
     exact ⟨.int .i64 qe,fun w2=>by simp [go_sem,e0],fun w1=>rfl⟩
    intro X bk
    simp only [take_succ_cons,List.take_zero,drop_succ_cons,List.drop_zero,qc6,Act.put,setIfInBounds_toArray,set_cons_succ,set_cons_zero]
    rintro v31 q31 v32 q32 v33 q33 v34 q34 v35 q35 v36 q36 v37 q37 v38 q38 v30 q30 v39 q39 v40 q40 _ ⟨g3,rfl,hg3,hz3⟩;obtain rfl:=q31.symm;obtain rfl:=q32.symm;obtain rfl:=q33.symm;obtain rfl:=q34.symm;obtain rfl:=q35.symm;obtain rfl:=q36.symm;obtain rfl:=q37.symm;obtain rfl:=q38.symm;obtain rfl:=q30.symm;obtain rfl:=q39.symm;obtain rfl:=q40.symm;have hbq:=below_setRow bk hg3 (uc (ptL mk))
    refine ⟨X.setRow g3 (uc (ptL mk)),hbq,fun a' ha'=>?_,?_⟩
    ·have e11:a'.eval (.tmp 11)=.pointer (some ⟨g3,0,none⟩):=ha' 11 (by simp)
     have e39:a'.eval (.tmp 39)=.agg (uc (ptL mk)):=ha' 39 (by simp)
     have hrun:=run_storeVar_row (P:=Tryz.prog) X g3 63 63 zrow4 (uc (ptL mk)) hz3 (qaH _ (qaq _)) (qaK _ (qaq _)) (qao _);unfold execOp
     simp only [e11,e39,Instr.storeAt,Instr.sureAddr,Sem.run_bind,Sem.run_pure,Result.andThen_ok,hrun]
    have Bm:=hid (setRow_heap X g3 _ (uc (ptL mk)) _ _ hz3);clear q31 q32 q33 q34 q35 q36 q37 q38 q30 q39 q40 hz3 hg3;replace hb:=hb.trans (hbq.mono hb.size);replace HP:=hid (HP.out.step hbq);replace Br:=hid (qaa hbq (qab Br.out) Br.out);clear hbq;clear bk;generalize X.setRow g3 _=X2 at *;clear CW CM2 CO CR
    go_wp2_with fail
    refine qaN 7 49 [(Told.val (.string (g.extract 32 g.size)),[10]),
     (Told.val (.agg (uc (ptL mb))),[41]),
     (Told.val (.agg (uc (ptL mk))),[11]),
     (Told.val (.agg (uc (ptL nk))),[43]),
     (Told.val (.agg (uc (ptL vp))),[42,44]),
     (Told.val (.string tv),[45]),
     (Told.val (.string (g.extract 0 32)),[9])]
     (by kernel_rfl) (by kernel_rfl) rfl ?_ ?_
    ·simp only [take_succ_cons,List.take_zero,qaV,and_true]
     refine ⟨?_,?_,?_,?_,?_,?_,?_⟩
     ·intro a w hb h
      have e0:a.tmps.getD 10 undef=.string (g.extract 32 g.size):=h 10 (by simp)
      simp only [getD_eq_getD_getElem?] at e0
      refine qan ?_
      simp [go_sem,e0,qac]
     ·intro a w hb h
      have e0:a.tmps.getD 41 undef=.string (g.extract 32 g.size):=h 41 (by simp)
      simp only [getD_eq_getD_getElem?] at e0
      refine qan ?_
      simp [go_sem,e0,qac]
      exact CT.out w (HP.out.step hb)
     ·intro a w hb h
      have e0:a.tmps.getD 11 undef=.pointer (some ⟨g3,0,none⟩):=h 11 (by simp)
      exact qan (qae 63 (.tmp 11) rfl g3 e0 63 _ (0,0) _ (qaa hb (qab Bm.out) Bm.out) Tryz.underlying63 rfl (qaH _ (qaq _)))
     ·intro a w hb h
      have e0:a.tmps.getD 43 undef=.agg (uc (ptL mk)):=h 43 (by simp)
      simp only [getD_eq_getD_getElem?] at e0
      refine qan ?_
      simp [go_sem,e0,qac]
      exact CN.out w (HP.out.step hb)
     ·intro a w hb h
      have e0:a.tmps.getD 42 undef=.agg (uc (ptL mb)):=h 42 (by simp)
      have e1:a.tmps.getD 44 undef=.agg (uc (ptL nk)):=h 44 (by simp)
      simp only [getD_eq_getD_getElem?] at e0 e1
      refine qan ?_
      simp [go_sem,e0,e1,qac]
      exact CA.out w (HP.out.step hb)
     ·intro a w hb h
      have e0:a.tmps.getD 45 undef=.agg (uc (ptL vp)):=h 45 (by simp)
      simp only [getD_eq_getD_getElem?] at e0
      refine qan ?_
      simp [go_sem,e0,qac]
      exact CY.out w (HP.out.step hb)
     ·intro a w hb h
      have e0:a.tmps.getD 9 undef=.string (g.extract 0 32):=h 9 (by simp)
      simp only [getD_eq_getD_getElem?] at e0
      refine qan ?_
      simp [go_sem,e0,qac]
    simp only [take_succ_cons,List.take_zero,drop_succ_cons,List.drop_zero,qa5,Act.put,setIfInBounds_toArray,set_cons_succ,set_cons_zero]
    rintro Y bk v41 q41 v42 q42 v43 q43 v44 q44 v45 q45 v46 q46 v47 q47;obtain rfl:=q41.symm;obtain rfl:=q42.symm;obtain rfl:=q43.symm;obtain rfl:=q44.symm;obtain rfl:=q45.symm;obtain rfl:=q46.symm;obtain rfl:=q47.symm;clear q41 q42 q43 q44 q45 q46 q47;replace hb:=hb.trans (bk.mono hb.size);replace HP:=hid (HP.out.step bk);replace Br:=hid (qaa bk (qab Br.out) Br.out);replace Bm:=hid (qaa bk (qab Bm.out) Bm.out);clear bk;clear Bm Br CN CA CY CT
    cases hc:(tv.toList==(g.extract 0 32).toList) with
    | true=>
     have hn:(tv.toList != (g.extract 0 32).toList)=false:=by rw [bne,hc];rfl
     go_wp2_with fail
     go_ret
     exact ⟨by rw [HV.out,hc];rfl,hb⟩
    | false=>
     have hn:(tv.toList != (g.extract 0 32).toList)=true:=by rw [bne,hc];rfl
     go_wp2_with fail
     go_ret
     exact ⟨by rw [HV.out,hc];rfl,hb⟩
   ·have hv:verE p t g=22:=by rw [verE,if_pos h1,if_neg (fun k=>h3 k.2)]
    have h3':okR (g.extract 32 g.size)=false:=by rw [h2];simpa using h3
    rw [h3'] at CR;rw [hv];generalize ofPT p=pp at *;clear h1 h2 h3 h3' hv hop
    go_enter Tryz.func39,Tryz.ntmps39
    go_wp2_with fail
    refine (CO.out w HP.out).mono ?_
    rintro e W1 ⟨rfl,bk⟩;replace hb:=hb.trans (bk.mono hb.size);replace HP:=hid (HP.out.step bk);clear bk;have HN:=hid (qag W1 (.cells zrow4 63));have bn:=qaf W1 (.cells zrow4 63);have Br:=hid (setRow_heap _ W1.heap.size _ (uc (ptL pp)) _ _ HN.out);have bk:=below_setRow bn (Nat.le_refl _) (uc (ptL pp))
    go_wp2_with (first | (with_reducible refine wpList_store_row rfl 63 _ _ rfl W1.heap.size (uc (ptL pp)) rfl rfl 63 _ HN.out (qaH _ (qaq _)) (qaK _ (qaq _)) (qao _) ?_) | (with_reducible refine wpList_load_row rfl 63 _ rfl W1.heap.size rfl 63 _ (0,0) _ Br.out Tryz.underlying63 rfl (qaH _ (qaq _)) ?_))
    replace hb:=hb.trans (bk.mono hb.size);replace HP:=hid (HP.out.step bk);clear bk;generalize (World.setRow (World.alloc _ _) _ _)=V2 at *;generalize W1.heap.size=g1 at *;clear bn HN
    try simp only [Act.put]
    refine qaN 5 49 [(Told.val (.string g),[2]),
     (Told.val (.string (g.extract 0 32)),[23]),
     (Told.val (.string g),[2]),
     (Told.val (.string (g.extract 32 g.size)),[25]),
     (Told.val (.string (g.extract 0 32)),[24])]
     (by kernel_rfl) (by kernel_rfl) rfl ?_ ?_
    ·simp only [take_succ_cons,List.take_zero,qaV,and_true]
     refine ⟨?_,?_,?_,?_,?_⟩
     ·intro a w hb h
      have e0:a.tmps.getD 2 undef=.string g:=h 2 (by simp)
      simp only [getD_eq_getD_getElem?] at e0
      refine qan ?_
      simp [go_sem,e0,qac]
     ·intro a w hb h
      have e0:a.tmps.getD 23 undef=.string g:=h 23 (by simp)
      simp only [getD_eq_getD_getElem?] at e0
      refine qan ?_
      simp [go_sem,e0,qac,y3]
     ·intro a w hb h
      have e0:a.tmps.getD 2 undef=.string g:=h 2 (by simp)
      simp only [getD_eq_getD_getElem?] at e0
      refine qan ?_
      simp [go_sem,e0,qac]
     ·intro a w hb h
      have e0:a.tmps.getD 25 undef=.string g:=h 25 (by simp)
      simp only [getD_eq_getD_getElem?] at e0
      refine qan ?_
      simp [go_sem,e0,qac,y3]
     ·intro a w hb h
      have e0:a.tmps.getD 24 undef=.string (g.extract 0 32):=h 24 (by simp)
      simp only [getD_eq_getD_getElem?] at e0
      refine qan ?_
      simp [go_sem,e0,qac]
    simp only [take_succ_cons,List.take_zero,drop_succ_cons,List.drop_zero,qa5,Act.put,setIfInBounds_toArray,set_cons_succ,set_cons_zero]
    rintro X6 bk v23 q23 v24 q24 v25 q25 v26 q26 v9 q9;obtain rfl:=q23.symm;obtain rfl:=q24.symm;obtain rfl:=q25.symm;obtain rfl:=q26.symm;obtain rfl:=q9.symm;clear q23 q24 q25 q26 q9;replace hb:=hb.trans (bk.mono hb.size);replace HP:=hid (HP.out.step bk);replace Br:=hid (qaa bk (qab Br.out) Br.out);clear bk
    go_wp2_with fail
    refine (CR.out X6 HP.out).mono ?_
    rintro e W3 ⟨rfl,bk⟩;replace hb:=hb.trans (bk.mono hb.size);replace HP:=hid (HP.out.step bk);replace Br:=hid (qaa bk (qab Br.out) Br.out);clear bk
    go_wp2_with fail
    go_ret
    exact ⟨rfl,hb⟩
  ·have d2:((g.size:Int) != 64)=true:=by simp;omega
   have hv:verE p t g=22:=by rw [verE,if_pos h1,if_neg (fun k=>h2 k.1)]
   rw [hv];generalize ofPT p=pp at *;clear h1 h2 hv hop
   go_enter Tryz.func39,Tryz.ntmps39
   go_wp2_with fail
   refine (CO.out w HP.out).mono ?_
   rintro e W1 ⟨rfl,bk⟩;replace hb:=hb.trans (bk.mono hb.size);replace HP:=hid (HP.out.step bk);clear bk;have HN:=hid (qag W1 (.cells zrow4 63));have bn:=qaf W1 (.cells zrow4 63);have Br:=hid (setRow_heap _ W1.heap.size _ (uc (ptL pp)) _ _ HN.out);have bk:=below_setRow bn (Nat.le_refl _) (uc (ptL pp))
   go_wp2_with (first | (with_reducible refine wpList_store_row rfl 63 _ _ rfl W1.heap.size (uc (ptL pp)) rfl rfl 63 _ HN.out (qaH _ (qaq _)) (qaK _ (qaq _)) (qao _) ?_) | (with_reducible refine wpList_load_row rfl 63 _ rfl W1.heap.size rfl 63 _ (0,0) _ Br.out Tryz.underlying63 rfl (qaH _ (qaq _)) ?_))
   replace hb:=hb.trans (bk.mono hb.size);replace HP:=hid (HP.out.step bk);clear bk;generalize (World.setRow (World.alloc _ _) _ _)=V2 at *;generalize W1.heap.size=g1 at *;clear bn HN
   try simp only [Act.put]
   go_ret
   exact ⟨rfl,hb⟩
 ·have d1:(ofET p != 0)=true:=by simp;omega
  have hv:verE p t g=21:=by rw [verE,if_neg h1]
  rw [hv];generalize ofPT p=pp at *;generalize ofET p=q at *;clear h1 hv hop
  go_enter Tryz.func39,Tryz.ntmps39
  go_wp2_with fail
  refine (CO.out w HP.out).mono ?_
  rintro e W1 ⟨rfl,bk⟩;replace hb:=hb.trans (bk.mono hb.size);replace HP:=hid (HP.out.step bk);clear bk;have HN:=hid (qag W1 (.cells zrow4 63));have bn:=qaf W1 (.cells zrow4 63);have Br:=hid (setRow_heap _ W1.heap.size _ (uc (ptL pp)) _ _ HN.out);have bk:=below_setRow bn (Nat.le_refl _) (uc (ptL pp))
  go_wp2_with (first | (with_reducible refine wpList_store_row rfl 63 _ _ rfl W1.heap.size (uc (ptL pp)) rfl rfl 63 _ HN.out (qaH _ (qaq _)) (qaK _ (qaq _)) (qao _) ?_) | (with_reducible refine wpList_load_row rfl 63 _ rfl W1.heap.size rfl 63 _ (0,0) _ Br.out Tryz.underlying63 rfl (qaH _ (qaq _)) ?_))
  replace hb:=hb.trans (bk.mono hb.size);replace HP:=hid (HP.out.step bk);clear bk;generalize (World.setRow (World.alloc _ _) _ _)=V2 at *;generalize W1.heap.size=g1 at *;clear bn HN
  try simp only [Act.put]
  go_ret
  exact ⟨rfl,hb⟩
end Go.Proofs.YteomfleofeeofaaGreatDoor
