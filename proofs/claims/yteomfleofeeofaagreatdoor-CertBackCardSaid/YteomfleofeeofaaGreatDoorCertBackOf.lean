/- CertBack over whatever the program's calls are. -/
import Derived.Test.YteomfleofeeofaaGreatDoorCtL
import Derived.Test.YteomfleofeeofaaGreatDoorCtA
namespace Go.Proofs.YteomfleofeeofaaGreatDoor
open Go.Lib (hid)
open _root_.List (take_succ_cons)
open _root_.Array (getD_eq_getD_getElem?)
set_option maxRecDepth 100000
set_option linter.unusedSimpArgs false
set_option linter.unusedVariables false
section
open Go.RowKit Go.Sort
def tByte (x:Value):Told:=⟨fun w v=>∃ g,v=.slice (some ⟨g,0,none⟩) 1 1∧w.cell? ⟨g,0,none⟩=some x,fun w w' v hb ⟨g,e,hc⟩=>⟨g,e,(hb.cell (block_lt_of_cell hc)).trans hc⟩⟩
theorem byte_new (w:World) (t:TypeId) (x:Value):(w.alloc (.cells #[x] t)).cell? ⟨w.heap.size,0,none⟩=some x:=by
 rw [cell_of_row _ w.heap.size 0 _ t (0,0) (qag w _)];rfl
def tCert (B:Nat):Told:=⟨fun w v=>∃ g,v=.pointer (some ⟨g,0,none⟩)∧B≤g∧w.heap[g]?=some (.cells (cRow 0 ⟨#[]⟩ 0 0 ⟨#[]⟩) 28),fun w w' v hb ⟨g,h1,h2,h3⟩=>⟨g,h1,h2,qaa hb (qab h3) h3⟩⟩
theorem conv_byte (W:World) (g bn:Nat) (hb:bn<256) (h:W.cell? ⟨g,0,none⟩=some (.int .u8 (bn:Int))):(convert 41 9 (.slice (some ⟨g,0,none⟩) 1 1)).run Tryz.prog W=.ok (.string ⟨#[UInt8.ofNat bn]⟩) W:=by
 have hc:=qcC W g 0 1 1 [UInt8.ofNat bn] rfl (fun j x hx=>by
  rw [Nat.zero_add]
  match j,hx with
  | 0,hx=>simp at hx;subst hx;rw [qdX bn hb];exact h
  | j+1,hx=>simp at hx)
 exact hc
theorem back_sizes (S:ByteArray) (bn:Nat) (h1:S.size≤400) (h2:64≤S.size):(S++⟨#[UInt8.ofNat bn]⟩:ByteArray).size≤1000∧((⟨#[UInt8.ofNat bn]⟩:ByteArray)++S.extract 1 S.size).size≤1000∧S.size+1≤9223372036854775807∧
  1+(S.extract 1 S.size).size≤9223372036854775807∧((S.size:Int)==0)=false∧(1:Int)≤(S.size:Int)∧1≤S.size∧(0:Int)<(S.size:Int)∧0<S.size:=by
 have e1:(⟨#[UInt8.ofNat bn]⟩:ByteArray).size=1:=rfl
 have e2:(S.extract 1 S.size).size=S.size-1:=by rw [ByteArray.size_extract];omega
 rw [ByteArray.size_append,ByteArray.size_append,e1,e2]
 refine ⟨by omega,by omega,by omega,by omega,beq_eq_false_iff_ne.2 (by omega),by omega,by omega,by omega,by omega⟩
theorem byte_first (bn:Nat) (hb:bn<256) (r:ByteArray):rdB ((⟨#[UInt8.ofNat bn]⟩:ByteArray)++r).data.toList 0=bn:=by
 rw [ByteArray.data_append,Array.toList_append]
 show (UInt8.ofNat bn).toNat=bn
 exact qer bn hb
set_option maxHeartbeats 16000000 in
theorem certBack_of {F:SignF} {Q:World→Prop} (C:CtCalls F Q) (sr:Int) (a0:-9223372036854775808≤sr) (a1:sr≤9223372036854775807) (b:ByteArray) (d:Int) (d0:-9223372036854775808≤d) (d1:d≤9223372036854775807) (e:Int) (e0:-9223372036854775808≤e) (e1:e≤9223372036854775807) (f:ByteArray) (seed:ByteArray) (bn:Nat) (hbn:bn<256) (w:World) (hQ:Q w) :
  Calls Tryz.prog 7 #[.agg (cRow sr b d e f),.string seed,.int .u8 (bn:Int)] w fun e w'=>e=.returned (.bool true)∧Below w.heap.size w w':=by
 have HC:=hid C;have HQ:=hid hQ
 have HA:=hid (fun W hW=>ctwake_of C.tm W hW)
 have hb:=Below.refl w.heap.size w;clear hQ
 have HG:=hid (show (w.alloc (.cells (cRow sr b d e f) 28)).heap[w.heap.size]?=some (.cells (cRow sr b d e f) 28) from qag w _)
 have hb:=qaf w (.cells (cRow sr b d e f) 28);replace HQ:=hid (C.step _ _ HQ.out hb)
 have CF:=hid (fun W=>few_any sr b d e f W)
 by_cases hfew:fewC b f=true
 ·obtain ⟨f1,f2⟩:=(few_iff b f).1 hfew
  rw [hfew] at CF
  by_cases h32:seed.size=32
  ·have d32:((seed.size:Int) != 32)=false:=by rw [h32];rfl
   have C1:=hid (fun W hW=>C.mkd.make sr b d e f seed W a0 a1 d0 d1 e0 e1 (by omega) (by omega) hW)
   have emp:((⟨#[]⟩:ByteArray).toList==[])=true:=by rw [(qcH _).2];rfl
   by_cases hE:makE F ⟨sr,b,d,e,f⟩ seed=0
   ·have hm:=made_of F ⟨sr,b,d,e,f⟩ seed a0 a1 hE
    rw [hE] at C1;obtain ⟨hr1,hr2⟩:=hm.read;have hsz:=hm.size;have hbg:=hm.big
    have hfi:=hm.first
    have hmore:=hm.more;obtain ⟨S,hS⟩:∃ S,makX F ⟨sr,b,d,e,f⟩ seed=S:=⟨_,rfl⟩;rw [hS] at C1 hm hr1 hr2 hsz hbg hfi hmore
    have C2:=hid (fun W hW=>C.read S W hW)
    have C3:=hid (fun W hW=>C.pub seed W hW)
    rw [show sdE seed=0 from if_pos h32] at C3
    obtain ⟨hz,hi⟩:=zero_of_info qdI
    by_cases hv:F.ver (F.pub seed) (innB (qaX ⟨sr,b,d,e,f⟩ (F.pub seed))) (F.sgn seed (innB (qaX ⟨sr,b,d,e,f⟩ (F.pub seed))))=0
    ·obtain ⟨q1,q2⟩:=hr1 hv
     rw [q1,q2,show cerL (qaX ⟨sr,b,d,e,f⟩ (F.pub seed))=cRow sr b d e (F.pub seed) from rfl] at C2
     clear hr1 hr2 hv q1 q2 hE;have m1:okC (S++⟨#[UInt8.ofNat bn]⟩)=false:=hmore _ (Nat.one_ne_zero);obtain ⟨z1,zz2,k1,k2,s6,g0,g1,g2,g3⟩:=back_sizes S bn hsz hbg;have hb1:=bad_read F _ z1 m1;have p1:=hb1.1;have p2:=hb1.2;clear hb1
     have C4:=hid (fun W hW=>C.read (S++⟨#[UInt8.ofNat bn]⟩) W hW)
     rw [p1,p2,cer_none] at C4
     have C5:=hid (fun W hW=>C.read (⟨#[UInt8.ofNat bn]⟩++S.extract 1 S.size) W hW)
     have e1:=cert_eql 0 ⟨#[]⟩ 0 0 ⟨#[]⟩;have e2:=cert_guard 0 ⟨#[]⟩ 0 0 ⟨#[]⟩
     have s1:(sr != sr)=false:=by simp
     have s2:(d != d)=false:=by simp
     have s3:(e != e)=false:=by simp
     have s4:(b.toList==b.toList)=true:=by simp
     have s5:((F.pub seed).toList==(F.pub seed).toList)=true:=by simp
     have t0:=rd_at S 0 g3;rw [hfi] at t0
     have HCB:=hid (fun W g hc=>conv_byte W g bn hbn hc)
     have ls1:(⟨#[UInt8.ofNat bn]⟩:ByteArray).size=1:=rfl;obtain ⟨xs,hxs⟩:∃ xs,S.extract 1 S.size=xs:=⟨_,rfl⟩;rw [hxs] at C5 k2 zz2
     by_cases h48:bn=48
     ·have d48:((bn:Int)==48)=true:=by rw [h48];rfl
      obtain ⟨⟨sr5,b5,d5,e5,f5⟩,hc5⟩:∃ q,reC F (⟨#[UInt8.ofNat bn]⟩++xs)=q:=⟨_,rfl⟩;rw [hc5,cer_row] at C5;generalize reE F (⟨#[UInt8.ofNat bn]⟩++xs)=q5 at *;clear a0 a1 d0 d1 e0 C hfew f1 f2 hsz hbg hfi hmore hS hm m1 z1 zz2 p1 p2 h48 hc5 hi h32 hbn;generalize F.pub seed=K at *
      go_enter Tryz.func7,Tryz.ntmps7
      go_wp2_with (with_reducible refine wpList_load_row rfl 28 _ rfl w.heap.size rfl 28 _ (0,0) _ HG.out Tryz.underlying28 rfl (qam _ _ _ _ _) ?_)
      generalize (w.alloc _)=W0 at *
      refine (CF.out _).mono ?_
      rintro ee W1 ⟨rfl,bk⟩;replace HG:=hid (qaa bk (qab HG.out) HG.out);replace HQ:=hid (HC.out.step _ _ HQ.out bk);replace hb:=hb.trans (bk.mono hb.size);clear bk
      go_wp2_with (with_reducible refine wpList_load_row rfl 28 _ rfl w.heap.size rfl 28 _ (0,0) _ HG.out Tryz.underlying28 rfl (qam _ _ _ _ _) ?_)
      refine (C1.out _ HQ.out).mono ?_
      rintro ee W2 ⟨rfl,bk⟩;replace HG:=hid (qaa bk (qab HG.out) HG.out);replace HQ:=hid (HC.out.step _ _ HQ.out bk);replace hb:=hb.trans (bk.mono hb.size);clear bk
      go_wp2_with fail
      refine (C2.out _ HQ.out).mono ?_
      rintro ee W3 ⟨rfl,bk⟩;replace HG:=hid (qaa bk (qab HG.out) HG.out);replace HQ:=hid (HC.out.step _ _ HQ.out bk);replace hb:=hb.trans (bk.mono hb.size);clear bk;have HNW:=hid (qag W3 (.cells (cRow 0 ⟨#[]⟩ 0 0 ⟨#[]⟩) 28));have HG1:=hid (setRow_heap _ W3.heap.size _ (cRow sr b d e K) _ _ HNW.out);have bk:=below_setRow (qaf W3 (.cells (cRow 0 ⟨#[]⟩ 0 0 ⟨#[]⟩) 28)) (Nat.le_refl _) (cRow sr b d e K);replace HG:=hid (qaa bk (qab HG.out) HG.out);replace HQ:=hid (HC.out.step _ _ HQ.out bk);replace hb:=hb.trans (bk.mono hb.size);clear bk
      go_wp2_with (with_reducible refine wpList_store_row rfl 28 _ _ rfl W3.heap.size (cRow sr b d e K) rfl rfl 28 _ HNW.out (qam _ _ _ _ _) rfl (qbd _ _ _ _ _) ?_)
      clear HNW;generalize (World.setRow (World.alloc _ _) _ _)=W4 at *;generalize W3.heap.size=g9 at *
      refine (C3.out _ HQ.out).mono ?_
      rintro ee W5 ⟨rfl,bk⟩;replace HG:=hid (qaa bk (qab HG.out) HG.out);replace HG1:=hid (qaa bk (qab HG1.out) HG1.out);replace HQ:=hid (HC.out.step _ _ HQ.out bk);replace hb:=hb.trans (bk.mono hb.size);clear bk;obtain ⟨c0,c1,c2,c3,c4⟩:=qau HG.out;obtain ⟨j0,j1,j2,j3,j4⟩:=qau HG1.out;have hcv:=HCB.out _ _ (byte_new W5 5 (.int .u8 (bn:Int)));have bk:=qaf W5 (.cells #[.int .u8 (bn:Int)] 5);replace HG:=hid (qaa bk (qab HG.out) HG.out);replace HG1:=hid (qaa bk (qab HG1.out) HG1.out);replace HQ:=hid (HC.out.step _ _ HQ.out bk);replace hb:=hb.trans (bk.mono hb.size);clear bk
      go_wp2_with fail
      clear c0 c1 c2 c3 c4 j0 j1 j2 j3 j4 hcv
      refine (C4.out _ HQ.out).mono ?_
      rintro ee W6 ⟨rfl,bk⟩;replace HG:=hid (qaa bk (qab HG.out) HG.out);replace HG1:=hid (qaa bk (qab HG1.out) HG1.out);replace HQ:=hid (HC.out.step _ _ HQ.out bk);replace hb:=hb.trans (bk.mono hb.size);clear bk;have HNW:=hid (qag W6 (.cells (cRow 0 ⟨#[]⟩ 0 0 ⟨#[]⟩) 28));have HG2:=hid (setRow_heap _ W6.heap.size _ (cRow 0 ⟨#[]⟩ 0 0 ⟨#[]⟩) _ _ HNW.out);have bk:=below_setRow (qaf W6 (.cells (cRow 0 ⟨#[]⟩ 0 0 ⟨#[]⟩) 28)) (Nat.le_refl _) (cRow 0 ⟨#[]⟩ 0 0 ⟨#[]⟩);replace HG:=hid (qaa bk (qab HG.out) HG.out);replace HG1:=hid (qaa bk (qab HG1.out) HG1.out);replace HQ:=hid (HC.out.step _ _ HQ.out bk);replace hb:=hb.trans (bk.mono hb.size);clear bk
      go_wp2_with (with_reducible refine wpList_store_row rfl 28 _ _ rfl W6.heap.size (cRow 0 ⟨#[]⟩ 0 0 ⟨#[]⟩) rfl rfl 28 _ HNW.out (qam _ _ _ _ _) rfl (qbd _ _ _ _ _) ?_)
      clear HNW;generalize (World.setRow (World.alloc _ _) _ _)=W7 at *;generalize W6.heap.size=g13 at *
      refine qdv 11 9 154 [15,127] [(Told.val (.int .u8 (bn:Int)),[2]),
       (tByte (.int .u8 (bn:Int)),[120]),
       (Told.val (.string ⟨#[UInt8.ofNat bn]⟩),[121]),
       (Told.val (.string S),[7]),
       (Told.val (.string xs),[123]),
       (Told.val (.string (⟨#[UInt8.ofNat bn]⟩++xs)),[122,124]),
       (Told.val (.tuple #[.agg (cRow sr5 b5 d5 e5 f5),.int .i64 q5]),[125]),
       (Told.val (.tuple #[.agg (cRow sr5 b5 d5 e5 f5),.int .i64 q5]),[126]),
       (Told.val (.agg (cRow sr5 b5 d5 e5 f5)),[119]),
       (Told.val (.int .i64 q5),[119]),
       (tCert W7.heap.size,[])]
       _ rfl (by kernel_rfl) (by kernel_rfl) rfl (by simp [qbu]) ?_ ?_ ?_ ?_ ?_
      ·intro k hk o ho
       simp at ho
       subst ho
       rcases List.mem_cons.1 hk with rfl | hk
       ·decide
       ·rcases List.mem_cons.1 hk with rfl | hk
        ·decide
        ·cases hk
      ·simp only [take_succ_cons,List.take_zero,qaV,and_true]
       refine And.intro ?_ (And.intro ?_ (And.intro ?_ (And.intro ?_ (And.intro ?_ (And.intro ?_ (And.intro ?_ (And.intro ?_ (And.intro ?_ (And.intro ?_ (?_))))))))))
       ·intro a w hb h
        have e0:a.tmps.getD 2 undef=.int .u8 (bn:Int):=h 2 (by simp)
        simp only [getD_eq_getD_getElem?] at e0
        refine qah ?_
        simp [go_sem,e0,qac]
       ·intro a w hb h
        have e0:a.tmps.getD 120 undef=.int .u8 (bn:Int):=h 120 (by simp)
        simp only [getD_eq_getD_getElem?] at e0
        simp [go_sem,e0,qa6]
        exact ⟨qaf _ _,_,rfl,byte_new _ _ _⟩
       ·intro a w hb h
        have t0:=h 121 (by simp)
        replace t0:(tByte (.int .u8 (bn:Int))).T w (a.tmps.getD 121 undef):=t0;obtain ⟨g0,e0,h0⟩:=t0
        simp only [getD_eq_getD_getElem?] at e0
        have hcv:=HCB.out _ _ h0
        refine qah ?_
        simp [go_sem,e0,qac,hcv]
       ·intro a w hb h
        have e0:a.tmps.getD 7 undef=.string S:=h 7 (by simp)
        simp only [getD_eq_getD_getElem?] at e0
        refine qah ?_
        simp [go_sem,e0,qac]
       ·intro a w hb h
        have e0:a.tmps.getD 123 undef=.string S:=h 123 (by simp)
        simp only [getD_eq_getD_getElem?] at e0
        refine qah ?_
        simp [go_sem,e0,qac,g0,g1,hxs]
       ·intro a w hb h
        have e0:a.tmps.getD 122 undef=.string ⟨#[UInt8.ofNat bn]⟩:=h 122 (by simp)
        have e1:a.tmps.getD 124 undef=.string xs:=h 124 (by simp)
        simp only [getD_eq_getD_getElem?] at e0 e1
        refine qah ?_
        simp [go_sem,e0,e1,qac,ls1,Nat.not_lt.2 k2]
       ·intro a w hb h
        have e0:a.tmps.getD 125 undef=.string (⟨#[UInt8.ofNat bn]⟩++xs):=h 125 (by simp)
        simp only [getD_eq_getD_getElem?] at e0
        refine qah ?_
        simp [go_sem,e0,qac]
        exact C5.out _ (HC.out.step _ _ HQ.out hb)
       ·intro a w hb h
        have e0:a.tmps.getD 126 undef=.tuple #[.agg (cRow sr5 b5 d5 e5 f5),.int .i64 q5]:=h 126 (by simp)
        simp only [getD_eq_getD_getElem?] at e0
        refine qah ?_
        simp [go_sem,e0,qac]
       ·intro a w hb h
        have e0:a.tmps.getD 119 undef=.tuple #[.agg (cRow sr5 b5 d5 e5 f5),.int .i64 q5]:=h 119 (by simp)
        simp only [getD_eq_getD_getElem?] at e0
        refine qah ?_
        simp [go_sem,e0,qac]
       ·intro a w hb h
        have e0:a.tmps.getD 119 undef=.tuple #[.agg (cRow sr5 b5 d5 e5 f5),.int .i64 q5]:=h 119 (by simp)
        simp only [getD_eq_getD_getElem?] at e0
        refine qah ?_
        simp [go_sem,e0,qac]
       ·intro a w hb h
        simp [go_sem,hz,qa6]
        exact ⟨qaf w _,w.heap.size,rfl,hb.size,qag w _⟩
      ·intro o s ho hs a w h
       simp at ho hs
       subst ho hs
       have e0:a.tmps.getD 119 undef=.tuple #[.agg (cRow sr5 b5 d5 e5 f5),.int .i64 q5]:=h 119 (by simp)
       simp only [getD_eq_getD_getElem?] at e0
       refine ⟨.int .i64 q5,by simp [go_sem,e0],fun w1=>rfl⟩
      ·intro s hs k hk t ht
       simp at hs
       subst hs
       obtain rfl:k=119:=by simpa using hk
       have:t=Told.val (.tuple #[.agg (cRow sr5 b5 d5 e5 f5),.int .i64 q5]):=by simpa [qbO] using ht.symm
       subst this
       exact fun _ _ _ h=>h
      intro X bk
      simp only [take_succ_cons,List.take_zero,List.drop_succ_cons,List.drop_zero,qc6,Act.put,List.setIfInBounds_toArray,List.set_cons_succ,List.set_cons_zero]
      rintro v120 q120 _ ⟨gq,rfl,hgq⟩ v122 q122 v123 q123 v124 q124 v125 q125 v126 q126 v119 q119 v127 q127 v128 q128 _ ⟨g15,rfl,hg15,hz15⟩;obtain rfl:=q120.symm;obtain rfl:=q122.symm;obtain rfl:=q123.symm;obtain rfl:=q124.symm;obtain rfl:=q125.symm;obtain rfl:=q126.symm;obtain rfl:=q119.symm;obtain rfl:=q127.symm;obtain rfl:=q128.symm;clear q120 q122 q123 q124 q125 q126 q119 q127 q128 hgq;have HN15:=hid (setRow_heap X g15 _ (cRow sr5 b5 d5 e5 f5) _ _ hz15);have bkq:=below_setRow bk hg15 (cRow sr5 b5 d5 e5 f5)
      refine ⟨X.setRow g15 (cRow sr5 b5 d5 e5 f5),bkq,fun a' ha'=>?_,?_⟩
      ·have e15:a'.eval (.tmp 15)=.pointer (some ⟨g15,0,none⟩):=ha' 15 (by simp)
       have e127:a'.eval (.tmp 127)=.agg (cRow sr5 b5 d5 e5 f5):=ha' 127 (by simp)
       have hrun:=run_storeVar_row (P:=Tryz.prog) X g15 28 28 (cRow 0 ⟨#[]⟩ 0 0 ⟨#[]⟩) (cRow sr5 b5 d5 e5 f5) hz15 (qam _ _ _ _ _) rfl (qbd _ _ _ _ _);unfold execOp
       simp only [e15,e127,Instr.storeAt,Instr.sureAddr,Sem.run_bind,Sem.run_pure,Result.andThen_ok,hrun]
      have bk:=bkq;replace HG:=hid (qaa bk (qab HG.out) HG.out);replace HG1:=hid (qaa bk (qab HG1.out) HG1.out);replace HG2:=hid (qaa bk (qab HG2.out) HG2.out);replace HQ:=hid (HC.out.step _ _ HQ.out bk);replace hb:=hb.trans (bk.mono hb.size);clear bk;clear hz15 bkq;generalize (World.setRow _ _ _)=V15 at *
      go_wp2_with (first | (with_reducible refine qbN rfl 28 _ rfl g13 rfl 28 _ (0,0) _ HG2.out Tryz.underlying28 rfl (qam _ _ _ _ _) ?_) | (with_reducible refine qbN rfl 28 _ rfl g15 rfl 28 _ (0,0) _ HN15.out Tryz.underlying28 rfl (qam _ _ _ _ _) ?_))
      refine (HA.out _ HQ.out).mono ?_
      rintro ee W8 ⟨rfl,bk⟩;replace HG:=hid (qaa bk (qab HG.out) HG.out);replace HG1:=hid (qaa bk (qab HG1.out) HG1.out);replace HG2:=hid (qaa bk (qab HG2.out) HG2.out);replace HN15:=hid (qaa bk (qab HN15.out) HN15.out);replace HQ:=hid (HC.out.step _ _ HQ.out bk);replace hb:=hb.trans (bk.mono hb.size);clear bk
      go_wp2_with fail
      go_ret
      exact ⟨rfl,hb⟩
     ·have d48:((bn:Int)==48)=false:=by simp;omega
      have m2:okC (⟨#[UInt8.ofNat bn]⟩++xs)=false:=first_bad _ (by rw [byte_first bn hbn];exact h48)
      have hb2:=bad_read F _ zz2 m2;have r1:=hb2.1;have r2:=hb2.2;clear hb2;rw [r1,r2,cer_none] at C5;clear a0 a1 d0 d1 e0 C hfew f1 f2 hsz hbg hfi hmore hS hm m1 z1 zz2 p1 p2 h48 hi h32 hbn m2 r1 r2;generalize F.pub seed=K at *
      go_enter Tryz.func7,Tryz.ntmps7
      go_wp2_with (with_reducible refine wpList_load_row rfl 28 _ rfl w.heap.size rfl 28 _ (0,0) _ HG.out Tryz.underlying28 rfl (qam _ _ _ _ _) ?_)
      generalize (w.alloc _)=W0 at *
      refine (CF.out _).mono ?_
      rintro ee W1 ⟨rfl,bk⟩;replace HG:=hid (qaa bk (qab HG.out) HG.out);replace HQ:=hid (HC.out.step _ _ HQ.out bk);replace hb:=hb.trans (bk.mono hb.size);clear bk
      go_wp2_with (with_reducible refine wpList_load_row rfl 28 _ rfl w.heap.size rfl 28 _ (0,0) _ HG.out Tryz.underlying28 rfl (qam _ _ _ _ _) ?_)
      refine (C1.out _ HQ.out).mono ?_
      rintro ee W2 ⟨rfl,bk⟩;replace HG:=hid (qaa bk (qab HG.out) HG.out);replace HQ:=hid (HC.out.step _ _ HQ.out bk);replace hb:=hb.trans (bk.mono hb.size);clear bk
      go_wp2_with fail
      refine (C2.out _ HQ.out).mono ?_
      rintro ee W3 ⟨rfl,bk⟩;replace HG:=hid (qaa bk (qab HG.out) HG.out);replace HQ:=hid (HC.out.step _ _ HQ.out bk);replace hb:=hb.trans (bk.mono hb.size);clear bk;have HNW:=hid (qag W3 (.cells (cRow 0 ⟨#[]⟩ 0 0 ⟨#[]⟩) 28));have HG1:=hid (setRow_heap _ W3.heap.size _ (cRow sr b d e K) _ _ HNW.out);have bk:=below_setRow (qaf W3 (.cells (cRow 0 ⟨#[]⟩ 0 0 ⟨#[]⟩) 28)) (Nat.le_refl _) (cRow sr b d e K);replace HG:=hid (qaa bk (qab HG.out) HG.out);replace HQ:=hid (HC.out.step _ _ HQ.out bk);replace hb:=hb.trans (bk.mono hb.size);clear bk
      go_wp2_with (with_reducible refine wpList_store_row rfl 28 _ _ rfl W3.heap.size (cRow sr b d e K) rfl rfl 28 _ HNW.out (qam _ _ _ _ _) rfl (qbd _ _ _ _ _) ?_)
      clear HNW;generalize (World.setRow (World.alloc _ _) _ _)=W4 at *;generalize W3.heap.size=g9 at *
      refine (C3.out _ HQ.out).mono ?_
      rintro ee W5 ⟨rfl,bk⟩;replace HG:=hid (qaa bk (qab HG.out) HG.out);replace HG1:=hid (qaa bk (qab HG1.out) HG1.out);replace HQ:=hid (HC.out.step _ _ HQ.out bk);replace hb:=hb.trans (bk.mono hb.size);clear bk;obtain ⟨c0,c1,c2,c3,c4⟩:=qau HG.out;obtain ⟨j0,j1,j2,j3,j4⟩:=qau HG1.out;have hcv:=HCB.out _ _ (byte_new W5 5 (.int .u8 (bn:Int)));have bk:=qaf W5 (.cells #[.int .u8 (bn:Int)] 5);replace HG:=hid (qaa bk (qab HG.out) HG.out);replace HG1:=hid (qaa bk (qab HG1.out) HG1.out);replace HQ:=hid (HC.out.step _ _ HQ.out bk);replace hb:=hb.trans (bk.mono hb.size);clear bk
      go_wp2_with fail
      clear c0 c1 c2 c3 c4 j0 j1 j2 j3 j4 hcv
      refine (C4.out _ HQ.out).mono ?_
      rintro ee W6 ⟨rfl,bk⟩;replace HG:=hid (qaa bk (qab HG.out) HG.out);replace HG1:=hid (qaa bk (qab HG1.out) HG1.out);replace HQ:=hid (HC.out.step _ _ HQ.out bk);replace hb:=hb.trans (bk.mono hb.size);clear bk;have HNW:=hid (qag W6 (.cells (cRow 0 ⟨#[]⟩ 0 0 ⟨#[]⟩) 28));have HG2:=hid (setRow_heap _ W6.heap.size _ (cRow 0 ⟨#[]⟩ 0 0 ⟨#[]⟩) _ _ HNW.out);have bk:=below_setRow (qaf W6 (.cells (cRow 0 ⟨#[]⟩ 0 0 ⟨#[]⟩) 28)) (Nat.le_refl _) (cRow 0 ⟨#[]⟩ 0 0 ⟨#[]⟩);replace HG:=hid (qaa bk (qab HG.out) HG.out);replace HG1:=hid (qaa bk (qab HG1.out) HG1.out);replace HQ:=hid (HC.out.step _ _ HQ.out bk);replace hb:=hb.trans (bk.mono hb.size);clear bk
      go_wp2_with (with_reducible refine wpList_store_row rfl 28 _ _ rfl W6.heap.size (cRow 0 ⟨#[]⟩ 0 0 ⟨#[]⟩) rfl rfl 28 _ HNW.out (qam _ _ _ _ _) rfl (qbd _ _ _ _ _) ?_)
      clear HNW;generalize (World.setRow (World.alloc _ _) _ _)=W7 at *;generalize W6.heap.size=g13 at *
      refine qdv 11 9 154 [15,127] [(Told.val (.int .u8 (bn:Int)),[2]),
       (tByte (.int .u8 (bn:Int)),[120]),
       (Told.val (.string ⟨#[UInt8.ofNat bn]⟩),[121]),
       (Told.val (.string S),[7]),
       (Told.val (.string xs),[123]),
       (Told.val (.string (⟨#[UInt8.ofNat bn]⟩++xs)),[122,124]),
       (Told.val (.tuple #[.agg (cRow 0 ⟨#[]⟩ 0 0 ⟨#[]⟩),.int .i64 11]),[125]),
       (Told.val (.tuple #[.agg (cRow 0 ⟨#[]⟩ 0 0 ⟨#[]⟩),.int .i64 11]),[126]),
       (Told.val (.agg (cRow 0 ⟨#[]⟩ 0 0 ⟨#[]⟩)),[119]),
       (Told.val (.int .i64 11),[119]),
       (tCert W7.heap.size,[])]
       _ rfl (by kernel_rfl) (by kernel_rfl) rfl (by simp [qbu]) ?_ ?_ ?_ ?_ ?_
      ·intro k hk o ho
       simp at ho
       subst ho
       rcases List.mem_cons.1 hk with rfl | hk
       ·decide
       ·rcases List.mem_cons.1 hk with rfl | hk
        ·decide
        ·cases hk
      ·simp only [take_succ_cons,List.take_zero,qaV,and_true]
       refine And.intro ?_ (And.intro ?_ (And.intro ?_ (And.intro ?_ (And.intro ?_ (And.intro ?_ (And.intro ?_ (And.intro ?_ (And.intro ?_ (And.intro ?_ (?_))))))))))
       ·intro a w hb h
        have e0:a.tmps.getD 2 undef=.int .u8 (bn:Int):=h 2 (by simp)
        simp only [getD_eq_getD_getElem?] at e0
        refine qah ?_
        simp [go_sem,e0,qac]
       ·intro a w hb h
        have e0:a.tmps.getD 120 undef=.int .u8 (bn:Int):=h 120 (by simp)
        simp only [getD_eq_getD_getElem?] at e0
        simp [go_sem,e0,qa6]
        exact ⟨qaf _ _,_,rfl,byte_new _ _ _⟩
       ·intro a w hb h
        have t0:=h 121 (by simp)
        replace t0:(tByte (.int .u8 (bn:Int))).T w (a.tmps.getD 121 undef):=t0;obtain ⟨g0,e0,h0⟩:=t0
        simp only [getD_eq_getD_getElem?] at e0
        have hcv:=HCB.out _ _ h0
        refine qah ?_
        simp [go_sem,e0,qac,hcv]
       ·intro a w hb h
        have e0:a.tmps.getD 7 undef=.string S:=h 7 (by simp)
        simp only [getD_eq_getD_getElem?] at e0
        refine qah ?_
        simp [go_sem,e0,qac]
       ·intro a w hb h
        have e0:a.tmps.getD 123 undef=.string S:=h 123 (by simp)
        simp only [getD_eq_getD_getElem?] at e0
        refine qah ?_
        simp [go_sem,e0,qac,g0,g1,hxs]
       ·intro a w hb h
        have e0:a.tmps.getD 122 undef=.string ⟨#[UInt8.ofNat bn]⟩:=h 122 (by simp)
        have e1:a.tmps.getD 124 undef=.string xs:=h 124 (by simp)
        simp only [getD_eq_getD_getElem?] at e0 e1
        refine qah ?_
        simp [go_sem,e0,e1,qac,ls1,Nat.not_lt.2 k2]
       ·intro a w hb h
        have e0:a.tmps.getD 125 undef=.string (⟨#[UInt8.ofNat bn]⟩++xs):=h 125 (by simp)
        simp only [getD_eq_getD_getElem?] at e0
        refine qah ?_
        simp [go_sem,e0,qac]
        exact C5.out _ (HC.out.step _ _ HQ.out hb)
       ·intro a w hb h
        have e0:a.tmps.getD 126 undef=.tuple #[.agg (cRow 0 ⟨#[]⟩ 0 0 ⟨#[]⟩),.int .i64 11]:=h 126 (by simp)
        simp only [getD_eq_getD_getElem?] at e0
        refine qah ?_
        simp [go_sem,e0,qac]
       ·intro a w hb h
        have e0:a.tmps.getD 119 undef=.tuple #[.agg (cRow 0 ⟨#[]⟩ 0 0 ⟨#[]⟩),.int .i64 11]:=h 119 (by simp)
        simp only [getD_eq_getD_getElem?] at e0
        refine qah ?_
        simp [go_sem,e0,qac]
       ·intro a w hb h
        have e0:a.tmps.getD 119 undef=.tuple #[.agg (cRow 0 ⟨#[]⟩ 0 0 ⟨#[]⟩),.int .i64 11]:=h 119 (by simp)
        simp only [getD_eq_getD_getElem?] at e0
        refine qah ?_
        simp [go_sem,e0,qac]
       ·intro a w hb h
        simp [go_sem,hz,qa6]
        exact ⟨qaf w _,w.heap.size,rfl,hb.size,qag w _⟩
      ·intro o s ho hs a w h
       simp at ho hs
       subst ho hs
       have e0:a.tmps.getD 119 undef=.tuple #[.agg (cRow 0 ⟨#[]⟩ 0 0 ⟨#[]⟩),.int .i64 11]:=h 119 (by simp)
       simp only [getD_eq_getD_getElem?] at e0
       refine ⟨.int .i64 11,by simp [go_sem,e0],fun w1=>rfl⟩
      ·intro s hs k hk t ht
       simp at hs
       subst hs
       obtain rfl:k=119:=by simpa using hk
       have:t=Told.val (.tuple #[.agg (cRow 0 ⟨#[]⟩ 0 0 ⟨#[]⟩),.int .i64 11]):=by simpa [qbO] using ht.symm
       subst this
       exact fun _ _ _ h=>h
      intro X bk
      simp only [take_succ_cons,List.take_zero,List.drop_succ_cons,List.drop_zero,qc6,Act.put,List.setIfInBounds_toArray,List.set_cons_succ,List.set_cons_zero]
      rintro v120 q120 _ ⟨gq,rfl,hgq⟩ v122 q122 v123 q123 v124 q124 v125 q125 v126 q126 v119 q119 v127 q127 v128 q128 _ ⟨g15,rfl,hg15,hz15⟩;obtain rfl:=q120.symm;obtain rfl:=q122.symm;obtain rfl:=q123.symm;obtain rfl:=q124.symm;obtain rfl:=q125.symm;obtain rfl:=q126.symm;obtain rfl:=q119.symm;obtain rfl:=q127.symm;obtain rfl:=q128.symm;clear q120 q122 q123 q124 q125 q126 q119 q127 q128 hgq;have HN15:=hid (setRow_heap X g15 _ (cRow 0 ⟨#[]⟩ 0 0 ⟨#[]⟩) _ _ hz15);have bkq:=below_setRow bk hg15 (cRow 0 ⟨#[]⟩ 0 0 ⟨#[]⟩)
      refine ⟨X.setRow g15 (cRow 0 ⟨#[]⟩ 0 0 ⟨#[]⟩),bkq,fun a' ha'=>?_,?_⟩
      ·have e15:a'.eval (.tmp 15)=.pointer (some ⟨g15,0,none⟩):=ha' 15 (by simp)
       have e127:a'.eval (.tmp 127)=.agg (cRow 0 ⟨#[]⟩ 0 0 ⟨#[]⟩):=ha' 127 (by simp)
       have hrun:=run_storeVar_row (P:=Tryz.prog) X g15 28 28 (cRow 0 ⟨#[]⟩ 0 0 ⟨#[]⟩) (cRow 0 ⟨#[]⟩ 0 0 ⟨#[]⟩) hz15 (qam _ _ _ _ _) rfl (qbd _ _ _ _ _);unfold execOp
       simp only [e15,e127,Instr.storeAt,Instr.sureAddr,Sem.run_bind,Sem.run_pure,Result.andThen_ok,hrun]
      have bk:=bkq;replace HG:=hid (qaa bk (qab HG.out) HG.out);replace HG1:=hid (qaa bk (qab HG1.out) HG1.out);replace HG2:=hid (qaa bk (qab HG2.out) HG2.out);replace HQ:=hid (HC.out.step _ _ HQ.out bk);replace hb:=hb.trans (bk.mono hb.size);clear bk;clear hz15 bkq;generalize (World.setRow _ _ _)=V15 at *
      go_wp2_with (first | (with_reducible refine qbN rfl 28 _ rfl g13 rfl 28 _ (0,0) _ HG2.out Tryz.underlying28 rfl (qam _ _ _ _ _) ?_) | (with_reducible refine qbN rfl 28 _ rfl g15 rfl 28 _ (0,0) _ HN15.out Tryz.underlying28 rfl (qam _ _ _ _ _) ?_))
      refine (HA.out _ HQ.out).mono ?_
      rintro ee W8 ⟨rfl,bk⟩;replace HG:=hid (qaa bk (qab HG.out) HG.out);replace HG1:=hid (qaa bk (qab HG1.out) HG1.out);replace HG2:=hid (qaa bk (qab HG2.out) HG2.out);replace HN15:=hid (qaa bk (qab HN15.out) HN15.out);replace HQ:=hid (HC.out.step _ _ HQ.out bk);replace hb:=hb.trans (bk.mono hb.size);clear bk
      go_wp2_with fail
      go_ret
      exact ⟨rfl,hb⟩
    ·obtain ⟨q1,q2⟩:=hr2 hv
     rw [q1,q2,cer_none] at C2;clear a0 a1 d0 d1 e0 e1 C hfew f1 f2 hE hr1 hr2 hsz hbg hfi hmore hS hm hv q1 q2 hi h32 hbn;generalize F.pub seed=K at *
     go_enter Tryz.func7,Tryz.ntmps7
     go_wp2_with (with_reducible refine wpList_load_row rfl 28 _ rfl w.heap.size rfl 28 _ (0,0) _ HG.out Tryz.underlying28 rfl (qam _ _ _ _ _) ?_)
     generalize (w.alloc _)=W0 at *
     refine (CF.out _).mono ?_
     rintro ee W1 ⟨rfl,bk⟩;replace HG:=hid (qaa bk (qab HG.out) HG.out);replace HQ:=hid (HC.out.step _ _ HQ.out bk);replace hb:=hb.trans (bk.mono hb.size);clear bk
     go_wp2_with (with_reducible refine wpList_load_row rfl 28 _ rfl w.heap.size rfl 28 _ (0,0) _ HG.out Tryz.underlying28 rfl (qam _ _ _ _ _) ?_)
     refine (C1.out _ HQ.out).mono ?_
     rintro ee W2 ⟨rfl,bk⟩;replace HG:=hid (qaa bk (qab HG.out) HG.out);replace HQ:=hid (HC.out.step _ _ HQ.out bk);replace hb:=hb.trans (bk.mono hb.size);clear bk
     go_wp2_with fail
     refine (C2.out _ HQ.out).mono ?_
     rintro ee W3 ⟨rfl,bk⟩;replace HG:=hid (qaa bk (qab HG.out) HG.out);replace HQ:=hid (HC.out.step _ _ HQ.out bk);replace hb:=hb.trans (bk.mono hb.size);clear bk;have HNW:=hid (qag W3 (.cells (cRow 0 ⟨#[]⟩ 0 0 ⟨#[]⟩) 28));have HG1:=hid (setRow_heap _ W3.heap.size _ (cRow 0 ⟨#[]⟩ 0 0 ⟨#[]⟩) _ _ HNW.out);have bk:=below_setRow (qaf W3 (.cells (cRow 0 ⟨#[]⟩ 0 0 ⟨#[]⟩) 28)) (Nat.le_refl _) (cRow 0 ⟨#[]⟩ 0 0 ⟨#[]⟩);replace HG:=hid (qaa bk (qab HG.out) HG.out);replace HQ:=hid (HC.out.step _ _ HQ.out bk);replace hb:=hb.trans (bk.mono hb.size);clear bk
     go_wp2_with (with_reducible refine wpList_store_row rfl 28 _ _ rfl W3.heap.size (cRow 0 ⟨#[]⟩ 0 0 ⟨#[]⟩) rfl rfl 28 _ HNW.out (qam _ _ _ _ _) rfl (qbd _ _ _ _ _) ?_)
     clear HNW;generalize (World.setRow (World.alloc _ _) _ _)=W4 at *;generalize W3.heap.size=g9 at *
     refine (C3.out _ HQ.out).mono ?_
     rintro ee W5 ⟨rfl,bk⟩;replace HG:=hid (qaa bk (qab HG.out) HG.out);replace HG1:=hid (qaa bk (qab HG1.out) HG1.out);replace HQ:=hid (HC.out.step _ _ HQ.out bk);replace hb:=hb.trans (bk.mono hb.size);clear bk
     go_wp2_with fail
     refine (HA.out _ HQ.out).mono ?_
     rintro ee W6 ⟨rfl,bk⟩;replace HG:=hid (qaa bk (qab HG.out) HG.out);replace HG1:=hid (qaa bk (qab HG1.out) HG1.out);replace HQ:=hid (HC.out.step _ _ HQ.out bk);replace hb:=hb.trans (bk.mono hb.size);clear bk
     go_wp2_with fail
     go_ret
     exact ⟨rfl,hb⟩
   ·have hE':(makE F ⟨sr,b,d,e,f⟩ seed != 0)=true:=by simp [hE]
    cases hr:qbk ⟨sr,b,d,e,f⟩ with
    | false=>
     obtain ⟨q1,q2⟩:=mak_bad F ⟨sr,b,d,e,f⟩ seed 1 (by rw [makE,hr,if_neg Bool.false_ne_true]) (by decide)
     rw [q1,q2] at C1;clear a0 a1 d0 d1 e0 e1 C hfew f1 f2 hE hE' q1 q2 hr h32 hbn
     go_enter Tryz.func7,Tryz.ntmps7
     go_wp2_with (with_reducible refine wpList_load_row rfl 28 _ rfl w.heap.size rfl 28 _ (0,0) _ HG.out Tryz.underlying28 rfl (qam _ _ _ _ _) ?_)
     generalize (w.alloc _)=W0 at *
     refine (CF.out _).mono ?_
     rintro ee W1 ⟨rfl,bk⟩;replace HG:=hid (qaa bk (qab HG.out) HG.out);replace HQ:=hid (HC.out.step _ _ HQ.out bk);replace hb:=hb.trans (bk.mono hb.size);clear bk
     go_wp2_with (with_reducible refine wpList_load_row rfl 28 _ rfl w.heap.size rfl 28 _ (0,0) _ HG.out Tryz.underlying28 rfl (qam _ _ _ _ _) ?_)
     refine (C1.out _ HQ.out).mono ?_
     rintro ee W2 ⟨rfl,bk⟩;replace HG:=hid (qaa bk (qab HG.out) HG.out);replace HQ:=hid (HC.out.step _ _ HQ.out bk);replace hb:=hb.trans (bk.mono hb.size);clear bk;obtain ⟨c0,c1,c2,c3,c4⟩:=qau HG.out
     go_wp2_with fail
     refine (HA.out _ HQ.out).mono ?_
     rintro ee W3 ⟨rfl,bk⟩;replace HG:=hid (qaa bk (qab HG.out) HG.out);replace HQ:=hid (HC.out.step _ _ HQ.out bk);replace hb:=hb.trans (bk.mono hb.size);clear bk
     go_wp2_with fail
     go_ret
     exact ⟨rfl,hb⟩
    | true=>
     have hnk:¬ keyOk F ⟨sr,b,d,e,f⟩ seed=true:=fun h=>hE (by rw [makE,hr,if_pos rfl,if_pos h])
     obtain ⟨q1,q2⟩:=mak_bad F ⟨sr,b,d,e,f⟩ seed 21 (by rw [makE,hr,if_pos rfl,if_neg hnk]) (by decide)
     have hf0:¬ f.size=0:=fun h=>hnk (by simp [keyOk,h32,h])
     have qa:f.toList.isEmpty=false:=by rw [(qcH f).1];exact decide_eq_false hf0
     have qb:(f.toList==[])=false:=by rw [(qcH f).2];exact decide_eq_false hf0
     rw [q1,q2] at C1;clear a0 a1 d0 d1 e0 e1 C hfew f1 f2 hE hE' q1 q2 hr h32 hbn hnk hf0
     go_enter Tryz.func7,Tryz.ntmps7
     go_wp2_with (with_reducible refine wpList_load_row rfl 28 _ rfl w.heap.size rfl 28 _ (0,0) _ HG.out Tryz.underlying28 rfl (qam _ _ _ _ _) ?_)
     generalize (w.alloc _)=W0 at *
     refine (CF.out _).mono ?_
     rintro ee W1 ⟨rfl,bk⟩;replace HG:=hid (qaa bk (qab HG.out) HG.out);replace HQ:=hid (HC.out.step _ _ HQ.out bk);replace hb:=hb.trans (bk.mono hb.size);clear bk
     go_wp2_with (with_reducible refine wpList_load_row rfl 28 _ rfl w.heap.size rfl 28 _ (0,0) _ HG.out Tryz.underlying28 rfl (qam _ _ _ _ _) ?_)
     refine (C1.out _ HQ.out).mono ?_
     rintro ee W2 ⟨rfl,bk⟩;replace HG:=hid (qaa bk (qab HG.out) HG.out);replace HQ:=hid (HC.out.step _ _ HQ.out bk);replace hb:=hb.trans (bk.mono hb.size);clear bk;obtain ⟨c0,c1,c2,c3,c4⟩:=qau HG.out
     go_wp2_with fail
     refine (HA.out _ HQ.out).mono ?_
     rintro ee W3 ⟨rfl,bk⟩;replace HG:=hid (qaa bk (qab HG.out) HG.out);replace HQ:=hid (HC.out.step _ _ HQ.out bk);replace hb:=hb.trans (bk.mono hb.size);clear bk
     go_wp2_with fail
     go_ret
     exact ⟨rfl,hb⟩
  ·have d32:((seed.size:Int) != 32)=true:=by simp;omega
   clear a0 a1 d0 d1 e0 e1 C hfew f1 f2 h32 hbn
   go_enter Tryz.func7,Tryz.ntmps7
   go_wp2_with (with_reducible refine wpList_load_row rfl 28 _ rfl w.heap.size rfl 28 _ (0,0) _ HG.out Tryz.underlying28 rfl (qam _ _ _ _ _) ?_)
   generalize (w.alloc _)=W0 at *
   refine (CF.out _).mono ?_
   rintro ee W1 ⟨rfl,bk⟩;replace HG:=hid (qaa bk (qab HG.out) HG.out);replace HQ:=hid (HC.out.step _ _ HQ.out bk);replace hb:=hb.trans (bk.mono hb.size);clear bk
   go_wp2_with fail
   refine (HA.out _ HQ.out).mono ?_
   rintro ee W2 ⟨rfl,bk⟩;replace HG:=hid (qaa bk (qab HG.out) HG.out);replace HQ:=hid (HC.out.step _ _ HQ.out bk);replace hb:=hb.trans (bk.mono hb.size);clear bk
   go_wp2_with fail
   go_ret
   exact ⟨rfl,hb⟩
 ·have hf':fewC b f=false:=by simpa using hfew
  rw [hf'] at CF;clear hbn a0 a1 d0 d1 e0 e1 C hfew hf'
  go_enter Tryz.func7,Tryz.ntmps7
  go_wp2_with (with_reducible refine wpList_load_row rfl 28 _ rfl w.heap.size rfl 28 _ (0,0) _ HG.out Tryz.underlying28 rfl (qam _ _ _ _ _) ?_)
  generalize (w.alloc _)=W0 at *
  refine (CF.out _).mono ?_
  rintro ee W1 ⟨rfl,bk⟩;replace HG:=hid (qaa bk (qab HG.out) HG.out);replace HQ:=hid (HC.out.step _ _ HQ.out bk);replace hb:=hb.trans (bk.mono hb.size);clear bk
  go_wp2_with fail
  refine (HA.out _ HQ.out).mono ?_
  rintro ee W2 ⟨rfl,bk⟩;replace HG:=hid (qaa bk (qab HG.out) HG.out);replace HQ:=hid (HC.out.step _ _ HQ.out bk);replace hb:=hb.trans (bk.mono hb.size);clear bk
  go_wp2_with fail
  go_ret
  exact ⟨rfl,hb⟩
end
end Go.Proofs.YteomfleofeeofaaGreatDoor
