/- CertLets over whatever the program's calls are. -/
import Derived.Test.YteomfleofeeofaaGreatDoorCtL
import Derived.Test.YteomfleofeeofaaGreatDoorCtA
namespace Go.Proofs.YteomfleofeeofaaGreatDoor
open Go.Lib (hid)
set_option maxRecDepth 100000
set_option linter.unusedSimpArgs false
set_option linter.unusedVariables false
section
open Go.RowKit Go.Sort
theorem qdT (W:World) (x y:ByteArray) (t:TypeId):StrsAt (W.alloc (.cells #[.string x,.string y] t)) (some ⟨W.heap.size,0,none⟩) [x,y]:=fun j hj=>⟨W.heap.size,0,rfl,by
 rw [Nat.zero_add,cell_of_row _ W.heap.size j _ t (0,0) (qag W _)]
 match j,hj with
 | 0,_=>rfl
 | 1,_=>rfl
 | k+2,hj=>exact absurd hj (by simp)⟩
set_option maxHeartbeats 16000000 in
theorem certLets_of {F:SignF} {Q:World→Prop} (C:CtCalls F Q) (sr:Int) (a0:-9223372036854775808≤sr) (a1:sr≤9223372036854775807) (b:ByteArray) (d:Int) (d0:-9223372036854775808≤d) (d1:d≤9223372036854775807) (e:Int) (e0:-9223372036854775808≤e) (e1:e≤9223372036854775807) (f:ByteArray) (seed:ByteArray) (now:Int) (n0:-9223372036854775808≤now) (n1:now≤9223372036854775807) (w:World) (hQ:Q w) :
  Calls Tryz.prog 9 #[.agg (cRow sr b d e f),.string seed,.int .i64 now] w fun e w'=>e=.returned (.bool true)∧Below w.heap.size w w':=by
 have HC:=hid C;have HQ:=hid hQ
 have HA:=hid (fun W hW=>ctwake_of C.tm W hW)
 have hb:=Below.refl w.heap.size w;clear hQ
 have HG:=hid (show (w.alloc (.cells (cRow sr b d e f) 28)).heap[w.heap.size]?=some (.cells (cRow sr b d e f) 28) from qag w _)
 have hb:=qaf w (.cells (cRow sr b d e f) 28);replace HQ:=hid (C.step _ _ HQ.out hb)
 have CF:=hid (fun W=>few_any sr b d e f W)
 by_cases hfew:fewC b f=true
 ·obtain ⟨f1,f2⟩:=(few_iff b f).1 hfew
  rw [hfew] at CF
  have C1:=hid (fun W hW=>C.mkd.make sr b d e f seed W a0 a1 d0 d1 e0 e1 (by omega) (by omega) hW)
  by_cases hE:makE F ⟨sr,b,d,e,f⟩ seed=0
  ·have hm:=made_of F ⟨sr,b,d,e,f⟩ seed a0 a1 hE
   rw [hE] at C1;obtain ⟨hr1,hr2⟩:=hm.read;obtain ⟨hl1,hl2⟩:=hm.let now;have hz:=F.hz (makX F ⟨sr,b,d,e,f⟩ seed);have hsz:=hm.size;obtain ⟨S,hS⟩:∃ S,makX F ⟨sr,b,d,e,f⟩ seed=S:=⟨_,rfl⟩;rw [hS] at C1 hm hr1 hr2 hl1 hl2 hz hsz
   have CPR:=hid (fun W hW=>C.print S W (by omega) hW)
   have C2:=hid (fun W hW=>C.allow S now none 0 0 [] W (by omega) n0 n1 rfl (by omega) (Nat.le_refl _) (StrsAt.nil _ _) hW)
   have C3:=hid (fun ao W hI hW=>C.allow S now ao 2 2 [⟨#[120]⟩,S] W (by omega) n0 n1 rfl (by omega) (Nat.le_refl _) hI hW)
   have C4:=hid (fun ao W hI hW=>C.allow S now ao 2 2 [⟨#[120]⟩,F.sum S] W (by omega) n0 n1 rfl (by omega) (Nat.le_refl _) hI hW)
   have d32:(((F.sum S).size:Int) != 32)=false:=by rw [hz];rfl
   by_cases hq:reE F S=0
   ·obtain ⟨k1,k2,k3⟩:=hl2 hq
    rw [k1] at C2;rw [k2] at C3;rw [k3] at C4;have hde:d≤e:=(qca _ hm.right).2.2.2.2;clear a0 a1 e0 e1 C hfew f1 f2 hE hr1 hr2 hl1 hl2 hz hsz hS hm hq k1 k2 k3 n0 n1;generalize F.sum S=z at *
    by_cases h1:now<d
    ·rw [if_pos (.inl h1)] at C4
     have k1:decide (d≤now)=false:=decide_eq_false (by omega)
     clear h1 hde d0 d1
     go_enter Tryz.func9,Tryz.ntmps9
     go_wp2_with (with_reducible refine wpList_load_row rfl 28 _ rfl w.heap.size rfl 28 _ (0,0) _ HG.out Tryz.underlying28 rfl (qam _ _ _ _ _) ?_)
     generalize (w.alloc _)=W0 at *
     refine (CF.out _).mono ?_
     rintro ee W1 ⟨rfl,bk⟩;replace HG:=hid (qaa bk (qab HG.out) HG.out);replace HQ:=hid (HC.out.step _ _ HQ.out bk);replace hb:=hb.trans (bk.mono hb.size);clear bk
     go_wp2_with (with_reducible refine wpList_load_row rfl 28 _ rfl w.heap.size rfl 28 _ (0,0) _ HG.out Tryz.underlying28 rfl (qam _ _ _ _ _) ?_)
     refine (C1.out _ HQ.out).mono ?_
     rintro ee W2 ⟨rfl,bk⟩;replace HG:=hid (qaa bk (qab HG.out) HG.out);replace HQ:=hid (HC.out.step _ _ HQ.out bk);replace hb:=hb.trans (bk.mono hb.size);clear bk
     go_wp2_with fail
     refine (CPR.out _ HQ.out).mono ?_
     rintro ee W3 ⟨rfl,bk⟩;replace HG:=hid (qaa bk (qab HG.out) HG.out);replace HQ:=hid (HC.out.step _ _ HQ.out bk);replace hb:=hb.trans (bk.mono hb.size);clear bk
     go_wp2_with fail
     refine (C2.out _ HQ.out).mono ?_
     rintro ee W4 ⟨rfl,bk⟩;replace HG:=hid (qaa bk (qab HG.out) HG.out);replace HQ:=hid (HC.out.step _ _ HQ.out bk);replace hb:=hb.trans (bk.mono hb.size);clear bk
     go_wp2_with fail
     refine (C2.out _ HQ.out).mono ?_
     rintro ee W5 ⟨rfl,bk⟩;replace HG:=hid (qaa bk (qab HG.out) HG.out);replace HQ:=hid (HC.out.step _ _ HQ.out bk);replace hb:=hb.trans (bk.mono hb.size);clear bk
     go_wp2_with fail
     have HI1:=qdT W5 ⟨#[120]⟩ S 9;have bk:=qaf W5 (.cells #[.string ⟨#[120]⟩,.string S] 9);replace HG:=hid (qaa bk (qab HG.out) HG.out);replace HQ:=hid (HC.out.step _ _ HQ.out bk);replace hb:=hb.trans (bk.mono hb.size);clear bk
     refine (C3.out _ _ HI1 HQ.out).mono ?_
     rintro ee W6 ⟨rfl,bk⟩;replace HG:=hid (qaa bk (qab HG.out) HG.out);replace HQ:=hid (HC.out.step _ _ HQ.out bk);replace hb:=hb.trans (bk.mono hb.size);clear bk
     go_wp2_with fail
     clear HI1;have HI2:=qdT W6 ⟨#[120]⟩ z 9;have bk:=qaf W6 (.cells #[.string ⟨#[120]⟩,.string z] 9);replace HG:=hid (qaa bk (qab HG.out) HG.out);replace HQ:=hid (HC.out.step _ _ HQ.out bk);replace hb:=hb.trans (bk.mono hb.size);clear bk
     refine (C4.out _ _ HI2 HQ.out).mono ?_
     rintro ee W7 ⟨rfl,bk⟩;replace HG:=hid (qaa bk (qab HG.out) HG.out);replace HQ:=hid (HC.out.step _ _ HQ.out bk);replace hb:=hb.trans (bk.mono hb.size);clear bk;clear HI2;obtain ⟨c0,c1,c2,c3,c4⟩:=qau HG.out
     go_wp2_with fail
     refine (HA.out _ HQ.out).mono ?_
     rintro ee W8 ⟨rfl,bk⟩;replace HG:=hid (qaa bk (qab HG.out) HG.out);replace HQ:=hid (HC.out.step _ _ HQ.out bk);replace hb:=hb.trans (bk.mono hb.size);clear bk
     go_wp2_with fail
     go_ret
     exact ⟨rfl,hb⟩
    by_cases h2:e<now
    ·rw [if_pos (.inr h2)] at C4
     have k1:decide (d≤now)=true:=decide_eq_true (by omega)
     have k2:decide (now≤e)=false:=decide_eq_false (by omega)
     clear h1 h2 hde d0 d1
     go_enter Tryz.func9,Tryz.ntmps9
     go_wp2_with (with_reducible refine wpList_load_row rfl 28 _ rfl w.heap.size rfl 28 _ (0,0) _ HG.out Tryz.underlying28 rfl (qam _ _ _ _ _) ?_)
     generalize (w.alloc _)=W0 at *
     refine (CF.out _).mono ?_
     rintro ee W1 ⟨rfl,bk⟩;replace HG:=hid (qaa bk (qab HG.out) HG.out);replace HQ:=hid (HC.out.step _ _ HQ.out bk);replace hb:=hb.trans (bk.mono hb.size);clear bk
     go_wp2_with (with_reducible refine wpList_load_row rfl 28 _ rfl w.heap.size rfl 28 _ (0,0) _ HG.out Tryz.underlying28 rfl (qam _ _ _ _ _) ?_)
     refine (C1.out _ HQ.out).mono ?_
     rintro ee W2 ⟨rfl,bk⟩;replace HG:=hid (qaa bk (qab HG.out) HG.out);replace HQ:=hid (HC.out.step _ _ HQ.out bk);replace hb:=hb.trans (bk.mono hb.size);clear bk
     go_wp2_with fail
     refine (CPR.out _ HQ.out).mono ?_
     rintro ee W3 ⟨rfl,bk⟩;replace HG:=hid (qaa bk (qab HG.out) HG.out);replace HQ:=hid (HC.out.step _ _ HQ.out bk);replace hb:=hb.trans (bk.mono hb.size);clear bk
     go_wp2_with fail
     refine (C2.out _ HQ.out).mono ?_
     rintro ee W4 ⟨rfl,bk⟩;replace HG:=hid (qaa bk (qab HG.out) HG.out);replace HQ:=hid (HC.out.step _ _ HQ.out bk);replace hb:=hb.trans (bk.mono hb.size);clear bk
     go_wp2_with fail
     refine (C2.out _ HQ.out).mono ?_
     rintro ee W5 ⟨rfl,bk⟩;replace HG:=hid (qaa bk (qab HG.out) HG.out);replace HQ:=hid (HC.out.step _ _ HQ.out bk);replace hb:=hb.trans (bk.mono hb.size);clear bk
     go_wp2_with fail
     have HI1:=qdT W5 ⟨#[120]⟩ S 9;have bk:=qaf W5 (.cells #[.string ⟨#[120]⟩,.string S] 9);replace HG:=hid (qaa bk (qab HG.out) HG.out);replace HQ:=hid (HC.out.step _ _ HQ.out bk);replace hb:=hb.trans (bk.mono hb.size);clear bk
     refine (C3.out _ _ HI1 HQ.out).mono ?_
     rintro ee W6 ⟨rfl,bk⟩;replace HG:=hid (qaa bk (qab HG.out) HG.out);replace HQ:=hid (HC.out.step _ _ HQ.out bk);replace hb:=hb.trans (bk.mono hb.size);clear bk
     go_wp2_with fail
     clear HI1;have HI2:=qdT W6 ⟨#[120]⟩ z 9;have bk:=qaf W6 (.cells #[.string ⟨#[120]⟩,.string z] 9);replace HG:=hid (qaa bk (qab HG.out) HG.out);replace HQ:=hid (HC.out.step _ _ HQ.out bk);replace hb:=hb.trans (bk.mono hb.size);clear bk
     refine (C4.out _ _ HI2 HQ.out).mono ?_
     rintro ee W7 ⟨rfl,bk⟩;replace HG:=hid (qaa bk (qab HG.out) HG.out);replace HQ:=hid (HC.out.step _ _ HQ.out bk);replace hb:=hb.trans (bk.mono hb.size);clear bk;clear HI2;obtain ⟨c0,c1,c2,c3,c4⟩:=qau HG.out
     go_wp2_with fail
     refine (HA.out _ HQ.out).mono ?_
     rintro ee W8 ⟨rfl,bk⟩;replace HG:=hid (qaa bk (qab HG.out) HG.out);replace HQ:=hid (HC.out.step _ _ HQ.out bk);replace hb:=hb.trans (bk.mono hb.size);clear bk
     go_wp2_with fail
     go_ret
     exact ⟨rfl,hb⟩
    ·rw [if_neg (show ¬ (now<d∨e<now) by omega)] at C4
     have k1:decide (d≤now)=true:=decide_eq_true (by omega)
     have k2:decide (now≤e)=true:=decide_eq_true (by omega)
     clear h1 h2 hde d0 d1
     go_enter Tryz.func9,Tryz.ntmps9
     go_wp2_with (with_reducible refine wpList_load_row rfl 28 _ rfl w.heap.size rfl 28 _ (0,0) _ HG.out Tryz.underlying28 rfl (qam _ _ _ _ _) ?_)
     generalize (w.alloc _)=W0 at *
     refine (CF.out _).mono ?_
     rintro ee W1 ⟨rfl,bk⟩;replace HG:=hid (qaa bk (qab HG.out) HG.out);replace HQ:=hid (HC.out.step _ _ HQ.out bk);replace hb:=hb.trans (bk.mono hb.size);clear bk
     go_wp2_with (with_reducible refine wpList_load_row rfl 28 _ rfl w.heap.size rfl 28 _ (0,0) _ HG.out Tryz.underlying28 rfl (qam _ _ _ _ _) ?_)
     refine (C1.out _ HQ.out).mono ?_
     rintro ee W2 ⟨rfl,bk⟩;replace HG:=hid (qaa bk (qab HG.out) HG.out);replace HQ:=hid (HC.out.step _ _ HQ.out bk);replace hb:=hb.trans (bk.mono hb.size);clear bk
     go_wp2_with fail
     refine (CPR.out _ HQ.out).mono ?_
     rintro ee W3 ⟨rfl,bk⟩;replace HG:=hid (qaa bk (qab HG.out) HG.out);replace HQ:=hid (HC.out.step _ _ HQ.out bk);replace hb:=hb.trans (bk.mono hb.size);clear bk
     go_wp2_with fail
     refine (C2.out _ HQ.out).mono ?_
     rintro ee W4 ⟨rfl,bk⟩;replace HG:=hid (qaa bk (qab HG.out) HG.out);replace HQ:=hid (HC.out.step _ _ HQ.out bk);replace hb:=hb.trans (bk.mono hb.size);clear bk
     go_wp2_with fail
     refine (C2.out _ HQ.out).mono ?_
     rintro ee W5 ⟨rfl,bk⟩;replace HG:=hid (qaa bk (qab HG.out) HG.out);replace HQ:=hid (HC.out.step _ _ HQ.out bk);replace hb:=hb.trans (bk.mono hb.size);clear bk
     go_wp2_with fail
     have HI1:=qdT W5 ⟨#[120]⟩ S 9;have bk:=qaf W5 (.cells #[.string ⟨#[120]⟩,.string S] 9);replace HG:=hid (qaa bk (qab HG.out) HG.out);replace HQ:=hid (HC.out.step _ _ HQ.out bk);replace hb:=hb.trans (bk.mono hb.size);clear bk
     refine (C3.out _ _ HI1 HQ.out).mono ?_
     rintro ee W6 ⟨rfl,bk⟩;replace HG:=hid (qaa bk (qab HG.out) HG.out);replace HQ:=hid (HC.out.step _ _ HQ.out bk);replace hb:=hb.trans (bk.mono hb.size);clear bk
     go_wp2_with fail
     clear HI1;have HI2:=qdT W6 ⟨#[120]⟩ z 9;have bk:=qaf W6 (.cells #[.string ⟨#[120]⟩,.string z] 9);replace HG:=hid (qaa bk (qab HG.out) HG.out);replace HQ:=hid (HC.out.step _ _ HQ.out bk);replace hb:=hb.trans (bk.mono hb.size);clear bk
     refine (C4.out _ _ HI2 HQ.out).mono ?_
     rintro ee W7 ⟨rfl,bk⟩;replace HG:=hid (qaa bk (qab HG.out) HG.out);replace HQ:=hid (HC.out.step _ _ HQ.out bk);replace hb:=hb.trans (bk.mono hb.size);clear bk;clear HI2;obtain ⟨c0,c1,c2,c3,c4⟩:=qau HG.out
     go_wp2_with fail
     refine (HA.out _ HQ.out).mono ?_
     rintro ee W8 ⟨rfl,bk⟩;replace HG:=hid (qaa bk (qab HG.out) HG.out);replace HQ:=hid (HC.out.step _ _ HQ.out bk);replace hb:=hb.trans (bk.mono hb.size);clear bk
     go_wp2_with fail
     go_ret
     exact ⟨rfl,hb⟩
   ·have h22:reE F S=22:=by
     by_cases hv:F.ver (F.pub seed) (innB (qaX ⟨sr,b,d,e,f⟩ (F.pub seed))) (F.sgn seed (innB (qaX ⟨sr,b,d,e,f⟩ (F.pub seed))))=0
     ·exact absurd (hr1 hv).1 hq
     ·exact (hr2 hv).1
    rw [hl1 hq [],h22] at C2;clear a0 a1 d0 d1 e0 e1 C hfew f1 f2 hE hr1 hr2 hl1 hl2 hz hsz hS hm hq h22 n0 n1 C3 C4;generalize F.sum S=z at *
    go_enter Tryz.func9,Tryz.ntmps9
    go_wp2_with (with_reducible refine wpList_load_row rfl 28 _ rfl w.heap.size rfl 28 _ (0,0) _ HG.out Tryz.underlying28 rfl (qam _ _ _ _ _) ?_)
    generalize (w.alloc _)=W0 at *
    refine (CF.out _).mono ?_
    rintro ee W1 ⟨rfl,bk⟩;replace HG:=hid (qaa bk (qab HG.out) HG.out);replace HQ:=hid (HC.out.step _ _ HQ.out bk);replace hb:=hb.trans (bk.mono hb.size);clear bk
    go_wp2_with (with_reducible refine wpList_load_row rfl 28 _ rfl w.heap.size rfl 28 _ (0,0) _ HG.out Tryz.underlying28 rfl (qam _ _ _ _ _) ?_)
    refine (C1.out _ HQ.out).mono ?_
    rintro ee W2 ⟨rfl,bk⟩;replace HG:=hid (qaa bk (qab HG.out) HG.out);replace HQ:=hid (HC.out.step _ _ HQ.out bk);replace hb:=hb.trans (bk.mono hb.size);clear bk
    go_wp2_with fail
    refine (CPR.out _ HQ.out).mono ?_
    rintro ee W3 ⟨rfl,bk⟩;replace HG:=hid (qaa bk (qab HG.out) HG.out);replace HQ:=hid (HC.out.step _ _ HQ.out bk);replace hb:=hb.trans (bk.mono hb.size);clear bk
    go_wp2_with fail
    refine (C2.out _ HQ.out).mono ?_
    rintro ee W4 ⟨rfl,bk⟩;replace HG:=hid (qaa bk (qab HG.out) HG.out);replace HQ:=hid (HC.out.step _ _ HQ.out bk);replace hb:=hb.trans (bk.mono hb.size);clear bk
    go_wp2_with fail
    refine (HA.out _ HQ.out).mono ?_
    rintro ee W5 ⟨rfl,bk⟩;replace HG:=hid (qaa bk (qab HG.out) HG.out);replace HQ:=hid (HC.out.step _ _ HQ.out bk);replace hb:=hb.trans (bk.mono hb.size);clear bk
    go_wp2_with fail
    go_ret
    exact ⟨rfl,hb⟩
  ·have hE':(makE F ⟨sr,b,d,e,f⟩ seed != 0)=true:=by simp [hE]
   clear a0 a1 d0 d1 e0 e1 C hfew f1 f2 hE n0 n1;generalize makX F ⟨sr,b,d,e,f⟩ seed=x at *;generalize makE F ⟨sr,b,d,e,f⟩ seed=q at *
   go_enter Tryz.func9,Tryz.ntmps9
   go_wp2_with (with_reducible refine wpList_load_row rfl 28 _ rfl w.heap.size rfl 28 _ (0,0) _ HG.out Tryz.underlying28 rfl (qam _ _ _ _ _) ?_)
   generalize (w.alloc _)=W0 at *
   refine (CF.out _).mono ?_
   rintro ee W1 ⟨rfl,bk⟩;replace HG:=hid (qaa bk (qab HG.out) HG.out);replace HQ:=hid (HC.out.step _ _ HQ.out bk);replace hb:=hb.trans (bk.mono hb.size);clear bk
   go_wp2_with (with_reducible refine wpList_load_row rfl 28 _ rfl w.heap.size rfl 28 _ (0,0) _ HG.out Tryz.underlying28 rfl (qam _ _ _ _ _) ?_)
   refine (C1.out _ HQ.out).mono ?_
   rintro ee W2 ⟨rfl,bk⟩;replace HG:=hid (qaa bk (qab HG.out) HG.out);replace HQ:=hid (HC.out.step _ _ HQ.out bk);replace hb:=hb.trans (bk.mono hb.size);clear bk
   go_wp2_with fail
   refine (HA.out _ HQ.out).mono ?_
   rintro ee W3 ⟨rfl,bk⟩;replace HG:=hid (qaa bk (qab HG.out) HG.out);replace HQ:=hid (HC.out.step _ _ HQ.out bk);replace hb:=hb.trans (bk.mono hb.size);clear bk
   go_wp2_with fail
   go_ret
   exact ⟨rfl,hb⟩
 ·have hf':fewC b f=false:=by simpa using hfew
  rw [hf'] at CF;clear a0 a1 d0 d1 e0 e1 C hfew hf'
  go_enter Tryz.func9,Tryz.ntmps9
  go_wp2_with (with_reducible refine wpList_load_row rfl 28 _ rfl w.heap.size rfl 28 _ (0,0) _ HG.out Tryz.underlying28 rfl (qam _ _ _ _ _) ?_)
  generalize (w.alloc _)=W0 at *
  refine (CF.out _).mono ?_
  rintro ee W1 ⟨rfl,bk⟩;replace HG:=hid (qaa bk (qab HG.out) HG.out);replace HQ:=hid (HC.out.step _ _ HQ.out bk);replace hb:=hb.trans (bk.mono hb.size);clear bk
  go_wp2_with fail
  refine (HA.out _ HQ.out).mono ?_
  rintro ee W2 ⟨rfl,bk⟩;replace HG:=hid (qaa bk (qab HG.out) HG.out);replace HQ:=hid (HC.out.step _ _ HQ.out bk);replace hb:=hb.trans (bk.mono hb.size);clear bk
  go_wp2_with fail
  go_ret
  exact ⟨rfl,hb⟩
end
end Go.Proofs.YteomfleofeeofaaGreatDoor
