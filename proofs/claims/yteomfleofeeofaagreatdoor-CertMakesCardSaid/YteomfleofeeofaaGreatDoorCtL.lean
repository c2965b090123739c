/- What the laws of certificates ask of the program's calls; The chapter's examples, over whatever the program's calls are; A certificate is itself (structs compared); whether it has not too much for what is asked of it. -/
import Derived.Test.YteomfleofeeofaaGreatDoorCtR
import Derived.Laws.StructEq
import Derived.ChangeKeysEq
namespace Go.Proofs.YteomfleofeeofaaGreatDoor
open Go.Lib (hid)
set_option maxRecDepth 100000
set_option linter.unusedSimpArgs false
set_option linter.unusedVariables false
section
open Go.RowKit Go.Sort
structure TmCalls (Q:World→Prop):Prop where
 step:∀ (w w':World),Q w→Below w.heap.size w w'→Q w'
 time:∀ (n:Int) (w:World),-9223372036854775808≤n→n≤9223372036854775807→Q w→Calls Tryz.prog 10 #[.int .i64 n] w fun ee w'=>ee=.returned (.tuple #[.string (timX n),.int .i64 (timE n)])∧Below w.heap.size w w'
 rd0:∀ (w:World),Q w→Calls Tryz.prog 16 #[.string ⟨#[]⟩] w fun ee w'=>ee=.returned (.tuple #[.agg (cRow 0 ⟨#[]⟩ 0 0 ⟨#[]⟩),.int .i64 11])∧Below w.heap.size w w'
structure MkCalls (F:SignF) (Q:World→Prop):Prop where
 tm:TmCalls Q
 step:∀ (w w':World),Q w→Below w.heap.size w w'→Q w'
 make:∀ (sr:Int) (b:ByteArray) (d e:Int) (f seed:ByteArray) (w:World),-9223372036854775808≤sr→sr≤9223372036854775807→-9223372036854775808≤d→d≤9223372036854775807→-9223372036854775808≤e→e≤9223372036854775807→b.size≤1000→f.size≤1000→Q w→Calls Tryz.prog 14 #[.agg (cRow sr b d e f),.string seed] w fun ee w'=>ee=.returned (.tuple #[.string (makX F ⟨sr,b,d,e,f⟩ seed),.int .i64 (makE F ⟨sr,b,d,e,f⟩ seed)])∧Below w.heap.size w w'
end
section
open Go.RowKit Go.Sort
theorem try_empty:okC ⟨#[]⟩=false:=by decide +kernel
theorem try_read (F:SignF):reE F ⟨#[]⟩=11∧reC F ⟨#[]⟩=noC:=by
 have h:reE F ⟨#[]⟩=11:=by rw [reE,if_neg (by decide),try_empty,if_neg Bool.false_ne_true]
 exact ⟨h,(re_bad F _ 11 h (by decide)).1⟩
theorem ct_times:timX 0=⟨#[49,57,55,48,48,49,48,49,48,48,48,48,48,48,90]⟩∧timE 0=0∧timX 951782400=⟨#[50,48,48,48,48,50,50,57,48,48,48,48,48,48,90]⟩∧timE 951782400=0:=
 ⟨by rw [timX,if_pos (by decide)];exact try_time0,by decide,by rw [timX,if_pos (by decide)];exact try_time1,by decide⟩
set_option maxHeartbeats 4000000 in
theorem ctwake_of {Q:World→Prop} (C:TmCalls Q) (w:World) (hQ:Q w) :
  Calls Tryz.prog 12 #[] w fun e w'=>e=.returned (.bool true)∧Below w.heap.size w w':=by
 have HC:=hid C;have HQ:=hid hQ;have hb:=Below.refl w.heap.size w
 have C1:=hid (fun W hW=>C.time 0 W (by decide) (by decide) hW)
 have C2:=hid (fun W hW=>C.time 951782400 W (by decide) (by decide) hW)
 have C3:=hid (fun W hW=>C.rd0 W hW)
 rw [ct_times.1,ct_times.2.1] at C1;rw [ct_times.2.2.1,ct_times.2.2.2] at C2;obtain ⟨hz,hi⟩:=zero_of_info infoCert;clear hQ C hi
 go_enter Tryz.func12,Tryz.ntmps12
 go_wp2_with fail
 refine (C1.out _ HQ.out).mono ?_
 rintro ee W1 ⟨rfl,bk⟩;replace HQ:=hid (HC.out.step _ _ HQ.out bk);replace hb:=hb.trans (bk.mono hb.size);clear bk
 go_wp2_with fail
 refine (C2.out _ HQ.out).mono ?_
 rintro ee W2 ⟨rfl,bk⟩;replace HQ:=hid (HC.out.step _ _ HQ.out bk);replace hb:=hb.trans (bk.mono hb.size);clear bk
 go_wp2_with fail
 refine (C3.out _ HQ.out).mono ?_
 rintro ee W3 ⟨rfl,bk⟩;replace HQ:=hid (HC.out.step _ _ HQ.out bk);replace hb:=hb.trans (bk.mono hb.size);clear bk;have HNW:=hid (qag W3 (.cells (cRow 0 ⟨#[]⟩ 0 0 ⟨#[]⟩) 28));have HG1:=hid (setRow_heap _ W3.heap.size _ (cRow 0 ⟨#[]⟩ 0 0 ⟨#[]⟩) _ _ HNW.out);have bk:=below_setRow (qah W3 (.cells (cRow 0 ⟨#[]⟩ 0 0 ⟨#[]⟩) 28)) (Nat.le_refl _) (cRow 0 ⟨#[]⟩ 0 0 ⟨#[]⟩);replace HQ:=hid (HC.out.step _ _ HQ.out bk);replace hb:=hb.trans (bk.mono hb.size);clear bk
 go_wp2_with (with_reducible refine wpList_store_row rfl 28 _ _ rfl W3.heap.size (cRow 0 ⟨#[]⟩ 0 0 ⟨#[]⟩) rfl rfl 28 _ HNW.out (qaD _ _ _ _ _) rfl (qdc _ _ _ _ _) ?_)
 go_ret
 exact ⟨rfl,hb⟩
end
section
open Go.RowKit Go.Sort
def fewC (b f:ByteArray):Bool:=decide (b.size≤200)&&decide (f.size≤200)
set_option maxHeartbeats 4000000 in
theorem few_any (sr:Int) (b:ByteArray) (d e:Int) (f:ByteArray) (w:World) :
  Calls Tryz.prog 13 #[.agg (cRow sr b d e f)] w fun ee w'=>ee=.returned (.bool (fewC b f))∧Below w.heap.size w w':=by
 have HG:=hid (show (w.alloc (.cells (cRow sr b d e f) 28)).heap[w.heap.size]?=some (.cells (cRow sr b d e f) 28) from qag w _)
 have hb:=qah w (.cells (cRow sr b d e f) 28);obtain ⟨c0,c1,c2,c3,c4⟩:=qal HG.out
 by_cases h1:b.size≤200
 ·have d1:decide ((b.size:Int)≤200)=true:=by simp;omega
  have HV:Hid (fewC b f=decide (f.size≤200)):=hid (by rw [fewC,decide_eq_true h1,Bool.true_and])
  have d2:decide ((f.size:Int)≤200)=decide (f.size≤200):=by rw [Bool.eq_iff_iff,decide_eq_true_eq,decide_eq_true_eq];omega
  obtain ⟨q,hq⟩:∃ q,decide (f.size≤200)=q:=⟨_,rfl⟩;rw [hq] at HV d2;clear h1 hq
  go_enter Tryz.func13,Tryz.ntmps13
  go_wp2_with fail
  go_ret
  exact ⟨by rw [HV.out];first | rfl | simp [d2] | (rw [← d2];simp),hb⟩
 ·have d1:decide ((b.size:Int)≤200)=false:=by simp;omega
  have HV:Hid (fewC b f=false):=hid (by rw [fewC,decide_eq_false h1,Bool.false_and])
  clear h1
  go_enter Tryz.func13,Tryz.ntmps13
  go_wp2_with fail
  go_ret
  exact ⟨by rw [HV.out];rfl,hb⟩
theorem few_iff (b f:ByteArray):fewC b f=true↔b.size≤200∧f.size≤200:=by simp [fewC]
end
end Go.Proofs.YteomfleofeeofaaGreatDoor
