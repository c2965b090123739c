/- CertMakes over whatever the program's calls are. -/
import Derived.Test.YteomfleofeeofaaGreatDoorCtL
namespace Go.Proofs.YteomfleofeeofaaGreatDoor
open Go.Lib (hid)
set_option maxRecDepth 100000
set_option linter.unusedSimpArgs false
set_option linter.unusedVariables false
section
open Go.RowKit Go.Sort
set_option maxHeartbeats 16000000 in
theorem certMakes_of {F:SignF} (R:SignRM F) {Q:World→Prop} (C:MkCalls F Q) (sr:Int) (a0:-9223372036854775808≤sr) (a1:sr≤9223372036854775807) (b:ByteArray) (d:Int) (d0:-9223372036854775808≤d) (d1:d≤9223372036854775807) (e:Int) (e0:-9223372036854775808≤e) (e1:e≤9223372036854775807) (f:ByteArray) (seed:ByteArray) (w:World) (hQ:Q w) :
  Calls Tryz.prog 4 #[.agg (cRow sr b d e f),.string seed] w fun e w'=>e=.returned (.bool true)∧Below w.heap.size w w':=by
 have HC:=hid C;have HQ:=hid hQ
 have HA:=hid (fun W hW=>ctwake_of C.tm W hW)
 have hb:=Below.refl w.heap.size w;clear hQ
 have HG:=hid (show (w.alloc (.cells (cRow sr b d e f) 28)).heap[w.heap.size]?=some (.cells (cRow sr b d e f) 28) from qag w _)
 have hb:=qah w (.cells (cRow sr b d e f) 28);replace HQ:=hid (C.step _ _ HQ.out hb)
 have CF:=hid (fun W=>few_any sr b d e f W)
 by_cases hfew:fewC b f=true
 ·obtain ⟨f1,f2⟩:=(few_iff b f).1 hfew
  rw [hfew] at CF
  have C1:=hid (fun W hW=>C.make sr b d e f seed W a0 a1 d0 d1 e0 e1 (by omega) (by omega) hW)
  have R1:=hid (fun W=>rMake_any F R sr b d e f seed W a0 a1 d0 d1 e0 e1 (by omega) (by omega))
  generalize makX F ⟨sr,b,d,e,f⟩ seed=x at *;generalize makE F ⟨sr,b,d,e,f⟩ seed=q at *
  have x1:(x.toList==x.toList)=true:=by simp
  have x2:(q==q)=true:=by simp
  clear a0 a1 d0 d1 e0 e1 C R hfew f1 f2
  go_enter Tryz.func4,Tryz.ntmps4
  go_wp2_with (with_reducible refine wpList_load_row rfl 28 _ rfl w.heap.size rfl 28 _ (0,0) _ HG.out Tryz.underlying28 rfl (qaD _ _ _ _ _) ?_)
  generalize (w.alloc _)=W0 at *
  refine (CF.out _).mono ?_
  rintro ee W1 ⟨rfl,bk⟩;replace HG:=hid (qaa bk (qab HG.out) HG.out);replace HQ:=hid (HC.out.step _ _ HQ.out bk);replace hb:=hb.trans (bk.mono hb.size);clear bk
  go_wp2_with (with_reducible refine wpList_load_row rfl 28 _ rfl w.heap.size rfl 28 _ (0,0) _ HG.out Tryz.underlying28 rfl (qaD _ _ _ _ _) ?_)
  refine (C1.out _ HQ.out).mono ?_
  rintro ee W2 ⟨rfl,bk⟩;replace HG:=hid (qaa bk (qab HG.out) HG.out);replace HQ:=hid (HC.out.step _ _ HQ.out bk);replace hb:=hb.trans (bk.mono hb.size);clear bk
  go_wp2_with (with_reducible refine wpList_load_row rfl 28 _ rfl w.heap.size rfl 28 _ (0,0) _ HG.out Tryz.underlying28 rfl (qaD _ _ _ _ _) ?_)
  refine (R1.out _).mono ?_
  rintro ee W3 ⟨rfl,bk⟩;replace HG:=hid (qaa bk (qab HG.out) HG.out);replace HQ:=hid (HC.out.step _ _ HQ.out bk);replace hb:=hb.trans (bk.mono hb.size);clear bk
  go_wp2_with fail
  refine (HA.out _ HQ.out).mono ?_
  rintro ee W4 ⟨rfl,bk⟩;replace HG:=hid (qaa bk (qab HG.out) HG.out);replace HQ:=hid (HC.out.step _ _ HQ.out bk);replace hb:=hb.trans (bk.mono hb.size);clear bk
  go_wp2_with fail
  go_ret
  exact ⟨rfl,hb⟩
 ·have hf':fewC b f=false:=by simpa using hfew
  rw [hf'] at CF;clear a0 a1 d0 d1 e0 e1 C R hfew hf'
  go_enter Tryz.func4,Tryz.ntmps4
  go_wp2_with (with_reducible refine wpList_load_row rfl 28 _ rfl w.heap.size rfl 28 _ (0,0) _ HG.out Tryz.underlying28 rfl (qaD _ _ _ _ _) ?_)
  generalize (w.alloc _)=W0 at *
  refine (CF.out _).mono ?_
  rintro ee W1 ⟨rfl,bk⟩;replace HG:=hid (qaa bk (qab HG.out) HG.out);replace HQ:=hid (HC.out.step _ _ HQ.out bk);replace hb:=hb.trans (bk.mono hb.size);clear bk
  go_wp2_with fail
  refine (HA.out _ HQ.out).mono ?_
  rintro ee W2 ⟨rfl,bk⟩;replace HG:=hid (qaa bk (qab HG.out) HG.out);replace HQ:=hid (HC.out.step _ _ HQ.out bk);replace hb:=hb.trans (bk.mono hb.size);clear bk
  go_wp2_with fail
  go_ret
  exact ⟨rfl,hb⟩
end
end Go.Proofs.YteomfleofeeofaaGreatDoor
