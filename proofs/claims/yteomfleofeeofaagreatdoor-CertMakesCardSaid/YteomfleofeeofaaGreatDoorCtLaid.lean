/- From the row's condition on its seven variables to what the walks ask. -/
import Derived.Test.YteomfleofeeofaaGreatDoorSgLaid
import Derived.Test.YteomfleofeeofaaGreatDoorCtLaid0
namespace Go.Proofs.YteomfleofeeofaaGreatDoor
set_option maxRecDepth 100000
set_option linter.unusedSimpArgs false
set_option linter.unusedVariables false
section
open Go.ChangeShapes Go.WideShapes Go.ChangeAt Go.WideMaps Go.WideElems Go.RowKit
def CerQ (w:World):Prop:=SgnQ w∧PowQ w
theorem CerQ.step {w w':World} (h:CerQ w) (hb:Below w.heap.size w w'):CerQ w':=⟨h.1.step hb,h.2.step hb⟩
theorem of_laid7 {W:World} (h:laidMetH Tryz.prog laid7 W):CerQ W:=by
 have h0:=h
 rw [MakeChecks.laidMetH_plain _ _ _ (by kernel_rfl)] at h
 obtain ⟨ps,⟨gA,tA,csA,fA,pA,qA,hgA,htA,hvA,hdA,⟨gB,tB,csB,fB,pB,qB,hgB,htB,hvB,hdB,⟨gW,tW,csW,fW,pW,qW,hgW,htW,hvW,hdW,⟨g0,t0,cs0,f0,p0,q0,hg0,ht0,hv0,hd0,⟨g1,t1,cs1,f1,p1,q1,hg1,ht1,hv1,hd1,⟨g2,t2,cs2,f2,p2,q2,hg2,ht2,hv2,hd2,⟨g3,t3,cs3,f3,p3,q3,hg3,ht3,hv3,hd3,_,_⟩,_⟩,_⟩,_⟩,_⟩,_⟩,_⟩,_,_⟩:=h;clear hgA htA hvA hdA hgB htB hvB hdB;obtain rfl:=Option.some.inj (g4P.symm.trans hg0);obtain rfl:=Option.some.inj (g4O.symm.trans hg1);obtain rfl:=Option.some.inj (g4H.symm.trans hg2);obtain rfl:=Option.some.inj (g4K.symm.trans hg3);obtain rfl:=Option.some.inj (t4P.symm.trans ht0);obtain rfl:=Option.some.inj (t4O.symm.trans ht1);obtain rfl:=Option.some.inj (t4H.symm.trans ht2);obtain rfl:=Option.some.inj (t4K.symm.trans ht3)
 have e0:cs0.toList=([18446744073709551597,18446744073709551615,18446744073709551615,9223372036854775807]:List Int).map fun z=>Value.int .u64 z:=Lib.cells_of_tab (n:=4) Tryz.underlying59 Tryz.underlying57 (by kernel_rfl) (by kernel_rfl) hd0
 have e1:cs1.toList=ordI.map fun z=>Value.int .i64 z:=Lib.cells_of_tab (n:=8) Tryz.underlying113 Tryz.underlying2 (by kernel_rfl) (by kernel_rfl) hd1
 have e2:cs2.toList=hList.map fun z=>Value.int .u64 z:=Lib.cells_of_tab (n:=8) Tryz.underlying175 Tryz.underlying57 (by kernel_rfl) (by kernel_rfl) hd2
 have e3:cs3.toList=kList.map fun z=>Value.int .u64 z:=Lib.cells_of_tab (n:=80) Tryz.underlying197 Tryz.underlying57 (by kernel_rfl) (by kernel_rfl) hd3
 refine ⟨⟨?_,?_,?_,?_⟩,of_laidW h0⟩
 ·intro t ht
  have:=World.var?_cell hg3 hv3 t
  rw [this,← Array.getElem?_toList,e3]
  have hl:t<kList.length:=by simpa [kList] using ht
  simp [kf,hl]
 ·intro t ht
  have:=World.var?_cell hg2 hv2 t
  rw [this,← Array.getElem?_toList,e2]
  have hl:t<hList.length:=by simpa [hList] using ht
  simp [hf,hl]
 ·have e:cs0=uc (limN 4 pF):=by
   apply Array.toList_inj.1
   rw [e0]
   rfl
  simp only [World.var?,g4P,Option.bind_some] at hv0
  split at hv0
  ·rename_i cs T fr hh
   simp only [Option.some.injEq] at hv0
   rw [hv0,e] at hh;exact ⟨T,fr,hh⟩
  ·cases hv0
 ·have e:cs1=ic ordI:=by
   apply Array.toList_inj.1
   rw [e1]
   rfl
  simp only [World.var?,g4O,Option.bind_some] at hv1
  split at hv1
  ·rename_i cs T fr hh
   simp only [Option.some.injEq] at hv1
   rw [hv1,e] at hh;exact ⟨T,fr,hh⟩
  ·cases hv1
end
end Go.Proofs.YteomfleofeeofaaGreatDoor
