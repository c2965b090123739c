/- From the row's condition on its seven variables to what the walks ask. -/
import Derived.Test.YteomfleofeeofaaGreatDoorSgLaid
import Derived.Test.YteomfleofeeofaaGreatDoorCtLaid0
namespace Go.Proofs.YteomfleofeeofaaGreatDoor
open Go.Proofs.Tryz
set_option maxRecDepth 100000
set_option linter.unusedSimpArgs false
set_option linter.unusedVariables false
section
open Go.ChangeShapes Go.WideShapes Go.ChangeAt Go.WideMaps Go.WideElems Go.RowKit
def CerQ(w:World):Prop:=SgnQ w∧PowQ w
theorem CerQ.step{w w':World}(h:CerQ w)(hb:Below w.heap.size w w'):CerQ w':=⟨h.1.step hb,h.2.step hb⟩
theorem of_laid7{W:World}(h:laidMetH Tryz.prog laid7 W):CerQ W:=by
 have h0:=h;rw[MakeChecks.laidMetH_plain _ _ _ (by kernel_rfl)]at h;obtain⟨ps,⟨gA,tA,csA,fA,pA,qA,zg,zm,zq,zc,⟨gB,tB,csB,fB,pB,qB,zh,zn,zr,zd,⟨gW,tW,csW,fW,pW,qW,hgW,htW,hvW,hdW,⟨g0,t0,z2,f0,p0,q0,ze,zi,z0,z8,⟨g1,t1,z3,f1,p1,q1,zf,zj,z1,z9,⟨g2,t2,z6,f2,p2,q2,z4,zk,zo,za,⟨g3,t3,z7,f3,p3,q3,z5,zl,zp,zb,_,_⟩,_⟩,_⟩,_⟩,_⟩,_⟩,_⟩,_,_⟩:=h;clear zg zm zq zc zh zn zr zd;obtain rfl:=Option.some.inj (g4P.symm.trans ze);obtain rfl:=Option.some.inj (g4O.symm.trans zf);obtain rfl:=Option.some.inj (g4H.symm.trans z4);obtain rfl:=Option.some.inj (g4K.symm.trans z5);obtain rfl:=Option.some.inj (t4P.symm.trans zi);obtain rfl:=Option.some.inj (t4O.symm.trans zj);obtain rfl:=Option.some.inj (t4H.symm.trans zk);obtain rfl:=Option.some.inj (t4K.symm.trans zl);have e0:z2.toList=([18446744073709551597,18446744073709551615,18446744073709551615,9223372036854775807]:List Int).map fun z=>Value.int .u64 z:=Lib.cells_of_tab (n:=4) underlying59 underlying57 (by kernel_rfl) (by kernel_rfl) z8;have e1:z3.toList=ordI.map fun z=>Value.int .i64 z:=Lib.cells_of_tab (n:=8) underlying113 underlying2 (by kernel_rfl) (by kernel_rfl) z9;have e2:z6.toList=hList.map fun z=>Value.int .u64 z:=Lib.cells_of_tab (n:=8) underlying175 underlying57 (by kernel_rfl) (by kernel_rfl) za
 have e3:z7.toList=kList.map fun z=>Value.int .u64 z:=Lib.cells_of_tab (n:=80) underlying197 underlying57 (by kernel_rfl) (by kernel_rfl) zb;refine⟨⟨?_,?_,?_,?_⟩,of_laidW h0⟩
 ·intro t ht;have:=World.var?_cell z5 zp t;rw[this,← Array.getElem?_toList,e3];have hl:t<kList.length:=by simpa[kList]using ht
  simp[kf,hl]
 ·intro t ht;have:=World.var?_cell z4 zo t;rw[this,← Array.getElem?_toList,e2];have hl:t<hList.length:=by simpa[hList]using ht
  simp[hf,hl]
 ·have e:z2=uc (limN 4 pF):=by
   apply Array.toList_inj.1;rw[e0]
   rfl
  simp only[World.var?,g4P,Option.bind_some]at z0;split at z0
  ·rename_i cs T fr hh;simp only[Option.some.injEq]at z0;rw[z0,e]at hh;exact⟨T,fr,hh⟩
  ·cases z0
 ·have e:z3=ic ordI:=by
   apply Array.toList_inj.1;rw[e1]
   rfl
  simp only[World.var?,g4O,Option.bind_some]at z1;split at z1
  ·rename_i cs T fr hh;simp only[Option.some.injEq]at z1;rw[z1,e]at hh;exact⟨T,fr,hh⟩
  ·cases z1
end
end Go.Proofs.YteomfleofeeofaaGreatDoor
