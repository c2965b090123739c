/- From the row's condition on its seven variables to what the walks of times ask. -/
import Derived.Test.YteomfleofeeofaaGreatDoorCpA
import Derived.LaidMore
import Derived.Stop.Joined
import Derived.Lib.LaidTab
namespace Go.Proofs.YteomfleofeeofaaGreatDoor
set_option maxRecDepth 100000
set_option linter.unusedSimpArgs false
set_option linter.unusedVariables false
section
open Go.ChangeShapes Go.WideShapes Go.ChangeAt Go.WideMaps Go.WideElems Go.RowKit
def laid7:List (String×DataW Unit):=[("math/bits.deBruijn32tab",Rows.laid_math_bits_deBruijn32tab),("math/bits.deBruijn64tab",Rows.laid_math_bits_deBruijn64tab),("internal/strconv.uint64pow10",Rows.laid_internal_strconv_uint64pow10),("cresset/field.prime",Rows.laid_cresset_field_prime),("cresset/scalar.order",Rows.laid_cresset_scalar_order),("cresset/sha.initialValues",Rows.laid_cresset_sha_initialValues),("cresset/sha.roundConstants",Rows.laid_cresset_sha_roundConstants)]
theorem own7:ownKnob Tryz.prog.godebug=none:=by kernel_rfl
theorem g4W:Tryz.prog.globalNamed "internal/strconv.uint64pow10"=some 4:=by kernel_rfl
theorem t4W:(Tryz.prog.globals[4]?).map (·.type)=some 215:=by kernel_rfl
theorem door_met7(os:Os)(z0:Array Value):laidMetH Tryz.prog laid7 ((World.doorLaid Tryz.prog 400 os).forCall (fun _ _=>0) ⟨#[],z0,[]⟩).memory:=
 laidMetH_of_parts3 (fuel:=8) (laidMet_of_run' 8 (by kernel_rfl) (by kernel_rfl)) (by kernel_rfl) (by kernel_rfl)
theorem of_laidW{W:World}(h:laidMetH Tryz.prog laid7 W):PowQ W:=by
 rw[MakeChecks.laidMetH_plain _ _ _ (by kernel_rfl)]at h;obtain⟨ps,⟨gA,tA,csA,fA,pA,qA,hgA,htA,hvA,hdA,⟨gB,tB,csB,fB,pB,qB,hgB,htB,hvB,hdB,⟨gW,tW,z0,fW,pW,qW,z2,z3,z4,z1,⟨g0,t0,cs0,f0,p0,q0,hg0,ht0,hv0,hd0,⟨g1,t1,cs1,f1,p1,q1,hg1,ht1,hv1,hd1,⟨g2,t2,cs2,f2,p2,q2,hg2,ht2,hv2,hd2,⟨g3,t3,cs3,f3,p3,q3,hg3,ht3,hv3,hd3,_,_⟩,_⟩,_⟩,_⟩,_⟩,_⟩,_⟩,_,_⟩:=h;obtain rfl:=Option.some.inj (g4W.symm.trans z2);obtain rfl:=Option.some.inj (t4W.symm.trans z3);have eW:z0.toList=Lib.pow10Tab.map fun z=>Value.int .u64 z:=Lib.cells_of_tab (n:=20) Tryz.underlying215 Tryz.underlying57 (by kernel_rfl) (by kernel_rfl) z1;show W.var? Tryz.prog "internal/strconv.uint64pow10"=_
 rw[z4];congr 1;apply Array.toList_inj.1;rw[eW]
end
end Go.Proofs.YteomfleofeeofaaGreatDoor
