/- The calls of package cert that the laws ask for. -/
import Derived.Test.YteomfleofeeofaaGreatDoorCpF
import Derived.Test.YteomfleofeeofaaGreatDoorSgVer
namespace Go.Proofs.YteomfleofeeofaaGreatDoor
set_option maxRecDepth 100000
set_option linter.unusedSimpArgs false
set_option linter.unusedVariables false
section
open Go.RowKit Go.Sort
theorem ctSum_any(s:ByteArray)(w:World)(hs:s.size≤1000000)(q:CerQ w):Calls Tryz.prog 42 #[.string s] w fun e w'=>e=.returned (.string (ctF.sum s))∧Below w.heap.size w w':=
 sum256_any kf hf s w q.1.1 q.1.2.1 (by omega)
theorem ctRead_any(s:ByteArray)(w:World)(q:CerQ w):Calls Tryz.prog 16 #[.string s] w fun ee w'=>ee=.returned (.tuple #[.agg (cerL (reC ctF s)),.int .i64 (reE ctF s)])∧Below w.heap.size w w':=
 pread_any (fun w w' h hb=>CerQ.step h hb) (fun w h=>h.2) ctF s w q (fun z2 W qW=>by
  obtain⟨⟨⟨sr,b,d,e,f⟩,sg⟩,hp⟩:∃ p,parT s=p:=⟨_,rfl⟩;have z0:=qgM s;rw[hp]at z0 ⊢;obtain⟨hr,hk,hg,hw⟩:=(ok_iff s _ sg z0.1 z0.2.1).2 ⟨z2,hp⟩;have hnm:b.size≤32:=(isNm_size _ (qfZ _ hr).2.1).2;have z1:=(qdt ⟨sr,b,d,e,f⟩).2.2.2.2.2.2;have hk':f.size=32:=hk;simp only at z1;exact pverify_any f (innB ⟨sr,b,d,e,f⟩) sg W (by omega) qW.1)
theorem ctPrint_any(s:ByteArray)(w:World)(hs:s.size≤1000000)(q:CerQ w):Calls Tryz.prog 18 #[.string s] w fun ee w'=>ee=.returned (.string (ctF.sum s))∧Below w.heap.size w w':=pPrint_any ctF ctSum_any s w hs q
theorem ctRd:RdCalls ctF CerQ where
 tm:=ctTmC
 step:=fun w w' h hb=>h.step hb
 read:=ctRead_any
 print:=ctPrint_any
theorem ctAl:AlCalls ctF CerQ where
 tm:=ctTmC
 step:=fun w w' h hb=>h.step hb
 allow:=fun s z0 ao n c ss w hs h0 h1 hn hm hc hI q=>pallow_any (fun w w' h hb=>CerQ.step h hb) ctF s z0 ao n c ss w hn hm hI q (fun W qW=>ctRead_any s W qW) (fun W qW=>ctPrint_any s W hs qW)
end
end Go.Proofs.YteomfleofeeofaaGreatDoor
