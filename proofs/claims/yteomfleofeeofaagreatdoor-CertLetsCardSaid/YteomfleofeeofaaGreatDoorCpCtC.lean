/- The calls of package cert that the laws ask for. -/
import Derived.Test.YteomfleofeeofaaGreatDoorCpMkC
import Derived.Test.YteomfleofeeofaaGreatDoorCpB
import Derived.Test.YteomfleofeeofaaGreatDoorSgVer
namespace Go.Proofs.YteomfleofeeofaaGreatDoor
set_option maxRecDepth 100000
set_option linter.unusedSimpArgs false
set_option linter.unusedVariables false
section
open Go.RowKit Go.Sort
theorem ctSum_any (s:ByteArray) (w:World) (hs:s.size≤1000000) (q:CerQ w):Calls Tryz.prog 42 #[.string s] w fun e w'=>e=.returned (.string (ctF.sum s))∧Below w.heap.size w w':=
 sum256_any kf hf s w q.1.1 q.1.2.1 (by omega)
theorem ctRead_any (s:ByteArray) (w:World) (q:CerQ w):Calls Tryz.prog 16 #[.string s] w fun ee w'=>ee=.returned (.tuple #[.agg (cerL (reC ctF s)),.int .i64 (reE ctF s)])∧Below w.heap.size w w':=
 pread_any (fun w w' h hb=>CerQ.step h hb) (fun w h=>h.2) ctF s w q (fun hok W qW=>by
  obtain ⟨⟨⟨sr,b,d,e,f⟩,sg⟩,hp⟩:∃ p,parT s=p:=⟨_,rfl⟩;have hbo:=qe8 s;rw [hp] at hbo ⊢;obtain ⟨hr,hk,hg,hw⟩:=(ok_iff s _ sg hbo.1 hbo.2.1).2 ⟨hok,hp⟩;have hnm:b.size≤32:=(qd0 _ (qca _ hr).2.1).2;have hin:=(qcd ⟨sr,b,d,e,f⟩).2.2.2.2.2.2;have hk':f.size=32:=hk
  simp only at hin
  exact pverify_any f (innB ⟨sr,b,d,e,f⟩) sg W (by omega) qW.1)
theorem ctPrint_any (s:ByteArray) (w:World) (hs:s.size≤1000000) (q:CerQ w):Calls Tryz.prog 18 #[.string s] w fun ee w'=>ee=.returned (.string (ctF.sum s))∧Below w.heap.size w w':=pPrint_any ctF ctSum_any s w hs q
theorem ctCalls:CtCalls ctF CerQ where
 tm:=ctTmC
 mkd:=ctMk
 step:=fun w w' h hb=>h.step hb
 read:=ctRead_any
 print:=ctPrint_any
 allow:=fun s now ao n c ss w hs h0 h1 hn hm hc hI q=>pallow_any (fun w w' h hb=>CerQ.step h hb) ctF s now ao n c ss w hn hm hI q (fun W qW=>ctRead_any s W qW) (fun W qW=>ctPrint_any s W hs qW)
 pub:=fun s w q=>ctSignP.pub s w q
end
end Go.Proofs.YteomfleofeeofaaGreatDoor
