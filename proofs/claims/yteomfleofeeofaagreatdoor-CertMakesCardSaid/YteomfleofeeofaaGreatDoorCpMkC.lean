/- Signatures and digests of the document as functions; the calls that the law of made certificates asks for. -/
import Derived.Test.YteomfleofeeofaaGreatDoorCpTmC
import Derived.Test.YteomfleofeeofaaGreatDoorCtLaid
import Derived.Test.YteomfleofeeofaaGreatDoorSgPub
namespace Go.Proofs.YteomfleofeeofaaGreatDoor
set_option maxRecDepth 100000
set_option linter.unusedSimpArgs false
set_option linter.unusedVariables false
section
open Go.RowKit Go.Sort
def ctSum (s:ByteArray):ByteArray:=⟨(sha256L kf hf s.data.toList).toArray⟩
theorem ctSum_size (s:ByteArray):(ctSum s).size=32:=sha256L_length _ _ _
theorem pubX_size (s:ByteArray) (h:s.size=32):(pubX s).size=32:=by rw [pubX,if_pos h];exact qfw s
theorem sgnX_size (s t:ByteArray) (h:s.size=32):(sgnX s t).size=64:=by
 have hm:maX (kT (timT (rT s t)) (pubT s) t) (sclT s) (rT s t)=txtN ((nV (kT (timT (rT s t)) (pubT s) t).data.toList*nV (sclT s).data.toList+nV (rT s t).data.toList)%lF):=by rw [maX,if_pos ⟨wdT_size _,sclT_size s,wdT_size _⟩]
 rw [sgnX,if_pos h,sgnT,ByteArray.size_append,qfv,hm,txtN_size]
def ctF:SignF:=⟨pubX,sgnX,verE,ctSum,pubX_size,sgnX_size,ctSum_size⟩
theorem ctSignP:SignP ctF CerQ where
 step:=fun w w' h hb=>h.step hb
 pow:=fun w h=>h.2
 pub:=fun s w h=>qfM s w h.1
 sgn:=fun s t w ht h=>psign_any s t w ht h.1
theorem ctTmC:TmCalls CerQ where
 step:=fun w w' h hb=>h.step hb
 time:=fun n w h0 h1 q=>ctTm.time n w h0 h1 q.2
 rd0:=fun w q=>ctTm.rd0 w q.2
theorem ctMk:MkCalls ctF CerQ where
 tm:=ctTmC
 step:=fun w w' h hb=>h.step hb
 make:=fun sr b d e f seed w a0 a1 d0 d1 e0 e1 hb hf q=>pmake_any ctF ctSignP sr b d e f seed w a0 a1 d0 d1 e0 e1 hb hf q
end
end Go.Proofs.YteomfleofeeofaaGreatDoor
