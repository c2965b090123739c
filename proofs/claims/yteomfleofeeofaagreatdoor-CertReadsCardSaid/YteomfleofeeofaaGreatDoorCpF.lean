/- Signatures and digests of the document as functions. -/
import Derived.Test.YteomfleofeeofaaGreatDoorCpTmC
import Derived.Test.YteomfleofeeofaaGreatDoorCtLaid
import Derived.Test.YteomfleofeeofaaGreatDoorSgSpec
namespace Go.Proofs.YteomfleofeeofaaGreatDoor
set_option maxRecDepth 100000
set_option linter.unusedSimpArgs false
set_option linter.unusedVariables false
section
open Go.RowKit Go.Sort
def ctSum(s:ByteArray):ByteArray:=⟨(qd3 kf hf s.data.toList).toArray⟩
theorem ctSum_size(s:ByteArray):(ctSum s).size=32:=sha256L_length _ _ _
theorem pubX_size(s:ByteArray)(h:s.size=32):(pubX s).size=32:=by rw[pubX,if_pos h];exact pubT_size s
theorem sgnX_size(s t:ByteArray)(h:s.size=32):(sgnX s t).size=64:=by
 have hm:maX (kT (timT (rT s t)) (pubT s) t) (sclT s) (rT s t)=txtN ((nV (kT (timT (rT s t)) (pubT s) t).data.toList*nV (sclT s).data.toList+nV (rT s t).data.toList)%lF):=by rw[maX,if_pos ⟨wdT_size _,sclT_size s,wdT_size _⟩]
 rw[sgnX,if_pos h,sgnT,ByteArray.size_append,timT_size,hm,txtN_size]
def ctF:SignF:=⟨pubX,sgnX,verE,ctSum,pubX_size,sgnX_size,ctSum_size⟩
theorem ctTmC:TmCalls CerQ where
 step:=fun w w' h hb=>h.step hb
 time:=fun n w h0 h1 q=>ctTm.time n w h0 h1 q.2
 rd0:=fun w q=>ctTm.rd0 w q.2
end
end Go.Proofs.YteomfleofeeofaaGreatDoor
