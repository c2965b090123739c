/- Signatures of the document on texts. -/
import Derived.Test.YteomfleofeeofaaGreatDoorShaP
import Derived.Test.YteomfleofeeofaaGreatDoorScaA
import Derived.Test.YteomfleofeeofaaGreatDoorPtA
namespace Go.Proofs.YteomfleofeeofaaGreatDoor
set_option maxRecDepth 100000
set_option linter.unusedSimpArgs false
set_option linter.unusedVariables false
def digT(s:ByteArray):ByteArray:=⟨(qdl kf hf s.data.toList).toArray⟩
theorem digT_size(s:ByteArray):(digT s).size=64:=qgx _ _ _
def clamp12(l:List UInt8):List UInt8:=(l.set 0 (l.getD 0 0 &&& 248)).set 31 (l.getD 31 0 &&& 127 ||| 64)
theorem clamp12_length(l:List UInt8):(clamp12 l).length=l.length:=by simp[clamp12]
def sclT(s:ByteArray):ByteArray:=⟨(clamp12 ((qdl kf hf s.data.toList).take 32)).toArray⟩
theorem sclT_size(s:ByteArray):(sclT s).size=32:=by
 show (clamp12 _).length=32;rw[clamp12_length,List.length_take,qgx]
 rfl
def saltT(s:ByteArray):ByteArray:=(digT s).extract 32 64
def timT(n:ByteArray):ByteArray:=txtP (qbB baseP n)
theorem timT_size(n:ByteArray):(timT n).size=32:=txtP_size _
def pubT(s:ByteArray):ByteArray:=timT (sclT s)
theorem pubT_size(s:ByteArray):(pubT s).size=32:=txtP_size _
def wdT(s:ByteArray):ByteArray:=qdF (digT s)
theorem wdT_eq(s:ByteArray):wdT s=txtN (nV (digT s).data.toList%lF):=by rw[wdT,qdF,if_pos (digT_size s)]
theorem wdT_size(s:ByteArray):(wdT s).size=32:=by rw[wdT_eq];exact txtN_size _
def rT(s t:ByteArray):ByteArray:=wdT (saltT s++t)
def kT(a p t:ByteArray):ByteArray:=wdT (a++p++t)
def sgnT(s t:ByteArray):ByteArray:=timT (rT s t)++maX (kT (timT (rT s t)) (pubT s) t) (sclT s) (rT s t)
def pubX(s:ByteArray):ByteArray:=if s.size=32 then pubT s else ⟨#[]⟩
def sgnX(s t:ByteArray):ByteArray:=if s.size=32 then sgnT s t else ⟨#[]⟩
def seedE(s:ByteArray):Int:=if s.size=32 then 0 else 21
def verP(p t g:ByteArray):PtN:=sumP (qbB baseP (g.extract 32 64)) (negP (qbB (ofPT p) (kT (g.extract 0 32) p t)))
theorem verP_ok(p t g:ByteArray):(verP p t g).Ok:=qfc _ _
def verE(p t g:ByteArray):Int:=
 if ofET p=0 then (if g.size=64∧okR (g.extract 32 64)=true then (if (txtP (verP p t g)).toList==(g.extract 0 32).toList then 0 else 22) else 22) else 21
theorem ver_cats(p t g:ByteArray)(hp:p.size=32)(hg:g.size=64)(ht:t.size≤1000000):(g.extract 0 32).size+p.size≤9223372036854775807∧(g.extract 0 32).size+p.size+t.size≤9223372036854775807∧min 32 g.size+p.size≤9223372036854775807∧min 32 g.size+p.size+t.size≤9223372036854775807:=by
 rw[ByteArray.size_extract,hp,hg];omega
end Go.Proofs.YteomfleofeeofaaGreatDoor
