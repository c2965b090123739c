/- Signatures of the document on texts: the scalar and the salt of a seed, the public key, a signature, whether it is one. No program. -/
import Derived.Test.YteomfleofeeofaaGreatDoorShaP
import Derived.Test.YteomfleofeeofaaGreatDoorScaA
import Derived.Test.YteomfleofeeofaaGreatDoorPtA
namespace Go.Proofs.YteomfleofeeofaaGreatDoor
set_option maxRecDepth 100000
set_option linter.unusedSimpArgs false
set_option linter.unusedVariables false
def digT (s:ByteArray):ByteArray:=⟨(qck kf hf s.data.toList).toArray⟩
theorem qfu (s:ByteArray):(digT s).size=64:=qfQ _ _ _
def qbJ (l:List UInt8):List UInt8:=(l.set 0 (l.getD 0 0 &&& 248)).set 31 (l.getD 31 0 &&& 127 ||| 64)
theorem qet (l:List UInt8):(qbJ l).length=l.length:=by simp [qbJ]
def sclT (s:ByteArray):ByteArray:=⟨(qbJ ((qck kf hf s.data.toList).take 32)).toArray⟩
theorem sclT_size (s:ByteArray):(sclT s).size=32:=by
 show (qbJ _).length=32
 rw [qet,List.length_take,qfQ]
 rfl
def qbR (s:ByteArray):ByteArray:=(digT s).extract 32 64
theorem qf7 (s:ByteArray):(qbR s).size=32:=by rw [qbR,ByteArray.size_extract,qfu];rfl
def timT (n:ByteArray):ByteArray:=txtP (qb8 baseP n)
theorem qfv (n:ByteArray):(timT n).size=32:=txtP_size _
def pubT (s:ByteArray):ByteArray:=timT (sclT s)
theorem qfw (s:ByteArray):(pubT s).size=32:=txtP_size _
def wdT (s:ByteArray):ByteArray:=qc5 (digT s)
theorem wdT_eq (s:ByteArray):wdT s=txtN (nV (digT s).data.toList%lF):=by rw [wdT,qc5,if_pos (qfu s)]
theorem wdT_size (s:ByteArray):(wdT s).size=32:=by rw [wdT_eq];exact txtN_size _
def rT (s t:ByteArray):ByteArray:=wdT (qbR s++t)
def kT (a p t:ByteArray):ByteArray:=wdT (a++p++t)
def sgnT (s t:ByteArray):ByteArray:=timT (rT s t)++maX (kT (timT (rT s t)) (pubT s) t) (sclT s) (rT s t)
def pubX (s:ByteArray):ByteArray:=if s.size=32 then pubT s else ⟨#[]⟩
def sgnX (s t:ByteArray):ByteArray:=if s.size=32 then sgnT s t else ⟨#[]⟩
def qdh (s:ByteArray):Int:=if s.size=32 then 0 else 21
def verP (p t g:ByteArray):PtN:=sumP (qb8 baseP (g.extract 32 64)) (negP (qb8 (ofPT p) (kT (g.extract 0 32) p t)))
def verE (p t g:ByteArray):Int:=
 if ofET p=0 then (if g.size=64∧okR (g.extract 32 64)=true then (if (txtP (verP p t g)).toList==(g.extract 0 32).toList then 0 else 22) else 22) else 21
theorem sgn_cats (s t:ByteArray) (ht:t.size≤1000000):(qbR s).size+t.size≤9223372036854775807∧(timT (rT s t)).size+(pubT s).size≤9223372036854775807∧(timT (rT s t)).size+(pubT s).size+t.size≤9223372036854775807∧(timT (rT s t)).size+(maX (kT (timT (rT s t)) (pubT s) t) (sclT s) (rT s t)).size≤9223372036854775807:=by
 have hm:maX (kT (timT (rT s t)) (pubT s) t) (sclT s) (rT s t)=txtN ((nV (kT (timT (rT s t)) (pubT s) t).data.toList*nV (sclT s).data.toList+nV (rT s t).data.toList)%lF):=by rw [maX,if_pos ⟨wdT_size _,sclT_size s,wdT_size _⟩]
 rw [hm,txtN_size,qf7,qfv,qfw]
 omega
end Go.Proofs.YteomfleofeeofaaGreatDoor
