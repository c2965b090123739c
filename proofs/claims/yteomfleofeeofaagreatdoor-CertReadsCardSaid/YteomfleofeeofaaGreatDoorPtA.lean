/- The points of the document on numbers. -/
import Derived.Test.YteomfleofeeofaaGreatDoorByteN
import Derived.Lib.Strings
namespace Go.Proofs.YteomfleofeeofaaGreatDoor
set_option maxRecDepth 100000
set_option linter.unusedSimpArgs false
set_option linter.unusedVariables false
section
structure PtN where
 x:Nat
 y:Nat
 z:Nat
 t:Nat
def PtN.Ok(p:PtN):Prop:=p.x<pF∧p.y<pF∧p.z<pF∧p.t<pF
def zeroP:PtN:=⟨0,1,1,0⟩
theorem qf5:zeroP.Ok:=⟨by decide,by decide,by decide,by decide⟩
def facF:Nat:=mulF (qcT (-121665)) (invF 121666)
theorem facF_lt:facF<pF:=qaT _ _
def twoF:Nat:=mulF facF 2
theorem twoF_lt:twoF<pF:=qaT _ _
def sumA(p q:PtN):Nat:=mulF (subF p.y p.x) (subF q.y q.x)
def sumB(p q:PtN):Nat:=mulF (addF p.y p.x) (addF q.y q.x)
def sumC(p q:PtN):Nat:=mulF (mulF p.t twoF) q.t
def sumM(p q:PtN):Nat:=mulF (addF p.z p.z) q.z
def sumP(p q:PtN):PtN:=⟨mulF (subF (sumB p q) (sumA p q)) (subF (sumM p q) (sumC p q)),mulF (addF (sumM p q) (sumC p q)) (addF (sumB p q) (sumA p q)),mulF (subF (sumM p q) (sumC p q)) (addF (sumM p q) (sumC p q)),mulF (subF (sumB p q) (sumA p q)) (addF (sumB p q) (sumA p q))⟩
theorem qfc(p q:PtN):(sumP p q).Ok:=⟨qaT _ _,qaT _ _,qaT _ _,qaT _ _⟩
def negP(p:PtN):PtN:=⟨subF 0 p.x,p.y,p.z,subF 0 p.t⟩
theorem negP_ok(p:PtN)(h:p.Ok):(negP p).Ok:=⟨qbt _ _,h.2.1,h.2.2.1,qbt _ _⟩
def encP(p:PtN):Nat:=mulF p.y (invF p.z)+mulF p.x (invF p.z)%2*57896044618658097711785492504343953926634992332820282019728792003956564819968
def bytP(p:PtN):List UInt8:=leF (encP p) 32
theorem bytP_length(p:PtN):(bytP p).length=32:=qbb _ _
def bitP(l:List UInt8)(i:Nat):Nat:=(l.getD (i/8) 0).toNat/2^(i%8)%2
theorem bitP_two(l:List UInt8)(i:Nat):bitP l i=0∨bitP l i=1:=by unfold bitP;omega
def mulP(p:PtN)(l:List UInt8):Nat→PtN
 | 0=>zeroP
 | m+1=>if bitP l (255-m)=1 then sumP (sumP (mulP p l m) (mulP p l m)) p else sumP (mulP p l m) (mulP p l m)
theorem mulP_ok(p:PtN)(l:List UInt8):∀ m,(mulP p l m).Ok
 | 0=>qf5
 | m+1=>by
  rw[mulP];split
  ·exact qfc _ _
  ·exact qfc _ _
def lowL(l:List UInt8):List UInt8:=l.take 31++[UInt8.ofNat ((l.getD 31 0).toNat%128)]
def lowP(l:List UInt8):Nat:=nV (lowL l)
theorem lowL_length(l:List UInt8)(h:l.length=32):(lowL l).length=32:=by simp[lowL,h]
def oddP(l:List UInt8):Bool:=decide (128≤(l.getD 31 0).toNat)
def sqrP(y:Nat):Nat:=mulF (subF (mulF y y) 1) (invF (addF (mulF facF (mulF y y)) 1))
def isP(l:List UInt8):Bool:=decide (lowP l<pF)&&(qbj (sqrP (lowP l))).2&&!(oddP l&&decide ((qbj (sqrP (lowP l))).1=0))
def xP(l:List UInt8):Nat:=if oddP l then subF 0 (qbj (sqrP (lowP l))).1 else (qbj (sqrP (lowP l))).1
theorem xP_lt(l:List UInt8):xP l<pF:=by
 unfold xP;split
 ·exact qbt _ _
 ·exact rootF_lt _
def ofP(l:List UInt8):PtN:=if isP l then ⟨xP l,lowP l,1,mulF (xP l) (lowP l)⟩ else zeroP
def ofE(l:List UInt8):Int:=if isP l then 0 else 21
theorem ofP_ok(l:List UInt8):(ofP l).Ok:=by
 unfold ofP;split
 ·rename_i h;rw[isP,Bool.and_eq_true,Bool.and_eq_true,decide_eq_true_eq]at h;exact⟨xP_lt l,h.1.1,show 1<pF by decide,qaT _ _⟩
 ·exact qf5
def ofPT(s:ByteArray):PtN:=if s.size=32 then ofP s.data.toList else zeroP
def ofET(s:ByteArray):Int:=if s.size=32 then ofE s.data.toList else 1
theorem ofPT_ok(s:ByteArray):(ofPT s).Ok:=by
 unfold ofPT;split
 ·exact ofP_ok _
 ·exact qf5
def qbB(p:PtN)(s:ByteArray):PtN:=if s.size=32 then mulP p s.data.toList 256 else zeroP
def mulET(s:ByteArray):Int:=if s.size=32 then 0 else 1
theorem qe6(p:PtN)(s:ByteArray):(qbB p s).Ok:=by
 unfold qbB;split
 ·exact mulP_ok _ _ _
 ·exact qf5
def txtP(p:PtN):ByteArray:=⟨(bytP p).toArray⟩
theorem txtP_size(p:PtN):(txtP p).size=32:=bytP_length p
def basL:List UInt8:=leF (mulF 4 (invF 5)) 32
def baseP:PtN:=ofP basL
theorem baseP_ok:baseP.Ok:=ofP_ok _
theorem addF_two(a:Nat):addF a a=mulF 2 a:=by rw[addF,mulF,Nat.two_mul]
theorem fac_val:facF=37095705934669439343138083508754565189542113879843219016388785533085940283555:=by
 have h:invF 121666=37095705934669439343138083508754565189542113879843219016388785533085940283556:=by
  rw[invF,powF_reckoned _ _ (by decide)];decide +kernel
 rw[facF,h];decide +kernel
theorem ofET_ok(s:ByteArray)(h:ofET s=0):s.size=32∧isP s.data.toList=true:=by
 unfold ofET at h;by_cases hs:s.size=32
 ·rw[if_pos hs,ofE]at h;refine⟨hs,?_⟩
  cases hi:isP s.data.toList
  ·rw[hi]at h;exact absurd h (by decide)
  ·rfl
 ·rw[if_neg hs]at h;exact absurd h (by decide)
end
end Go.Proofs.YteomfleofeeofaaGreatDoor
