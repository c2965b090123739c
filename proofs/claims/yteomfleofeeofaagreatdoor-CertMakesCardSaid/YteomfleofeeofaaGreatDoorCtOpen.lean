/- A certificate among a law's parameters: a struct of five cells, opened and shut. -/
import Derived.Test.YteomfleofeeofaaGreatDoorCtR
import Derived.Test.YteomfleofeeofaaGreatDoorRows
import Derived.ProofKit
import Derived.OpenShut
import Derived.Lib.SmallJoins
namespace Go.Proofs.YteomfleofeeofaaGreatDoor
set_option maxRecDepth 100000
set_option linter.unusedSimpArgs false
set_option linter.unusedVariables false
section
open Go.ChangeShapes Go.WideShapes Go.ChangeAt Go.WideMaps Go.WideElems Go.RowKit Go.Joins Go.Deep Go.Maps
section
variable {H : Type} {enc : TypeId × Value → H} {P : Program} {w : World} {base : Nat} {spare : Nat → Bool} {held : Bool}
theorem open_five {r:Reach} {b0:Nat} {t:TypeId} {f0 f1 f2 f3 f4:Field} {v:Value} {d:DataW H} {p:List MemPlace} (hs:P.underlying t=some (.struct #[f0,f1,f2,f3,f4])) (hone:oneCellFields P #[f0,f1,f2,f3,f4]=true) (hC:P.cellsOf t=5)
  (hv:Value.okWide P w r b0 t v) (h:DataW.Trod enc P w base spare held t v d p) :
  ∃ (v0 v1 v2 v3 v4:Value) (y0 y1 y2 y3 y4:DataW H×List MemPlace) (n:Nat),v=.agg #[v0,v1,v2,v3,v4]∧d=.agg [y0.1,y1.1,y2.1,y3.1,y4.1]∧p=y0.2++(y1.2++(y2.2++(y3.2++y4.2)))∧
   DataW.trod enc P w base spare held n f0.type [v0]=some y0∧DataW.trod enc P w base spare held n f1.type [v1]=some y1∧DataW.trod enc P w base spare held n f2.type [v2]=some y2∧DataW.trod enc P w base spare held n f3.type [v3]=some y3∧DataW.trod enc P w base spare held n f4.type [v4]=some y4:=by
 obtain ⟨cs,rfl,hsz⟩:=okWide_struct hs hv
 obtain ⟨v0,v1,v2,v3,v4,rfl⟩:∃ c0 c1 c2 c3 c4,cs=#[c0,c1,c2,c3,c4]:=by
  have h5:=hsz.trans hC;obtain ⟨l⟩:=cs
  match l,h5 with
  | [c0,c1,c2,c3,c4],_=>exact ⟨c0,c1,c2,c3,c4,rfl⟩
 obtain ⟨fuel,hf⟩:=h;obtain ⟨xs,n,_,hx,_,hlen,hff⟩:=DataW.trod_struct hs hf
 match xs,hlen with
 | [y0,y1,y2,y3,y4],_=>
  obtain ⟨o0,k0⟩:=hone_of hone 0 f0 rfl;obtain ⟨o1,k1⟩:=hone_of hone 1 f1 rfl;obtain ⟨o2,k2⟩:=hone_of hone 2 f2 rfl;obtain ⟨o3,k3⟩:=hone_of hone 3 f3 rfl;obtain ⟨o4,k4⟩:=hone_of hone 4 f4 rfl;have h0:=hff 0 f0 rfl;have h1:=hff 1 f1 rfl;have h2:=hff 2 f2 rfl;have h3:=hff 3 f3 rfl;have h4:=hff 4 f4 rfl
  simp only [Prod.mk.injEq] at hx
  exact ⟨v0,v1,v2,v3,v4,y0,y1,y2,y3,y4,n,rfl,by simpa using hx.1,by simpa using hx.2,by simpa [Value.cells,o0,k0] using h0,by simpa [Value.cells,o1,k1] using h1,by simpa [Value.cells,o2,k2] using h2,by simpa [Value.cells,o3,k3] using h3,by simpa [Value.cells,o4,k4] using h4⟩
theorem shut_five {t:TypeId} {f0 f1 f2 f3 f4:Field} {v0 v1 v2 v3 v4:Value} {y0 y1 y2 y3 y4:DataW H×List MemPlace} (hs:P.underlying t=some (.struct #[f0,f1,f2,f3,f4])) (hone:oneCellFields P #[f0,f1,f2,f3,f4]=true) (hC:P.cellsOf t=5)
  (t0:∃ n,DataW.trod enc P w base spare held n f0.type [v0]=some y0) (t1:∃ n,DataW.trod enc P w base spare held n f1.type [v1]=some y1) (t2:∃ n,DataW.trod enc P w base spare held n f2.type [v2]=some y2) (t3:∃ n,DataW.trod enc P w base spare held n f3.type [v3]=some y3) (t4:∃ n,DataW.trod enc P w base spare held n f4.type [v4]=some y4) :
  DataW.Trod enc P w base spare held t (.agg #[v0,v1,v2,v3,v4]) (.agg [y0.1,y1.1,y2.1,y3.1,y4.1]) (y0.2++(y1.2++(y2.2++(y3.2++y4.2)))):=by
 obtain ⟨n0,t0⟩:=t0;obtain ⟨n1,t1⟩:=t1;obtain ⟨n2,t2⟩:=t2;obtain ⟨n3,t3⟩:=t3;obtain ⟨n4,t4⟩:=t4;obtain ⟨o0,k0⟩:=hone_of hone 0 f0 rfl;obtain ⟨o1,k1⟩:=hone_of hone 1 f1 rfl;obtain ⟨o2,k2⟩:=hone_of hone 2 f2 rfl;obtain ⟨o3,k3⟩:=hone_of hone 3 f3 rfl;obtain ⟨o4,k4⟩:=hone_of hone 4 f4 rfl
 have h0:=DataW.trod_le (show n0≤n0+n1+n2+n3+n4 by omega) t0
 have h1:=DataW.trod_le (show n1≤n0+n1+n2+n3+n4 by omega) t1
 have h2:=DataW.trod_le (show n2≤n0+n1+n2+n3+n4 by omega) t2
 have h3:=DataW.trod_le (show n3≤n0+n1+n2+n3+n4 by omega) t3
 have h4:=DataW.trod_le (show n4≤n0+n1+n2+n3+n4 by omega) t4
 have ts:=trod_struct_mk (enc:=enc) (w:=w) (base:=base) (spare:=spare) (held:=held) (n:=n0+n1+n2+n3+n4) (xs:=[y0,y1,y2,y3,y4]) (cs:=[v0,v1,v2,v3,v4]) hs (by simp [hC]) (by simp [o0,k0,o1,k1,o2,k2,o3,k3,o4,k4,h0,h1,h2,h3,h4])
 exact ⟨_,by simpa [Value.cells] using ts⟩
end
section
variable {H : Type} {enc : TypeId × Value → H} {w : World} {base : Nat} {spare : Nat → Bool} {held : Bool}
theorem open_cert {r:Reach} {b0:Nat} {v:Value} {dd:DataW H} {p:List MemPlace} (hv:Value.okWide Tryz.prog w r b0 28 v) (h:DataW.Trod enc Tryz.prog w base spare held 28 v dd p) :
  ∃ (sr:Int) (b:ByteArray) (d e:Int) (f:ByteArray),v=.agg (cRow sr b d e f)∧dd=.agg [.lit (.int .i64 sr),.lit (.string b.data.toList),.lit (.int .i64 d),.lit (.int .i64 e),.lit (.string f.data.toList)]∧p=[]∧
   (Lit.int .i64 sr).wf=true∧b.size≤maxLen∧(Lit.int .i64 d).wf=true∧(Lit.int .i64 e).wf=true∧f.size≤maxLen:=by
 obtain ⟨c0,c1,c2,c3,c4,y0,y1,y2,y3,y4,m,rfl,rfl,rfl,hy0,hy1,hy2,hy3,hy4⟩:=open_five Tryz.underlying28 (by kernel_rfl) (by kernel_rfl) hv h
 obtain ⟨sr,e0,rfl,w0⟩:=DataW.trod_int Tryz.underlying3 hy0;obtain ⟨b,e1,rfl,w1⟩:=DataW.trod_string Tryz.underlying9 hy1;obtain ⟨d,e2,rfl,w2⟩:=DataW.trod_int Tryz.underlying3 hy2;obtain ⟨e,e3,rfl,w3⟩:=DataW.trod_int Tryz.underlying3 hy3;obtain ⟨f,e4,rfl,w4⟩:=DataW.trod_string Tryz.underlying9 hy4
 simp at e0 e1 e2 e3 e4
 subst e0 e1 e2 e3 e4;exact ⟨sr,b,d,e,f,rfl,rfl,rfl,w0,w1,w2,w3,w4⟩
theorem shut_cert {sr:Int} {b:ByteArray} {d e:Int} {f:ByteArray} (w0:(Lit.int .i64 sr).wf=true) (w1:b.size≤maxLen) (w2:(Lit.int .i64 d).wf=true) (w3:(Lit.int .i64 e).wf=true) (w4:f.size≤maxLen) :
  DataW.Trod enc Tryz.prog w base spare held 28 (.agg (cRow sr b d e f)) (.agg [.lit (.int .i64 sr),.lit (.string b.data.toList),.lit (.int .i64 d),.lit (.int .i64 e),.lit (.string f.data.toList)]) []:=
 shut_five (y0:=(.lit (.int .i64 sr),[])) (y1:=(.lit (.string b.data.toList),[])) (y2:=(.lit (.int .i64 d),[])) (y3:=(.lit (.int .i64 e),[])) (y4:=(.lit (.string f.data.toList),[])) Tryz.underlying28 (by kernel_rfl) (by kernel_rfl)
  ⟨1,by simp [DataW.trod,Tryz.underlying3,w0]⟩ ⟨1,by simp [DataW.trod,Tryz.underlying9,w1]⟩ ⟨1,by simp [DataW.trod,Tryz.underlying3,w2]⟩ ⟨1,by simp [DataW.trod,Tryz.underlying3,w3]⟩ ⟨1,by simp [DataW.trod,Tryz.underlying9,w4]⟩
end
end
end Go.Proofs.YteomfleofeeofaaGreatDoor
