/- CertBack: for every certificate of texts of up to 200 bytes and every seed of 32 bytes what was made is read, or the signature is refused, and with a byte more, or another first byte, it is no certificate; longer texts are passed over; the chapter's examples hold. No condition; the prime of package field, the order of package scalar, the two tables of package sha and the library's three tables lie as the program's text lays them. -/
import Derived.Test.YteomfleofeeofaaGreatDoorCards
import Derived.Test.YteomfleofeeofaaGreatDoorTie
import Derived.SevenTiedAt
import Derived.Test.YteomfleofeeofaaGreatDoorCpCtC
import Derived.Test.YteomfleofeeofaaGreatDoorCertBackOf
import Derived.Test.YteomfleofeeofaaGreatDoorCtOpen
namespace Go.Proofs.YteomfleofeeofaaGreatDoor
set_option maxRecDepth 100000
set_option linter.unusedSimpArgs false
set_option linter.unusedVariables false
open Go.ChangeShapes Go.WideShapes Go.ChangeAt Go.WideMaps Go.WideElems Go.RowKit
open Go.ChangeMaps (open_string shut_string)
theorem certBack_any (sr:Int) (b:ByteArray) (d e:Int) (f:ByteArray) (seed:ByteArray) (y:Int) (w:World) (w0:(Lit.int .i64 sr).wf=true) (_:b.size≤maxLen) (w2:(Lit.int .i64 d).wf=true) (w3:(Lit.int .i64 e).wf=true) (_:f.size≤maxLen) (_:seed.size≤maxLen) (vy:(Lit.int .u8 y).wf=true) (hT:CerQ w) :
  Calls Tryz.prog 7 #[.agg (cRow sr b d e f),.string seed,.int .u8 y] w fun e w'=>e=.returned (.bool true)∧Below w.heap.size w w':=by
 obtain ⟨bn,hbn,rfl⟩:∃ bn:Nat,bn<256∧y=(bn:Int):=by
  simp [Lit.wf,IntKind.min,IntKind.max,IntKind.signed,IntKind.bits] at vy
  exact ⟨y.toNat,by omega,by omega⟩
 exact certBack_of ctCalls sr (bounds_i64 w0).1 (bounds_i64 w0).2 b d (bounds_i64 w2).1 (bounds_i64 w2).2 e (bounds_i64 w3).1 (bounds_i64 w3).2 f seed bn hbn w hT
theorem certBack_lifted (os:Os) (started:os.Started) (H:Type) (enc:TypeId×Value→H) :
  ReturnsInHanded {} Tryz.checked os 7 .any (fun w args=>(Rows.certBackSpec.pre enc Tryz.prog Tryz.f7 [] false w args∧laidMetH Tryz.prog laid7 w)∧sizedMet enc Tryz.prog Tryz.f7 (OpenSpec.ofChange Rows.certBackSpec) false w args)
   (Rows.certBackSpec.post enc Tryz.prog Tryz.f7 false true false false):=by
 refine returnsInHanded_of_change_and (C:=Tryz.checked) (X:=fun w _=>laidMetH Tryz.prog laid7 w) (fun _ _ _ hh h=>h.of_heap hh) own7 started (by kernel_rfl) Tryz.func7
  (ChangeSpec.witness_shaped (enc:=enc) (C:=Tryz.checked) (os:=os) (X:=fun w _=>laidMetH Tryz.prog laid7 w) false (World.doorLaid Tryz.prog 400 os) #[.agg (cRow 0 ⟨#[]⟩ 0 0 ⟨#[]⟩),.string ⟨#[]⟩,.int .u8 0] 8 rfl (World.shaped_of_RefB (by kernel_rfl) (by kernel_rfl)) (by kernel_rfl) (by kernel_rfl) (by kernel_rfl) (door_met7 os _)) ?_
 intro W base args ds gs before hval0 hW _ _ hL _;have hval:∀ (j:Nat) t v,Tryz.f7.params[j]?=some t→args[j]?=some v→Value.okWide Tryz.prog W .any base t v:=hval0;have hW':=hW;obtain ⟨p,q,hA0,hV,rfl,hfz,hnd⟩:=hW
 have hA:DataW.TrodAll enc Tryz.prog W 0 (fun _=>true) true Tryz.f7.params.toList args.toList ds p:=hA0
 rw [Tryz.params7] at hA hval;obtain ⟨v0,v1,v2,d0,d1,d2,p0,p1,p2,rfl,rfl,rfl,h0,h1,h2⟩:=trodAll_three hA;obtain ⟨rfl,rfl⟩:=trodVars_none hV;obtain ⟨sr,b,d,e,f,rfl,rfl,rfl,u0,u1,u2,u3,u4⟩:=open_cert (hval 0 28 v0 rfl rfl) h0;obtain ⟨s1,rfl,rfl,rfl,w1⟩:=open_string Tryz.underlying9 (hval 1 9 v1 rfl rfl) h1;obtain ⟨s2,rfl,rfl,rfl,w2⟩:=open_int Tryz.underlying5 (hval 2 5 v2 rfl rfl) h2;have hT:=of_laid7 hL;clear hA0 hval0
 simp only [List.append_nil] at hW'
 refine (certBack_any sr b d e f s1 s2 W u0 u1 u2 u3 u4 w1 w2 hT).mono fun e W' ⟨he,hb⟩=>?_
 subst he
 refine ⟨_,rfl,_,_,_,[],[],[],hW',?_,?_,rfl,hb.frame _,fun h=>by cases h⟩
 ·exact trodAll_mk1 (shut_bool Tryz.underlying4 _)
 ·exact trodAll_mk3 (shut_cert u0 u1 u2 u3 u4) (shut_string Tryz.underlying9 w1) (shut_int Tryz.underlying5 w2)
theorem certBack_holds:Rows.CertBackSaid:=
 OpenClaim.holds_of_wide 7 Tryz.f7 rfl rfl rfl rfl rfl rfl rfl ⟨rfl,rfl,rfl,rfl,rfl⟩ rfl rfl rfl rfl rfl (by kernel_rfl) Tryz.func7 (by kernel_rfl)
  (of_decide_eq_true (by kernel_rfl)) (by unfold Func.isWrapper;first | (rw [if_pos (by decide +kernel)];kernel_rfl) | (rw [if_neg (by decide +kernel)];exact ⟨rfl,rfl⟩))
  (fun os started H enc _=>certBack_lifted os started H enc)
theorem certBack_card:Rows.CertBackCardSaid:=
 Claim7.holds_tied_plain_at .later [] [.data,.data,.data,.data,.wider,.data,.data] true (true, "1174da3ad372fa4917b5909d65d4b34432786eb3e50052eae43ce2e87ffcd1cd") false
  certBack_holds (fun _ h=>by cases h) (by kernel_rfl) (fun _ h=>by cases h) certBack_row_tie rfl ⟨rfl,rfl⟩ (by kernel_rfl) rfl
  (fun f fn hf hfn=>by
   obtain rfl:f=7:=Option.some.inj ((show Tryz.prog.funcNamed "cresset/cressetlaw14.CertBack"=some 7 by kernel_rfl).symm.trans hf) |>.symm
   obtain rfl:fn=Tryz.f7:=(Option.some.inj (Tryz.func7.symm.trans hfn)).symm
   exact ⟨by kernel_rfl,fun j t ht=>by
    rw [Tryz.params7] at ht
    have hm:t ∈ [28, 9, 5]:=by simpa using Array.mem_of_getElem? ht
    have hall:([28, 9, 5].all fun u=>!Tryz.prog.wantsStandIn u)=true:=by kernel_rfl
    exact (show Tryz.prog.wantsStandIn t=false by simpa using List.all_eq_true.1 hall t hm)⟩)
  (by kernel_rfl)
#print axioms certBack_card
end Go.Proofs.YteomfleofeeofaaGreatDoor
