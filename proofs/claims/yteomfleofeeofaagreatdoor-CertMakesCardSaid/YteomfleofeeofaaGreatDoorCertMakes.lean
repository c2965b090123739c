/- CertMakes: for every certificate of texts of up to 200 bytes and every seed the program's certificate, and its error, are the reference's; longer texts are passed over; the chapter's examples hold. No condition; the prime of package field, the order of package scalar, the two tables of package sha and the library's three tables lie as the program's text lays them. -/
import Derived.Test.YteomfleofeeofaaGreatDoorCards
import Derived.Test.YteomfleofeeofaaGreatDoorTie
import Derived.SevenTiedAt
import Derived.Test.YteomfleofeeofaaGreatDoorCpRfM
import Derived.Test.YteomfleofeeofaaGreatDoorCtLaid
import Derived.Test.YteomfleofeeofaaGreatDoorCertMakesOf
import Derived.Test.YteomfleofeeofaaGreatDoorCtOpen
namespace Go.Proofs.YteomfleofeeofaaGreatDoor
set_option maxRecDepth 100000
set_option linter.unusedSimpArgs false
set_option linter.unusedVariables false
open Go.ChangeShapes Go.WideShapes Go.ChangeAt Go.WideMaps Go.WideElems Go.RowKit
open Go.ChangeMaps (open_string shut_string)
theorem certMakes_any (sr:Int) (b:ByteArray) (d e:Int) (f:ByteArray) (seed:ByteArray) (w:World) (w0:(Lit.int .i64 sr).wf=true) (_:b.size≤maxLen) (w2:(Lit.int .i64 d).wf=true) (w3:(Lit.int .i64 e).wf=true) (_:f.size≤maxLen) (_:seed.size≤maxLen) (hT:CerQ w) :
  Calls Tryz.prog 4 #[.agg (cRow sr b d e f),.string seed] w fun e w'=>e=.returned (.bool true)∧Below w.heap.size w w':=
 certMakes_of ctRM ctMk sr (bounds_i64 w0).1 (bounds_i64 w0).2 b d (bounds_i64 w2).1 (bounds_i64 w2).2 e (bounds_i64 w3).1 (bounds_i64 w3).2 f seed w hT
theorem certMakes_lifted (os:Os) (started:os.Started) (H:Type) (enc:TypeId×Value→H) :
  ReturnsInHanded {} Tryz.checked os 4 .any (fun w args=>(Rows.certMakesSpec.pre enc Tryz.prog Tryz.f4 [] false w args∧laidMetH Tryz.prog laid7 w)∧sizedMet enc Tryz.prog Tryz.f4 (OpenSpec.ofChange Rows.certMakesSpec) false w args)
   (Rows.certMakesSpec.post enc Tryz.prog Tryz.f4 false true false false):=by
 refine returnsInHanded_of_change_and (C:=Tryz.checked) (X:=fun w _=>laidMetH Tryz.prog laid7 w) (fun _ _ _ hh h=>h.of_heap hh) own7 started (by kernel_rfl) Tryz.func4
  (ChangeSpec.witness_shaped (enc:=enc) (C:=Tryz.checked) (os:=os) (X:=fun w _=>laidMetH Tryz.prog laid7 w) false (World.doorLaid Tryz.prog 400 os) #[.agg (cRow 0 ⟨#[]⟩ 0 0 ⟨#[]⟩),.string ⟨#[]⟩] 8 rfl (World.shaped_of_RefB (by kernel_rfl) (by kernel_rfl)) (by kernel_rfl) (by kernel_rfl) (by kernel_rfl) (door_met7 os _)) ?_
 intro W base args ds gs before hval0 hW _ _ hL _;have hval:∀ (j:Nat) t v,Tryz.f4.params[j]?=some t→args[j]?=some v→Value.okWide Tryz.prog W .any base t v:=hval0;have hW':=hW;obtain ⟨p,q,hA0,hV,rfl,hfz,hnd⟩:=hW
 have hA:DataW.TrodAll enc Tryz.prog W 0 (fun _=>true) true Tryz.f4.params.toList args.toList ds p:=hA0
 rw [Tryz.params4] at hA hval;obtain ⟨v0,v1,d0,d1,p0,p1,rfl,rfl,rfl,h0,h1⟩:=trodAll_two hA;obtain ⟨rfl,rfl⟩:=trodVars_none hV;obtain ⟨sr,b,d,e,f,rfl,rfl,rfl,u0,u1,u2,u3,u4⟩:=open_cert (hval 0 28 v0 rfl rfl) h0;obtain ⟨s1,rfl,rfl,rfl,w1⟩:=open_string Tryz.underlying9 (hval 1 9 v1 rfl rfl) h1;have hT:=of_laid7 hL;clear hA0 hval0
 simp only [List.append_nil] at hW'
 refine (certMakes_any sr b d e f s1 W u0 u1 u2 u3 u4 w1 hT).mono fun e W' ⟨he,hb⟩=>?_
 subst he
 refine ⟨_,rfl,_,_,_,[],[],[],hW',?_,?_,rfl,hb.frame _,fun h=>by cases h⟩
 ·exact trodAll_mk1 (shut_bool Tryz.underlying4 _)
 ·exact trodAll_mk2 (shut_cert u0 u1 u2 u3 u4) (shut_string Tryz.underlying9 w1)
theorem certMakes_holds:Rows.CertMakesSaid:=
 OpenClaim.holds_of_wide 4 Tryz.f4 rfl rfl rfl rfl rfl rfl rfl ⟨rfl,rfl,rfl,rfl,rfl⟩ rfl rfl rfl rfl rfl (by kernel_rfl) Tryz.func4 (by kernel_rfl)
  (of_decide_eq_true (by kernel_rfl)) (by unfold Func.isWrapper;first | (rw [if_pos (by decide +kernel)];kernel_rfl) | (rw [if_neg (by decide +kernel)];exact ⟨rfl,rfl⟩))
  (fun os started H enc _=>certMakes_lifted os started H enc)
theorem certMakes_card:Rows.CertMakesCardSaid:=
 Claim7.holds_tied_plain_at .later [] [.data,.data,.data,.data,.wider,.data,.data] true (true, "1174da3ad372fa4917b5909d65d4b34432786eb3e50052eae43ce2e87ffcd1cd") false
  certMakes_holds (fun _ h=>by cases h) (by kernel_rfl) (fun _ h=>by cases h) certMakes_row_tie rfl ⟨rfl,rfl⟩ (by kernel_rfl) rfl
  (fun f fn hf hfn=>by
   obtain rfl:f=4:=Option.some.inj ((show Tryz.prog.funcNamed "cresset/cressetlaw14.CertMakes"=some 4 by kernel_rfl).symm.trans hf) |>.symm
   obtain rfl:fn=Tryz.f4:=(Option.some.inj (Tryz.func4.symm.trans hfn)).symm
   exact ⟨by kernel_rfl,fun j t ht=>by
    rw [Tryz.params4] at ht
    have hm:t ∈ [28, 9]:=by simpa using Array.mem_of_getElem? ht
    have hall:([28, 9].all fun u=>!Tryz.prog.wantsStandIn u)=true:=by kernel_rfl
    exact (show Tryz.prog.wantsStandIn t=false by simpa using List.all_eq_true.1 hall t hm)⟩)
  (by kernel_rfl)
#print axioms certMakes_card
end Go.Proofs.YteomfleofeeofaaGreatDoor
