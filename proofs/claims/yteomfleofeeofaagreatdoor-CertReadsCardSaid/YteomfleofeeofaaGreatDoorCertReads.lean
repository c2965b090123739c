/- CertReads: for all bytes what the program reads of them, and its error, are the reference's, and their fingerprint (of up to 10000 bytes) is; the chapter's examples hold. No condition; the prime of package field, the order of package scalar, the two tables of package sha and the library's three tables lie as the program's text lays them. -/
import Derived.Test.YteomfleofeeofaaGreatDoorCards
import Derived.Test.YteomfleofeeofaaGreatDoorTie
import Derived.SevenTiedAt
import Derived.Test.YteomfleofeeofaaGreatDoorCpRf
import Derived.Test.YteomfleofeeofaaGreatDoorCpCtC
import Derived.Test.YteomfleofeeofaaGreatDoorCertReadsOf
import Derived.Test.YteomfleofeeofaaGreatDoorCtOpen
namespace Go.Proofs.YteomfleofeeofaaGreatDoor
open Go.Proofs.Tryz
set_option maxRecDepth 100000
set_option linter.unusedSimpArgs false
set_option linter.unusedVariables false
open Go.ChangeShapes Go.WideShapes Go.ChangeAt Go.WideMaps Go.WideElems Go.RowKit
open Go.ChangeMaps (open_string shut_string)
theorem certReads_any(s:ByteArray)(w:World)(_:s.size≤maxLen)(hT:CerQ w):Calls Tryz.prog 5 #[.string s] w fun e w'=>e=.returned (.bool true)∧Below w.heap.size w w':=
 certReads_of ctR ctRd s w hT
theorem certReads_lifted(os:Os)(z1:os.Started)(H:Type)(enc:TypeId×Value→H):ReturnsInHanded {} Tryz.checked os 5 .any (fun w z0=>(Rows.certReadsSpec.pre enc Tryz.prog f5 [] false w z0∧laidMetH Tryz.prog laid7 w)∧sizedMet enc Tryz.prog f5 (OpenSpec.ofChange Rows.certReadsSpec) false w z0)
   (Rows.certReadsSpec.post enc Tryz.prog f5 false true false false):=by
 refine returnsInHanded_of_change_and (C:=Tryz.checked) (X:=fun w _=>laidMetH Tryz.prog laid7 w) (fun _ _ _ hh h=>h.of_heap hh) own7 z1 (by kernel_rfl) func5
  (ChangeSpec.witness_shaped (enc:=enc) (C:=Tryz.checked) (os:=os) (X:=fun w _=>laidMetH Tryz.prog laid7 w) false (World.doorLaid Tryz.prog 400 os) #[.string ⟨#[]⟩] 8 rfl (World.shaped_of_RefB (by kernel_rfl) (by kernel_rfl)) (by kernel_rfl) (by kernel_rfl) (by kernel_rfl) (door_met7 os _)) ?_
 intro W base z0 ds gs before z2 hW _ _ hL _;have hval:∀ (j:Nat) t v,f5.params[j]?=some t→z0[j]?=some v→Value.okWide Tryz.prog W .any base t v:=z2;have z4:=hW;obtain⟨p,q,z3,hV,rfl,hfz,hnd⟩:=hW;have hA:DataW.TrodAll enc Tryz.prog W 0 (fun _=>true) true f5.params.toList z0.toList ds p:=z3;rw[params5]at hA hval;obtain⟨v0,d0,rfl,rfl,h0⟩:=trodAll_one hA;obtain⟨rfl,rfl⟩:=trodVars_none hV;obtain⟨s0,rfl,rfl,rfl,w0⟩:=open_string underlying9 (hval 0 9 v0 rfl rfl) h0;have hT:=of_laid7 hL;clear z3 z2;simp only[List.append_nil]at z4;refine (certReads_any s0 W w0 hT).mono fun e W' ⟨he,hb⟩=>?_;subst he;refine⟨_,rfl,_,_,_,[],[],[],z4,?_,?_,rfl,hb.frame _,fun h=>by cases h⟩
 ·exact trodAll_mk1 (shut_bool underlying4 _)
 ·exact trodAll_mk1 (shut_string underlying9 w0)
theorem certReads_holds:Rows.CertReadsSaid:=
 OpenClaim.holds_of_wide 5 f5 rfl rfl rfl rfl rfl rfl rfl ⟨rfl,rfl,rfl,rfl,rfl⟩ rfl rfl rfl rfl rfl (by kernel_rfl) func5 (by kernel_rfl)
  (of_decide_eq_true (by kernel_rfl)) (by unfold Func.isWrapper;first|(rw[if_pos (by decide +kernel)];kernel_rfl)|(rw[if_neg (by decide +kernel)];exact⟨rfl,rfl⟩))
  (fun os z0 H enc _=>certReads_lifted os z0 H enc)
theorem certReads_card:Rows.CertReadsCardSaid:=
 Claim7.holds_tied_plain_at .later [] [.data,.data,.data,.data,.wider,.data,.data] true (true, "1174da3ad372fa4917b5909d65d4b34432786eb3e50052eae43ce2e87ffcd1cd") false
  certReads_holds (fun _ h=>by cases h) (by kernel_rfl) (fun _ h=>by cases h) certReads_row_tie rfl ⟨rfl,rfl⟩ (by kernel_rfl) rfl
  (fun f fn hf z1=>by
   obtain rfl:f=5:=Option.some.inj ((show Tryz.prog.funcNamed "cresset/cressetlaw14.CertReads"=some 5 by kernel_rfl).symm.trans hf) |>.symm
   obtain rfl:fn=f5:=(Option.some.inj (func5.symm.trans z1)).symm;exact⟨by kernel_rfl,fun j t ht=>by
    rw[params5]at ht;have hm:t ∈ [9]:=by simpa using Array.mem_of_getElem? ht
    have z0:([9].all fun u=>!Tryz.prog.wantsStandIn u)=true:=by kernel_rfl
    exact (show Tryz.prog.wantsStandIn t=false by simpa using List.all_eq_true.1 z0 t hm)⟩)
  (by kernel_rfl)
#print axioms certReads_card
end Go.Proofs.YteomfleofeeofaaGreatDoor
