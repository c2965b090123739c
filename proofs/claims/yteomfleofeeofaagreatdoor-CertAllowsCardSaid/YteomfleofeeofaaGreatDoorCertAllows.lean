/- CertAllows: for all bytes of up to 2000, every time and up to 100 fingerprints the program's answer is the reference's; longer bytes and more fingerprints are passed over; the chapter's examples hold. No condition; the prime of package field, the order of package scalar, the two tables of package sha and the library's three tables lie as the program's text lays them. -/
import Derived.Test.YteomfleofeeofaaGreatDoorCards
import Derived.Test.YteomfleofeeofaaGreatDoorTie
import Derived.SevenTiedAt
import Derived.Test.YteomfleofeeofaaGreatDoorCpRf
import Derived.Test.YteomfleofeeofaaGreatDoorCpCtC
import Derived.Test.YteomfleofeeofaaGreatDoorCertAllowsOf
import Derived.Test.YteomfleofeeofaaGreatDoorCtOpen
import Derived.SliceStrings
import Derived.Carry
namespace Go.Proofs.YteomfleofeeofaaGreatDoor
open Go.Proofs.Tryz
set_option maxRecDepth 100000
set_option linter.unusedSimpArgs false
set_option linter.unusedVariables false
open Go.ChangeShapes Go.WideShapes Go.ChangeAt Go.WideMaps Go.WideElems Go.RowKit
open Go.ChangeMaps (open_string shut_string)
theorem certAllows_any(s:ByteArray)(z0:Int)(ao:Option Addr)(ln cp:Nat)(ss:List ByteArray)(hl:ss.length=ln)(z1:ln≤cp)(w:World)(_:s.size≤maxLen)(v0:(Lit.int .i64 z0).wf=true)(hI:StrsAt w ao ss)(hT:CerQ w):Calls Tryz.prog 6 #[.string s,.int .i64 z0,.slice ao ln cp] w fun e w'=>e=.returned (.bool true)∧Below w.heap.size w w':=
 certAllows_of ctR ctAl s z0 (bounds_i64 v0).1 (bounds_i64 v0).2 ao ln cp ss hl z1 w hT hI
theorem certAllows_laidOut:laidOutB Tryz.prog=true:=by kernel_rfl
theorem certAllows_lifted(os:Os)(z1:os.Started)(H:Type)(enc:TypeId×Value→H):ReturnsInHanded {} Tryz.checked os 6 .any (fun w z0=>(Rows.certAllowsSpec.pre enc Tryz.prog f6 [] false w z0∧laidMetH Tryz.prog laid7 w)∧sizedMet enc Tryz.prog f6 (OpenSpec.ofChange Rows.certAllowsSpec) false w z0)
   (Rows.certAllowsSpec.post enc Tryz.prog f6 false true false false):=by
 refine returnsInHanded_of_change_and (C:=Tryz.checked) (X:=fun w _=>laidMetH Tryz.prog laid7 w) (fun _ _ _ hh h=>h.of_heap hh) own7 z1 (by kernel_rfl) func6
  (ChangeSpec.witness_shaped (enc:=enc) (C:=Tryz.checked) (os:=os) (X:=fun w _=>laidMetH Tryz.prog laid7 w) false (World.doorLaid Tryz.prog 400 os) #[.string ⟨#[]⟩,.int .i64 0,.slice none 0 0] 8 rfl (World.shaped_of_RefB (by kernel_rfl) (by kernel_rfl)) (by kernel_rfl) (by kernel_rfl) (by kernel_rfl) (door_met7 os _)) ?_
 intro W base z0 ds gs before z3 hW _ _ hL _;have hval:∀ (j:Nat) t v,f6.params[j]?=some t→z0[j]?=some v→Value.okWide Tryz.prog W .any base t v:=z3;have z6:=hW;obtain⟨p,q,zb,hV,rfl,hfz,hnd⟩:=hW;have hA:DataW.TrodAll enc Tryz.prog W 0 (fun _=>true) true f6.params.toList z0.toList ds p:=zb;rw[params6]at hA hval;obtain⟨v0,v1,v2,d0,d1,d2,p0,p1,p2,rfl,rfl,rfl,h0,h1,h2⟩:=trodAll_three hA;obtain⟨rfl,rfl⟩:=trodVars_none hV;obtain⟨s0,rfl,rfl,rfl,w0⟩:=open_string underlying9 (hval 0 9 v0 rfl rfl) h0;obtain⟨s1,rfl,rfl,rfl,w1⟩:=open_int underlying3 (hval 1 3 v1 rfl rfl) h1;obtain⟨a0,len,za,rfl⟩:=okWide_slice underlying36 (hval 2 36 v2 rfl rfl);have zc:=h2;obtain⟨fuel,hf⟩:=h2;have hT:CerQ W:=of_laid7 hL;clear zb z3;simp only[List.append_nil,List.nil_append]at z6;have zf:∀ x ∈ p2,x.block<W.heap.size:=fun x hx=>by simpa using z6.lt x (by simpa using hx)
 obtain⟨ss,hl,ze,hI⟩:∃ ss:List ByteArray,ss.length=len∧len≤za∧StrsAt W a0 ss:=by
  rcases open_strings underlying36 underlying9 (by kernel_rfl) hf with⟨z4,hx⟩|⟨a,len',cap',ss,z4,_,hl,hm,hz,hx,z2,hws⟩
  ·simp[Value.cells]at z4;obtain⟨rfl,rfl,rfl⟩:=z4;exact⟨[],rfl,jlr _,StrsAt.nil _ _⟩
  ·simp[Value.cells]at z4;obtain⟨rfl,rfl,rfl⟩:=z4;simp only[if_true]at hz;refine⟨ss.take len,by rw[List.length_take];omega,by omega,fun j hj=>?_⟩;rw[List.length_take]at hj;obtain⟨g,z8,z9⟩:=a;have z5:z9=none:=by simpa[Addr.add]using World.cell?_spot (z2 0 (by omega))
   subst z5;have hc:=z2 j (by omega);have z7:(⟨g,z8,none⟩:Addr).add j=⟨g,z8+j,none⟩:=by unfold Addr.add;split<;>simp_all
   rw[z7]at hc;have zd:j<ss.length:=by omega
   refine⟨g,z8,rfl,?_⟩;rw[hc,List.getD_eq_getElem?_getD,List.getD_eq_getElem?_getD,List.getElem?_take,if_pos (by omega),List.getElem?_eq_getElem zd]
   rfl
 refine (certAllows_any s0 s1 a0 len za ss hl ze W w0 w1 hI hT).mono fun e W' ⟨he,hb⟩=>?_;subst he;refine⟨_,rfl,_,_,_,[],[]++[]++p2,[],z6,?_,?_,rfl,hb.frame _,fun h=>by cases h⟩
 ·exact trodAll_mk1 (shut_bool underlying4 _)
 ·exact trodAll_mk3 (shut_string underlying9 w0) (shut_int underlying3 w1) (Below.trod certAllows_laidOut (by kernel_rfl) (of_decide_eq_true (by kernel_rfl)) zc hb zf)
theorem certAllows_holds:Rows.CertAllowsSaid:=
 OpenClaim.holds_of_wide 6 f6 rfl rfl rfl rfl rfl rfl rfl ⟨rfl,rfl,rfl,rfl,rfl⟩ rfl rfl rfl rfl rfl (by kernel_rfl) func6 (by kernel_rfl)
  (of_decide_eq_true (by kernel_rfl)) (by unfold Func.isWrapper;first|(rw[if_pos (by decide +kernel)];kernel_rfl)|(rw[if_neg (by decide +kernel)];exact⟨rfl,rfl⟩))
  (fun os z0 H enc _=>certAllows_lifted os z0 H enc)
theorem certAllows_card:Rows.CertAllowsCardSaid:=
 Claim7.holds_tied_plain_at .later [] [.data,.data,.data,.data,.wider,.data,.data] true (true, "1174da3ad372fa4917b5909d65d4b34432786eb3e50052eae43ce2e87ffcd1cd") false
  certAllows_holds (fun _ h=>by cases h) (by kernel_rfl) (fun _ h=>by cases h) certAllows_row_tie rfl ⟨rfl,rfl⟩ (by kernel_rfl) rfl
  (fun f fn hf z1=>by
   obtain rfl:f=6:=Option.some.inj ((show Tryz.prog.funcNamed "cresset/cressetlaw14.CertAllows"=some 6 by kernel_rfl).symm.trans hf) |>.symm
   obtain rfl:fn=f6:=(Option.some.inj (func6.symm.trans z1)).symm;exact⟨by kernel_rfl,fun j t ht=>by
    rw[params6]at ht;have hm:t ∈ [9, 3, 36]:=by simpa using Array.mem_of_getElem? ht
    have z0:([9, 3, 36].all fun u=>!Tryz.prog.wantsStandIn u)=true:=by kernel_rfl
    exact (show Tryz.prog.wantsStandIn t=false by simpa using List.all_eq_true.1 z0 t hm)⟩)
  (by kernel_rfl)
#print axioms certAllows_card
end Go.Proofs.YteomfleofeeofaaGreatDoor
