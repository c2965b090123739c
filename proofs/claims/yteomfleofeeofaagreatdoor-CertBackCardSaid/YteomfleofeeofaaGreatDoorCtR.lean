/- Times: the reference's isTime, leap, month, digits, Time; Times: the reference's Time; Names, and which time a text says: the reference's isName, at; Parts of certificates: the reference's thing, algorithm, named, whole, in; The inner part of a certificate, and whether its fields are right: the reference's right, inner; What bytes say, as far as it can be told: the reference's parts; The reference's Make and Print, over whatever the reference's signatures and digests are; The reference's Read, over whatever the reference's signatures are; The reference's Allow, over whatever the reference's signatures and digests are. -/
import Derived.Test.YteomfleofeeofaaGreatDoorCtA
import Derived.Test.YteomfleofeeofaaGreatDoorDerS
namespace Go.Proofs.YteomfleofeeofaaGreatDoor
set_option maxRecDepth 100000
set_option linter.unusedSimpArgs false
set_option linter.unusedVariables false
section
open Go.RowKit Go.Sort
end
section
open Go.RowKit Go.Sort
end
section
open Go.RowKit Go.Sort
theorem all_bytes (l:List UInt8) (p:UInt8→Bool) (q:Nat→Prop) (hpq:∀ x:UInt8,p x=true↔q x.toNat):l.all p=true↔∀ i,i<l.length→q (rdB l i):=by
 rw [List.all_eq_true]
 constructor
 ·intro h i hi
  rw [rdB,List.getD_eq_getElem?_getD,List.getElem?_eq_getElem hi,Option.getD_some];exact (hpq _).1 (h _ (List.getElem_mem hi))
 ·intro h x hx
  obtain ⟨i,hi,rfl⟩:=List.mem_iff_getElem.1 hx
  have:=h i hi
  rw [rdB,List.getD_eq_getElem?_getD,List.getElem?_eq_getElem hi,Option.getD_some] at this;exact (hpq _).2 this
theorem nm_all (s:ByteArray):(s.data.toList.all fun x=>decide (32≤x.toNat)&&decide (x.toNat≤126))=true↔∀ i,i<s.size→32≤rdB s.data.toList i∧rdB s.data.toList i≤126:=by
 rw [all_bytes s.data.toList _ (fun b=>32≤b∧b≤126) (fun x=>by simp),← Lib.size_eq]
theorem isNm_bad (s:ByteArray) (k:Nat) (hk:k<s.size) (h:¬ (32≤rdB s.data.toList k∧rdB s.data.toList k≤126)):isNm s=false:=by
 rw [isNm]
 cases e:(s.data.toList.all fun x=>decide (32≤x.toNat)&&decide (x.toNat≤126)) with
 | false=>rw [Bool.and_false]
 | true=>exact absurd ((nm_all s).1 e k hk) h
theorem isNm_good (s:ByteArray) (h:∀ i,i<s.size→32≤rdB s.data.toList i∧rdB s.data.toList i≤126):isNm s=(decide (1≤s.size)&&decide (s.size≤32)):=by
 rw [isNm,(nm_all s).2 h,Bool.and_true]
end
section
open Go.RowKit Go.Sort
end
section
open Go.RowKit Go.Sort
def cerL (c:CertF):Array Value:=#[.int .i64 c.ser,.string c.nm,.int .i64 c.fr,.int .i64 c.to,.string c.key]
theorem qau {W:World} {g:Nat} {t:TypeId} {sr:Int} {b:ByteArray} {d e:Int} {f:ByteArray} (h:W.heap[g]?=some (.cells #[.int .i64 sr,.string b,.int .i64 d,.int .i64 e,.string f] t)) :
  W.cell? ⟨g,0,none⟩=some (.int .i64 sr)∧W.cell? ⟨g,1,none⟩=some (.string b)∧W.cell? ⟨g,2,none⟩=some (.int .i64 d)∧W.cell? ⟨g,3,none⟩=some (.int .i64 e)∧W.cell? ⟨g,4,none⟩=some (.string f):=by
 refine ⟨?_,?_,?_,?_,?_⟩ <;> (rw [cell_of_row W g _ _ t (0,0) h];rfl)
end
section
open Go.RowKit Go.Sort
def cRow (a:Int) (b:ByteArray) (d e:Int) (f:ByteArray):Array Value:=#[.int .i64 a,.string b,.int .i64 d,.int .i64 e,.string f]
theorem qdI:(Tryz.prog.info? 28).map (fun i=>(i.zero,i.size))=some (some (.agg (cRow 0 ⟨#[]⟩ 0 0 ⟨#[]⟩)),5):=by kernel_rfl
theorem qam (a:Int) (b:ByteArray) (d e:Int) (f:ByteArray):(Tryz.prog.info? 28).map (·.size)=some (cRow a b d e f).size:=by
 have h:=qdI
 cases hq:Tryz.prog.info? 28 with
 | none=>rw [hq] at h;cases h
 | some i=>
  rw [hq] at h
  simp only [Option.map_some,Option.some.injEq,Prod.mk.injEq] at h ⊢
  rw [h.2];rfl
theorem qbd (a:Int) (b:ByteArray) (d e:Int) (f:ByteArray):(cRow a b d e f).all (·.oneCell')=true:=by simp [cRow,Value.oneCell']
theorem qbo {P:Program} {fn:Func} {p u:Tmp} {ty:TypeId} (h:fn.results=#[.cell p ty,.tmp u]) (tmps:Array Value) (w:World) (g:Nat) (t:TypeId) (cs:Array Value) (fr:Nat×Nat) (d:TypeDesc)
  (hp:tmps.getD p undef=.pointer (some ⟨g,0,none⟩)) (hg:w.heap[g]?=some (.cells cs t fr)) (hu:P.underlying ty=some d) (hd:(match d with | .struct _ | .array _ _=>true | _=>false)=true) (hi:(P.info? ty).map (·.size)=some cs.size) :
  (results fn tmps).run P w=.ok (.tuple #[.agg cs,tmps.getD u undef]) w:=by
 have e1:=run_loadVar_row w g t ty cs fr d hg hu hd hi
 simp only [results,h]
 simp at hp
 simp [Sem.run_bind,Result.andThen,hp,asAddr,e1]
theorem cell_set {W:World} {g i:Nat} {v:Value} {cs:Array Value} {t:TypeId} (h:W.heap[g]?=some (.cells cs t)):(W.setCell ⟨g,i,none⟩ v).heap[g]?=some (.cells (cs.setIfInBounds i v) t):=Go.heap_setCell_same _ _ _ _ _ _ h
end
section
open Go.RowKit Go.Sort
end
section
open Go.RowKit Go.Sort
theorem cer_row (sr:Int) (b:ByteArray) (d e:Int) (f:ByteArray):cerL ⟨sr,b,d,e,f⟩=cRow sr b d e f:=rfl
theorem cer_none:cerL noC=cRow 0 ⟨#[]⟩ 0 0 ⟨#[]⟩:=rfl
end
section
open Go.RowKit Go.Sort
def StrsAt (W:World) (ao:Option Addr) (ss:List ByteArray):Prop:=∀ j,j<ss.length→∃ g off,ao=some ⟨g,off,none⟩∧W.cell? ⟨g,off+j,none⟩=some (.string (ss.getD j ⟨#[]⟩))
theorem StrsAt.step {W W':World} {ao:Option Addr} {ss:List ByteArray} (h:StrsAt W ao ss) (hb:Below W.heap.size W W'):StrsAt W' ao ss:=fun j hj=>by
 obtain ⟨g,off,ha,hc⟩:=h j hj;exact ⟨g,off,ha,(hb.cell (block_lt_of_cell hc)).trans hc⟩
theorem StrsAt.nil (W:World) (ao:Option Addr):StrsAt W ao []:=fun j hj=>by cases hj
end
end Go.Proofs.YteomfleofeeofaaGreatDoor
