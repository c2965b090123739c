/- Texts and bytes. -/
import Derived.Test.YteomfleofeeofaaGreatDoorBase
import Derived.Laws.BitsAllLaws
namespace Go.Proofs.YteomfleofeeofaaGreatDoor
open Go.Proofs.Tryz
set_option maxRecDepth 100000
set_option linter.unusedSimpArgs false
set_option linter.unusedVariables false
section
open Go.RowKit Go.Sort
theorem qgG(s:ByteArray)(w:World):∃ z2,(convert 9 41 (.string s)).run Tryz.prog w=.ok (.slice (some ⟨w.heap.size,0,none⟩) s.size z2) (Lib.bytesWorld w 5 s)∧OwnS (Lib.bytesWorld w 5 s) w.heap.size w.heap.size z2 (Lib.byteCells s.data.toList)∧Below w.heap.size w (Lib.bytesWorld w 5 s):=by
 have hl:(Lib.byteCells s.data.toList).length=s.size:=by rw[Lib.byteCells_length,← Lib.size_eq]
 have hge:=grownCap_ge w s.size 0 5;have hsz:(Lib.bytesCells w 5 s).size=grownCap w s.size 0 5:=by
  simp only[Lib.bytesCells,Array.size_append,Array.size_map,Array.size_replicate];have:s.data.size=s.size:=rfl;omega
 have z1:=Lib.bytesWorld_at_new w 5 s;refine⟨_,Lib.run_convert_string_bytes w 9 41 5 s underlying9 underlying41 underlying5,⟨jlr _,by omega,?_,?_⟩,?_⟩
 ·intro j u hj;have z3:j<s.size:=by rw[← hl];exact (List.getElem?_eq_some_iff.1 hj).1
  rw[Lib.bytesWorld_cell w 5 s j z3];have z0:j<s.data.toList.length:=by rw[← Lib.size_eq];exact z3
  simp only[Lib.byteCells,List.getElem?_map,List.getElem?_eq_getElem z0,Option.map_some]at hj;rw[List.getD_eq_getElem?_getD,List.getElem?_eq_getElem z0];exact hj
 ·intro j hj;constructor
  ·rw[jco _ _ _ _ _ _ z1];have:j<(Lib.bytesCells w 5 s).size:=by omega
   simp[this]
  ·have:j<(Lib.bytesCells w 5 s).size:=by omega
   simp[World.frozen?,z1];omega
 ·exact⟨rfl,rfl,rfl,by rw[Lib.bytesWorld_size];omega,fun k hk=>Lib.bytesWorld_at_old w 5 s k hk⟩
theorem OwnS.stays{W W':World}{base g z0:Nat}{xs:List Value}(h:OwnS W base g z0 xs)(hb:Below W.heap.size W W'):OwnS W' base g z0 xs:=by
 refine⟨h.base,h.le,fun j u hj=>?_,fun j hj=>?_⟩
 ·have:=h.cells j u hj;exact (hb.cell (jbc this)).trans this
 ·obtain⟨u,hu⟩:=Option.isSome_iff_exists.1 (h.room j hj).1;have z1:=jbc hu;rw[hb.cell (p:=⟨g,j,none⟩) z1,hb.frozen (p:=⟨g,j,none⟩) z1];exact h.room j hj
theorem qdp{W:World}{base g z0:Nat}{l:List UInt8}(h:OwnS W base g z0 (Lib.byteCells l))(j:Nat)(hj:j<l.length):W.cell? ⟨g,j,none⟩=some (.int .u8 ((l.getD j 0).toNat:Int))∧W.frozen? ⟨g,j,none⟩=false:=by
 have hl:j<(Lib.byteCells l).length:=by rw[Lib.byteCells_length];exact hj
 exact⟨h.cells j _ (by simp[Lib.byteCells,List.getElem?_eq_getElem hj,List.getD_eq_getElem?_getD]),(h.room j (jl3 hl h.le)).2⟩
theorem qdQ{W:World}{base g z0:Nat}{l:List UInt8}(h:OwnS W base g z0 (Lib.byteCells l))(j:Nat)(hj:j<l.length)(x:UInt8):OwnS (W.setCell ⟨g,j,none⟩ (.int .u8 (x.toNat:Int))) base g z0 (Lib.byteCells (l.set j x)):=by
 have hl:j<(Lib.byteCells l).length:=by rw[Lib.byteCells_length];exact hj
 have:=h.put j hl (.int .u8 (x.toNat:Int));rwa[Lib.byteCells,← List.map_set (f:=fun x:UInt8=>Value.int .u8 (x.toNat:Int))]at this
theorem qel(w:World)(g z0 z2 n:Nat)(l:List UInt8)(hl:l.length=n)(h:∀ j x,l[j]?=some x→w.cell? ⟨g,z0+j,none⟩=some (.int .u8 x.toNat)):(convert 41 9 (.slice (some ⟨g,z0,none⟩) n z2)).run Tryz.prog w=.ok (.string ⟨l.toArray⟩) w:=by
 subst hl;have z3:(loadCells ⟨g,z0,none⟩ l.length).run Tryz.prog w=.ok (qa0 l) w:=by
  have:=run_loadCells_list (P:=Tryz.prog) w ⟨g,z0,none⟩ (Lib.byteCells l) (fun j v hv=>by
   have z1:(⟨g,z0,none⟩:Addr).add j=⟨g,z0+j,none⟩:=by unfold Addr.add;split<;>simp_all
   rw[z1];simp only[Lib.byteCells,List.getElem?_map,Option.map_eq_some_iff]at hv;obtain⟨x,hx,rfl⟩:=hv;exact h j x hx)
  rwa[Lib.byteCells_length]at this
 rw[run_convert_bytes_string w 41 9 5 _ _ _ underlying41 underlying5 underlying9,
  run_bytesToString w ⟨g,z0,none⟩ l.length z2 (l.map fun b=>(b.toNat:Int)) (by rw[z3];simp[qa0,Lib.byteCells]),pushes]
 simp
theorem qcW{w:World}{base g z0 n:Nat}{l:List UInt8}(h:OwnS w base g z0 (Lib.byteCells l))(hl:l.length=n)(c:Nat):(convert 41 9 (.slice (some ⟨g,0,none⟩) n c)).run Tryz.prog w=.ok (.string ⟨l.toArray⟩) w:=
 qel w g 0 c n l hl fun j x hx=>by
  rw[Nat.zero_add];exact h.cells j _ (by simp[Lib.byteCells,hx])
theorem text_row(W:World)(g n c:Nat)(l:List UInt8)(hl:l.length=n)(h:W.heap[g]?=some (.cells (qa0 l) 5)):(convert 41 9 (.slice (some ⟨g,0,none⟩) n c)).run Tryz.prog W=.ok (.string ⟨l.toArray⟩) W:=by
 have z0:=qbf W g c l (qb0 h);rw[hl]at z0;exact z0
theorem byte_and(x y:UInt8):bits .and .u8 (x.toNat:Int) (y.toNat:Int)=((x &&& y).toNat:Int):=by
 show IntKind.u8.wrap ((BitVec.ofInt 8 (x.toNat:Int) &&& BitVec.ofInt 8 (y.toNat:Int)).toNat:Nat)=_;have hx:BitVec.ofInt 8 (x.toNat:Int)=x.toBitVec:=by apply BitVec.eq_of_toNat_eq;simp
 have hy:BitVec.ofInt 8 (y.toNat:Int)=y.toBitVec:=by apply BitVec.eq_of_toNat_eq;simp
 rw[hx,hy];have h:=(x &&& y).toNat_lt;have e:(x.toBitVec &&& y.toBitVec).toNat=(x &&& y).toNat:=rfl;rw[e,IntKind.wrap_u8];omega
section
variable {P : Program} {ops : Array Oper} {md : Region.Mode}
theorem put_comm(a:Act)(d e:Tmp)(x y:Value)(h:d≠e):(a.put (some d) x).put (some e) y=(a.put (some e) y).put (some d) x:=by
 simp only[Act.put];congr 1;exact Array.setIfInBounds_comm _ _ h
end
end
end Go.Proofs.YteomfleofeeofaaGreatDoor
