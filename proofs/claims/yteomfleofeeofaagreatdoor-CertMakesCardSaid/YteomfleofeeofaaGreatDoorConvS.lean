/- Texts and bytes: []byte(s) and string(b) where they lie, bytes made, a text's byte and its beginning; bytes and, or, xor. Of no program; A region that draws its order, as XMade; its tail ends in the two components of a call's answer and their assignments, in whatever order. -/
import Derived.Test.YteomfleofeeofaaGreatDoorBase
import Derived.Laws.BitsAllLaws
namespace Go.Proofs.YteomfleofeeofaaGreatDoor
set_option maxRecDepth 100000
set_option linter.unusedSimpArgs false
set_option linter.unusedVariables false
section
open Go.RowKit Go.Sort
theorem qdU (s:ByteArray) (w:World):∃ cap,(convert 9 41 (.string s)).run Tryz.prog w=.ok (.slice (some ⟨w.heap.size,0,none⟩) s.size cap) (Lib.bytesWorld w 5 s)∧OwnS (Lib.bytesWorld w 5 s) w.heap.size w.heap.size cap (Lib.byteCells s.data.toList)∧Below w.heap.size w (Lib.bytesWorld w 5 s):=by
 have hl:(Lib.byteCells s.data.toList).length=s.size:=by rw [Lib.byteCells_length,← Lib.size_eq]
 have hge:=grownCap_ge w s.size 0 5
 have hsz:(Lib.bytesCells w 5 s).size=grownCap w s.size 0 5:=by
  simp only [Lib.bytesCells,Array.size_append,Array.size_map,Array.size_replicate]
  have:s.data.size=s.size:=rfl
  omega
 have hnew:=Lib.bytesWorld_at_new w 5 s
 refine ⟨_,Lib.run_convert_string_bytes w 9 41 5 s Tryz.underlying9 Tryz.underlying41 Tryz.underlying5,⟨Nat.le_refl _,by omega,?_,?_⟩,?_⟩
 ·intro j u hj
  have hlt:j<s.size:=by rw [← hl];exact (List.getElem?_eq_some_iff.1 hj).1
  rw [Lib.bytesWorld_cell w 5 s j hlt]
  have hlt':j<s.data.toList.length:=by rw [← Lib.size_eq];exact hlt
  simp only [Lib.byteCells,List.getElem?_map,List.getElem?_eq_getElem hlt',Option.map_some] at hj
  rw [List.getD_eq_getElem?_getD,List.getElem?_eq_getElem hlt'];exact hj
 ·intro j hj
  constructor
  ·rw [cell_of_row _ _ _ _ _ _ hnew]
   have:j<(Lib.bytesCells w 5 s).size:=by omega
   simp [this]
  ·have:j<(Lib.bytesCells w 5 s).size:=by omega
   simp [World.frozen?,hnew]
   omega
 ·exact ⟨rfl,rfl,rfl,by rw [Lib.bytesWorld_size];omega,fun k hk=>Lib.bytesWorld_at_old w 5 s k hk⟩
theorem OwnS.stays {W W':World} {base g cap:Nat} {xs:List Value} (h:OwnS W base g cap xs) (hb:Below W.heap.size W W'):OwnS W' base g cap xs:=by
 refine ⟨h.base,h.le,fun j u hj=>?_,fun j hj=>?_⟩
 ·have:=h.cells j u hj
  exact (hb.cell (block_lt_of_cell this)).trans this
 ·obtain ⟨u,hu⟩:=Option.isSome_iff_exists.1 (h.room j hj).1
  have hlt:=block_lt_of_cell hu;rw [hb.cell (p:=⟨g,j,none⟩) hlt,hb.frozen (p:=⟨g,j,none⟩) hlt];exact h.room j hj
theorem qca {W:World} {base g cap:Nat} {l:List UInt8} (h:OwnS W base g cap (Lib.byteCells l)) (j:Nat) (hj:j<l.length):W.cell? ⟨g,j,none⟩=some (.int .u8 ((l.getD j 0).toNat:Int))∧W.frozen? ⟨g,j,none⟩=false:=by
 have hl:j<(Lib.byteCells l).length:=by rw [Lib.byteCells_length];exact hj
 exact ⟨h.cells j _ (by simp [Lib.byteCells,List.getElem?_eq_getElem hj,List.getD_eq_getElem?_getD]),(h.room j (Nat.lt_of_lt_of_le hl h.le)).2⟩
theorem qbX {W:World} {base g cap:Nat} {l:List UInt8} (h:OwnS W base g cap (Lib.byteCells l)) (j:Nat) (hj:j<l.length) (x:UInt8):OwnS (W.setCell ⟨g,j,none⟩ (.int .u8 (x.toNat:Int))) base g cap (Lib.byteCells (l.set j x)):=by
 have hl:j<(Lib.byteCells l).length:=by rw [Lib.byteCells_length];exact hj
 have:=h.put j hl (.int .u8 (x.toNat:Int))
 rwa [Lib.byteCells,← List.map_set (f:=fun x:UInt8=>Value.int .u8 (x.toNat:Int))] at this
theorem qdk (w:World) (g off cap n:Nat) (l:List UInt8) (hl:l.length=n) (h:∀ j x,l[j]?=some x→w.cell? ⟨g,off+j,none⟩=some (.int .u8 x.toNat)) :
  (convert 41 9 (.slice (some ⟨g,off,none⟩) n cap)).run Tryz.prog w=.ok (.string ⟨l.toArray⟩) w:=by
 subst hl
 have hld:(loadCells ⟨g,off,none⟩ l.length).run Tryz.prog w=.ok (qaZ l) w:=by
  have:=run_loadCells_list (P:=Tryz.prog) w ⟨g,off,none⟩ (Lib.byteCells l) (fun j v hv=>by
   have hadd:(⟨g,off,none⟩:Addr).add j=⟨g,off+j,none⟩:=by unfold Addr.add;split <;> simp_all
   rw [hadd]
   simp only [Lib.byteCells,List.getElem?_map,Option.map_eq_some_iff] at hv
   obtain ⟨x,hx,rfl⟩:=hv
   exact h j x hx)
  rwa [Lib.byteCells_length] at this
 rw [run_convert_bytes_string w 41 9 5 _ _ _ Tryz.underlying41 Tryz.underlying5 Tryz.underlying9,
  run_bytesToString w ⟨g,off,none⟩ l.length cap (l.map fun b=>(b.toNat:Int)) (by rw [hld];simp [qaZ,Lib.byteCells]),pushes]
 simp
theorem qcm {w:World} {base g cap n:Nat} {l:List UInt8} (h:OwnS w base g cap (Lib.byteCells l)) (hl:l.length=n) (c:Nat):(convert 41 9 (.slice (some ⟨g,0,none⟩) n c)).run Tryz.prog w=.ok (.string ⟨l.toArray⟩) w:=
 qdk w g 0 c n l hl fun j x hx=>by
  rw [Nat.zero_add]
  exact h.cells j _ (by simp [Lib.byteCells,hx])
theorem text_row (W:World) (g n c:Nat) (l:List UInt8) (hl:l.length=n) (h:W.heap[g]?=some (.cells (qaZ l) 5)):(convert 41 9 (.slice (some ⟨g,0,none⟩) n c)).run Tryz.prog W=.ok (.string ⟨l.toArray⟩) W:=by
 have hcs:=qbl W g c l (qch h);rw [hl] at hcs;exact hcs
theorem byte_and (x y:UInt8):bits .and .u8 (x.toNat:Int) (y.toNat:Int)=((x &&& y).toNat:Int):=by
 show IntKind.u8.wrap ((BitVec.ofInt 8 (x.toNat:Int) &&& BitVec.ofInt 8 (y.toNat:Int)).toNat:Nat)=_
 have hx:BitVec.ofInt 8 (x.toNat:Int)=x.toBitVec:=by apply BitVec.eq_of_toNat_eq;simp
 have hy:BitVec.ofInt 8 (y.toNat:Int)=y.toBitVec:=by apply BitVec.eq_of_toNat_eq;simp
 rw [hx,hy];have h:=(x &&& y).toNat_lt;have e:(x.toBitVec &&& y.toBitVec).toNat=(x &&& y).toNat:=rfl;rw [e,IntKind.wrap_u8]
 omega
theorem byte_ior (x y:UInt8):bits .or .u8 (x.toNat:Int) (y.toNat:Int)=((x ||| y).toNat:Int):=by
 show IntKind.u8.wrap ((BitVec.ofInt 8 (x.toNat:Int) ||| BitVec.ofInt 8 (y.toNat:Int)).toNat:Nat)=_
 have hx:BitVec.ofInt 8 (x.toNat:Int)=x.toBitVec:=by apply BitVec.eq_of_toNat_eq;simp
 have hy:BitVec.ofInt 8 (y.toNat:Int)=y.toBitVec:=by apply BitVec.eq_of_toNat_eq;simp
 rw [hx,hy]
 have h:=(x ||| y).toNat_lt
 have e:(x.toBitVec ||| y.toBitVec).toNat=(x ||| y).toNat:=rfl
 rw [e,IntKind.wrap_u8]
 omega
end
section
open Go.RowKit Go.Sort
section
variable {P : Program} {ops : Array Oper} {md : Region.Mode}
end
end
end Go.Proofs.YteomfleofeeofaaGreatDoor
