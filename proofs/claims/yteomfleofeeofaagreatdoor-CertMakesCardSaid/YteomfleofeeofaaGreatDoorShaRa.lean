/- The reference's small functions: right32, right64, constants, beginnings, and full (data with what stands behind it). The data has at most 2^20 bytes; The reference's full: data with what stands behind it. The data has at most 2^20 bytes; Words of the reference's Sum256, and its loop of rounds; Helpers of the reference's Sum512. -/
import Derived.Test.YteomfleofeeofaaGreatDoorBase
import Derived.Test.YteomfleofeeofaaGreatDoorShaP
import Derived.Great.BuildSlice
import Derived.Test.YteomfleofeeofaaGreatDoorShaB
namespace Go.Proofs.YteomfleofeeofaaGreatDoor
open Go.Lib (hid)
set_option maxRecDepth 100000
set_option linter.unusedSimpArgs false
set_option linter.unusedVariables false
section
open Go.RowKit Go.Sort
theorem qcy (v n:Int) (w:World) (h0:0≤n) (h1:n≤64) :
  Calls Tryz.prog 121 #[.int .u64 v,.int .i64 n] w fun e w'=>e=.returned (.int .u64 (qdY v n))∧Below w.heap.size w w':=by
 go_enter Tryz.func121,Tryz.ntmps121
 go_wp2_with fail
 have e1:IntKind.i64.wrap (64-n)=64-n:=IntWalk.i64_in _ (by omega)
 have e2:(0:Int)≤64-n:=by omega
 go_quiet (fail)
 go_wp2
 go_ret
 refine ⟨?_,below_drewN (Below.refl _ _) _⟩
 simp [qdY]
theorem constants_any (w:World):Calls Tryz.prog 89 #[] w fun e w'=>e=.returned (.slice (some ⟨w.heap.size,0,none⟩) 80 80)∧w.alloc (.cells (kList.map (Value.int .u64)).toArray 57)=w':=by
 go_enter Tryz.func89,Tryz.ntmps89
 go_wp2_with (refine wpList_buildFlat rfl 97 57 80 _ rfl .u64 kList Tryz.underlying97 (by kernel_rfl) (by kernel_rfl) (by kernel_rfl) (by omega) (by omega) (by kernel_rfl) ?_)
 go_ret
 exact ⟨rfl,rfl⟩
theorem beginnings_any (w:World):Calls Tryz.prog 90 #[] w fun e w'=>e=.returned (.slice (some ⟨w.heap.size,0,none⟩) 8 8)∧w.alloc (.cells (hList.map (Value.int .u64)).toArray 57)=w':=by
 go_enter Tryz.func90,Tryz.ntmps90
 go_wp2_with (refine wpList_buildFlat rfl 97 57 8 _ rfl .u64 hList Tryz.underlying97 (by kernel_rfl) (by kernel_rfl) (by kernel_rfl) (by omega) (by omega) (by kernel_rfl) ?_)
 go_ret
 exact ⟨rfl,rfl⟩
end
section
open Go.RowKit Go.Sort
theorem be_take (k x j:Nat) (h:j<k):(be k x).take (j+1)=(be k x).take j++[UInt8.ofNat (x / 256^(k-1-j))]:=by
 induction k generalizing j with
 | zero=>omega
 | succ k ih=>
  cases j with
  | zero=>simp [be]
  | succ j=>
   have:=ih j (by omega)
   simp only [be,List.take_succ_cons,List.cons_append,List.cons.injEq,true_and]
   rw [this,show k+1-1-(j+1)=k-1-j by omega]
theorem byte_shift (n r:Nat):Lib.byteCells [UInt8.ofNat (n*8 / 256^r)]=[.int .u8 ((n:Int)*8 / 2^(8*r)%256)]:=by
 have e:(2:Int)^(8*r)=((256^r:Nat):Int):=by rw [Int.pow_mul];simp
 simp only [Lib.byteCells,List.map_cons,List.map_nil,UInt8.toNat_ofNat',e]
 congr 2
theorem byte_none (n r:Nat) (hn:n≤1048576) (h:8≤r):UInt8.ofNat (n*8 / 256^r)=0:=by
 have h1:256^8≤256^r:=Nat.pow_le_pow_right (by omega) h
 have h2:n*8 / 256^r=0:=Nat.div_eq_of_lt (Nat.lt_of_lt_of_le (by omega:n*8<256^8) h1)
 rw [h2];rfl
theorem snoc3 (a b l:List UInt8) (x:UInt8):Lib.byteCells (a++128 :: (b++l))++Lib.byteCells [x]=Lib.byteCells (a++128 :: (b++(l++[x]))):=by
 simp [Lib.byteCells]
def sliceLen (v:Value):Nat:=match v with | .slice _ n _=>n | _=>0
set_option maxHeartbeats 1000000 in
theorem full128_any (s:ByteArray) (w:World) (hs:s.size≤1048576) :
  Calls Tryz.prog 91 #[.string s,.int .i64 128,.int .i64 16] w fun e w'=>∃ ao cap,e=.returned (.slice ao (s.size+(padL 128 16 s.size).length) cap)∧Own w' w.heap.size (.slice ao (s.size+(padL 128 16 s.size).length) cap) (Lib.byteCells (s.data.toList++padL 128 16 s.size))∧Below w.heap.size w w':=by
 obtain ⟨i0,hi,hz0,hz1,hz2⟩:=info_parts qcz;obtain ⟨ao0,cap0,hcv,hown0,hb0⟩:=qec s w;obtain ⟨z,hz⟩:∃ z,(2*128-(s.size%128+1+16))%128=z:=⟨_,rfl⟩
 have hz64:z<128:=by omega
 have HPL:=hid (show padL 128 16 s.size=128 :: (List.replicate z 0++be 16 (s.size*8)) from by rw [padL,hz])
 have HZ:=hid hz;generalize hBB:w.heap.size=B at *;have HBB:=hid hBB
 have hsz0:B≤(Lib.bytesWorld w 5 s).heap.size:=by rw [← hBB];exact hb0.size
 generalize Lib.bytesWorld w 5 s=W0 at *;have HO0:=hid hown0
 have hl0:(Lib.byteCells s.data.toList).length=s.size:=by rw [Lib.byteCells_length,← Lib.size_eq]
 have HL0:=hid hl0;clear hBB hz hown0 hl0
 go_enter Tryz.func91,Tryz.ntmps91
 go_wp2_with (at_builtin;refine qaI rfl (.tmp 12) (.tmp 13) 41 rfl B 5 i0 (.int .u8 0) 1 Tryz.underlying41 hi hz0 hz1 hz2 rfl ao0 s.size cap0 _ rfl (HO0.out.alloc _) HL0.out ⟨W0.heap.size,0,none⟩ 1 1 [.int .u8 128] rfl rfl (cell_one_new _ _ _) ?c2 ?c3 ?c4 ?c5 ?_)
 case c2=>intro u hu;simp at hu;subst hu;rfl
 case c3=>omega
 case c4=>omega
 case c5=>simp;omega
 intro ao1 cap1 W1 hown1 hgrow1
 have hb1:Below B w W1:=qa9 (hb0.alloc hsz0 _) (by simp;omega) (HO0.out.alloc _) hgrow1
 have hsz1:B≤W1.heap.size:=by have:=hgrow1.size;simp at this;omega
 have e1:Lib.byteCells s.data.toList++[.int .u8 128]=Lib.byteCells (s.data.toList++128 :: List.replicate 0 0):=by rw [Lib.byteCells_append];rfl
 rw [e1] at hown1;have HO1:=hid hown1;clear e1 hown1 hgrow1 HO0 hb0 hcv hsz0
 go_wp2_with fail
 go_loopw [7] (fun v wr=>∃ (q:Nat) (ao:Option Addr) (cap:Nat),q≤z∧v=.slice ao (s.size+1+q) cap∧Own wr B (.slice ao (s.size+1+q) cap) (Lib.byteCells (s.data.toList++128 :: List.replicate q 0))∧Below B w wr∧B≤wr.heap.size) (fun v _=>z+s.size+1-sliceLen v)
 case atStart=>exact ⟨0,ao1,cap1,by omega,rfl,HO1.out,hb1,hsz1⟩
 case round=>
  clear HO1 hb1 hsz1;obtain ⟨q,ao,cap,hq,rfl,hown,hb,hsz⟩:=hrel;have HO:=hid hown;clear hown
  have hl:(Lib.byteCells (s.data.toList++128 :: List.replicate q 0)).length=s.size+1+q:=by rw [Lib.byteCells_length,List.length_append,← Lib.size_eq];simp;omega
  have HL:=hid hl;clear hl;have hzz:=HZ.out
  by_cases hqz:q<z
  ·have hd:(((s.size:Int)+1+(q:Int)+16)%128 != 0)=true:=by rw [bne_iff_ne];omega
   clear hzz
   go_wp2_with (at_builtin;refine qaI rfl (.tmp 22) (.tmp 23) 41 rfl B 5 i0 (.int .u8 0) 1 Tryz.underlying41 hi hz0 hz1 hz2 rfl ao (s.size+1+q) cap _ rfl (HO.out.alloc _) HL.out ⟨wr.heap.size,0,none⟩ 1 1 [.int .u8 0] rfl rfl (cell_one_new _ _ _) ?d2 ?d3 ?d4 ?d5 ?_)
   case d2=>intro u hu;simp at hu;subst hu;rfl
   case d3=>omega
   case d4=>omega
   case d5=>simp;omega
   intro ao2 cap2 W2 hown2 hgrow2
   have hb2:Below B w W2:=qa9 (hb.alloc hsz _) (by simp;omega) (HO.out.alloc _) hgrow2
   have hsz2:B≤W2.heap.size:=by have:=hgrow2.size;simp at this;omega
   have e2:Lib.byteCells (s.data.toList++128 :: List.replicate q 0)++[.int .u8 0]=Lib.byteCells (s.data.toList++128 :: List.replicate (q+1) 0):=by
    rw [List.replicate_succ',← List.cons_append,← List.append_assoc,Lib.byteCells_append (s.data.toList++128 :: List.replicate q 0)];rfl
   rw [e2] at hown2;clear e2 hgrow2 HO hb hsz HL
   go_wp2_with fail
   go_roundw
   case rel=>exact ⟨q+1,ao2,cap2,by omega,rfl,hown2,hb2,hsz2⟩
   case measure=>simp [sliceLen];omega
  ·have hd:(((s.size:Int)+1+(q:Int)+16)%128 != 0)=false:=by
    have:((s.size:Int)+1+(q:Int)+16)%128=0:=by omega
    simp [this]
   obtain rfl:q=z:=by omega
   clear hzz
   go_wp2_with fail
   go_loopw [7,9] (fun v i wr=>∃ (j r:Nat) (ao:Option Addr) (cap:Nat),j+r=16∧i=.int .i64 ((r:Int)-1)∧v=.slice ao (s.size+1+q+j) cap∧Own wr B (.slice ao (s.size+1+q+j) cap) (Lib.byteCells (s.data.toList++128 :: (List.replicate q 0++(be 16 (s.size*8)).take j)))∧Below B w wr∧B≤wr.heap.size) (fun _ i _=>(intOf i+1).toNat)
   case atStart=>exact ⟨0,16,ao,cap,by omega,rfl,rfl,by simpa using HO.out,hb,hsz⟩
   case round=>
    clear HO hb hsz HL hd;obtain ⟨j,r,ao3,cap3,hjr,rfl,rfl,hown,hb,hsz⟩:=hrel;have HO:=hid hown;clear hown
    have hl:(Lib.byteCells (s.data.toList++128 :: (List.replicate q 0++(be 16 (s.size*8)).take j))).length=s.size+1+q+j:=by
     rw [Lib.byteCells_length,List.length_append,← Lib.size_eq];simp [qcU];omega
    have HL:=hid hl;have HJR:=hid hjr
    by_cases hr:0<r
    ·obtain ⟨r,rfl⟩:∃ r',r=r'+1:=⟨r-1,by omega⟩
     have hd:decide ((0:Int)≤(r:Int)+1-1)=true:=by simp
     have HB:=hid (be_take 16 (s.size*8) j (by omega))
     have HR:=hid (show 16-1-j=r from by omega)
     have hr15:(r:Int)<16:=by omega
     have hj8:j≤16:=by omega
     clear hl hjr
     by_cases hr7:r≤7
     ·have hd7:decide ((7:Int)<(r:Int))=false:=by simp;omega
      have hr7':(r:Int)≤7:=by omega
      go_wp2_with (at_builtin;refine qaI rfl (.tmp 39) (.tmp 45) 41 rfl B 5 i0 (.int .u8 0) 1 Tryz.underlying41 hi hz0 hz1 hz2 rfl ao3 (s.size+1+q+j) cap3 _ rfl (HO.out.alloc _) HL.out ⟨wr.heap.size,0,none⟩ 1 1 [.int .u8 ((s.size:Int)*8 / 2^(8*r)%256)] rfl rfl (cell_one_new _ _ _) ?f2 ?f3 ?f4 ?f5 ?_)
      case f2=>intro u hu;simp at hu;subst hu;rfl
      case f3=>omega
      case f4=>omega
      case f5=>simp;omega
      intro ao4 cap4 W4 hown4 hgrow4
      have hb4:Below B w W4:=qa9 (hb.alloc hsz _) (by simp;omega) (HO.out.alloc _) hgrow4
      have hsz4:B≤W4.heap.size:=by have:=hgrow4.size;simp at this;omega
      have e4:Lib.byteCells (s.data.toList++128 :: (List.replicate q 0++(be 16 (s.size*8)).take j))++[.int .u8 ((s.size:Int)*8 / 2^(8*r)%256)]=Lib.byteCells (s.data.toList++128 :: (List.replicate q 0++(be 16 (s.size*8)).take (j+1))):=by
       rw [HB.out,HR.out,← snoc3,byte_shift]
      rw [e4] at hown4;clear e4 hgrow4 HO hb hsz HL
      go_wp2_with fail
      go_roundw
      case rel=>exact ⟨j+1,r,ao4,cap4,by have:=HJR.out;omega,by go_num,rfl,hown4,hb4,hsz4⟩
      case measure=>simp [intOf]
     ·have hd7:decide ((7:Int)<(r:Int))=true:=by simp;omega
      have HX0:=hid (byte_none s.size r hs (by omega))
      go_wp2_with (at_builtin;refine qaI rfl (.tmp 36) (.tmp 37) 41 rfl B 5 i0 (.int .u8 0) 1 Tryz.underlying41 hi hz0 hz1 hz2 rfl ao3 (s.size+1+q+j) cap3 _ rfl (HO.out.alloc _) HL.out ⟨wr.heap.size,0,none⟩ 1 1 [.int .u8 (0)] rfl rfl (cell_one_new _ _ _) ?g2 ?g3 ?g4 ?g5 ?_)
      case g2=>intro u hu;simp at hu;subst hu;rfl
      case g3=>omega
      case g4=>omega
      case g5=>simp;omega
      intro ao4 cap4 W4 hown4 hgrow4
      have hb4:Below B w W4:=qa9 (hb.alloc hsz _) (by simp;omega) (HO.out.alloc _) hgrow4
      have hsz4:B≤W4.heap.size:=by have:=hgrow4.size;simp at this;omega
      have e4:Lib.byteCells (s.data.toList++128 :: (List.replicate q 0++(be 16 (s.size*8)).take j))++[.int .u8 (0)]=Lib.byteCells (s.data.toList++128 :: (List.replicate q 0++(be 16 (s.size*8)).take (j+1))):=by
       rw [HB.out,HR.out,← snoc3,HX0.out];rfl
      rw [e4] at hown4;clear e4 hgrow4 HO hb hsz HL
      go_wp2_with fail
      go_roundw
      case rel=>exact ⟨j+1,r,ao4,cap4,by have:=HJR.out;omega,by go_num,rfl,hown4,hb4,hsz4⟩
      case measure=>simp [intOf]
    ·obtain rfl:r=0:=by omega
     obtain rfl:j=16:=by omega
     have hd:decide ((0:Int)≤((0:Nat):Int)-1)=false:=by simp
     have HE:=hid (show s.data.toList++128 :: (List.replicate q 0++(be 16 (s.size*8)).take 16)=s.data.toList++padL 128 16 s.size from by
      rw [HPL.out,List.take_of_length_le (by rw [qcU];omega)])
     have HLn:=hid (show (padL 128 16 s.size).length=1+q+16 from by rw [HPL.out];simp [qcU];omega)
     clear hl hjr
     go_wp2_with fail
     go_ret
     refine ⟨ao3,cap3,?_,?_,hb⟩
     ·rw [HLn.out,← Nat.add_assoc,← Nat.add_assoc];rfl
     ·rw [HLn.out,← HE.out,← Nat.add_assoc,← Nat.add_assoc];exact HO.out
end
section
open Go.RowKit Go.Sort
def qdT:Code→List Code
 | .loop c=>c :: qdT c
 | .seq a b=>qdT a++qdT b
 | .block _ c=>qdT c
 | .scope c=>qdT c
 | .cond _ a b=>qdT a++qdT b
 | _=>[]
end
section
open Go.RowKit Go.Sort
theorem info_u64:(Tryz.prog.info? 57).map (fun i=>(i.zero,i.size,i.bytes))=some (some (.int .u64 0),1,8):=by kernel_rfl
def qbT (l:List Int):List Value:=l.map (Value.int .u64)
theorem qfA (l:List Int):(qbT l).length=l.length:=by simp [qbT]
theorem wcells64_snoc (l:List Int) (x:Int):qbT l++[.int .u64 x]=qbT (l++[x]):=by simp [qbT]
structure RInv64 (W3 W:World) (B Hb Sb:Nat) (st:W8) (L:List UInt8):Prop where
 k:∀ t,t<80→W.cell? ⟨B,t,none⟩=some (.int .u64 (kf t))
 h:∀ j,j<8→W.cell? ⟨Hb,j,none⟩=some (.int .u64 (st.at j))
 f:∀ j,j<8→W.frozen? ⟨Hb,j,none⟩=false
 s:∀ j x,L[j]?=some x→W.cell? ⟨Sb,j,none⟩=some (.int .u8 x.toNat)
 but:But Hb W3 W
 lB:B<Hb
 lH:Hb<W3.heap.size
 lS:Sb<W3.heap.size
 ne:Sb≠Hb
theorem RInv64.step {W3 W W':World} {B Hb Sb:Nat} {st:W8} {L:List UInt8} (i:RInv64 W3 W B Hb Sb st L) (hb:Below W3.heap.size W W'):RInv64 W3 W' B Hb Sb st L:=by
 have lH:=i.lH;have lB:=i.lB;have lS:=i.lS
 exact ⟨fun t ht=>(hb.cell (by simp;omega)).trans (i.k t ht),fun j hj=>(hb.cell (by simpa using lH)).trans (i.h j hj),fun j hj=>(hb.frozen (by simpa using lH)).trans (i.f j hj),fun j x hj=>(hb.cell (by simpa using lS)).trans (i.s j x hj),
  ⟨hb.os.trans i.but.os,hb.tape.trans i.but.tape,hb.output.trans i.but.output,Nat.le_trans i.but.size hb.size,fun k hk hne=>(hb.block k hk).trans (i.but.block k hk hne)⟩,lB,lH,lS,i.ne⟩
theorem RInv64.set {W3 W:World} {B Hb Sb:Nat} {st st':W8} {L:List UInt8} (i:RInv64 W3 W B Hb Sb st L) (k:Nat) (hk:k<8) (x:Int) (h1:st'.at k=x) (h2:∀ j,j<8→j≠k→st'.at j=st.at j):RInv64 W3 (W.setCell ⟨Hb,k,none⟩ (.int .u64 x)) B Hb Sb st' L:=by
 have lB:=i.lB;have ne:=i.ne
 refine ⟨fun t ht=>(World.cell?_setCell_far _ _ _ _ (by simp;omega)).trans (i.k t ht),fun j hj=>?_,fun j hj=>by rw [World.frozen?_setCell];exact i.f j hj,fun j y hj=>(World.cell?_setCell_far _ _ _ _ (by simpa using ne.symm)).trans (i.s j y hj),i.but.trans (.setCell Hb _ _ _ rfl),lB,i.lH,i.lS,ne⟩
 by_cases hjk:j=k
 ·subst hjk
  rw [h1];exact World.cell?_setCell_same _ _ _ (i.h j hj)
 ·rw [h2 j hj hjk,← i.h j hj]
  exact World.cell?_setCell_other _ _ _ _ (by first | (simp;done) | (simp;omega) | (intro e;cases e;exact hjk rfl))
def mixT (s t:W8) (k:Nat):W8:=⟨if 0<k then IntKind.u64.wrap (s.a+t.a) else s.a,if 1<k then IntKind.u64.wrap (s.b+t.b) else s.b,if 2<k then IntKind.u64.wrap (s.c+t.c) else s.c,if 3<k then IntKind.u64.wrap (s.d+t.d) else s.d,if 4<k then IntKind.u64.wrap (s.e+t.e) else s.e,if 5<k then IntKind.u64.wrap (s.f+t.f) else s.f,if 6<k then IntKind.u64.wrap (s.g+t.g) else s.g,if 7<k then IntKind.u64.wrap (s.h+t.h) else s.h⟩
theorem mixT_at (s t:W8) (k:Nat) (hk:k<8):(mixT s t (k+1)).at k=IntKind.u64.wrap (s.at k+t.at k)∧(mixT s t k).at k=s.at k∧∀ j,j<8→j≠k→(mixT s t (k+1)).at j=(mixT s t k).at j:=by
 refine ⟨?_,?_,fun j hj hne=>?_⟩
 ·rcases lt8 hk with rfl | rfl | rfl | rfl | rfl | rfl | rfl | rfl <;> rfl
 ·rcases lt8 hk with rfl | rfl | rfl | rfl | rfl | rfl | rfl | rfl <;> rfl
 ·rcases lt8 hk with rfl | rfl | rfl | rfl | rfl | rfl | rfl | rfl <;> rcases lt8 hj with rfl | rfl | rfl | rfl | rfl | rfl | rfl | rfl <;> first | exact absurd rfl hne | rfl
structure VInv64 (W:World) (E V Wb:Nat) (r:W8) (ws:List Int):Prop where
 v:∀ j,j<8→W.cell? ⟨V,j,none⟩=some (.int .u64 (r.at j))
 w:∀ j,j<80→W.cell? ⟨Wb,j,none⟩=some (.int .u64 (ws.getD j 0))
 lV:E≤V
 lW:E≤Wb
theorem VInv64.step {W W':World} {E V Wb:Nat} {r:W8} {ws:List Int} (i:VInv64 W E V Wb r ws) (hb:Below W.heap.size W W'):VInv64 W' E V Wb r ws:=
 ⟨fun j hj=>(hb.cell (block_lt_of_cell (i.v j hj))).trans (i.v j hj),fun j hj=>(hb.cell (block_lt_of_cell (i.w j hj))).trans (i.w j hj),i.lV,i.lW⟩
theorem VInv64.set {W:World} {E V Wb Hb:Nat} {r:W8} {ws:List Int} (i:VInv64 W E V Wb r ws) (h:Hb<E) (k:Nat) (x:Value):VInv64 (W.setCell ⟨Hb,k,none⟩ x) E V Wb r ws:=by
 have lV:=i.lV;have lW:=i.lW
 exact ⟨fun j hj=>(World.cell?_setCell_far _ _ _ _ (by simp;omega)).trans (i.v j hj),fun j hj=>(World.cell?_setCell_far _ _ _ _ (by simp;omega)).trans (i.w j hj),lV,lW⟩
theorem mixT_eight (s t:W8):mixT s t 8=add64 s t:=rfl
theorem sch64_take (ws:List Int) (h:ws.length=16) (n:Nat):∀ k,k<16→(qaT ws n).take (k+1)=(qaT ws n).take k++[ws.getD k 0]:=fun k hk=>by
 have hpre:∀ n,(qaT ws n).take 16=ws:=by
  intro n
  induction n with
  | zero=>simp [qaT,← h]
  | succ n ih=>
   rw [qaT,List.take_append,ih,qcB _ h,show 16-(16+n)=0 by omega];simp
 have e:∀ m,m≤16→(qaT ws n).take m=ws.take m:=fun m hm=>by rw [← hpre n,List.take_take,Nat.min_eq_left hm,hpre n]
 rw [e _ (by omega),e _ (by omega),List.take_succ_eq_append_getElem (by omega)]
 simp [h,hk]
theorem sch64_take2 (ws:List Int) (h:ws.length=16) (n k:Nat) (h1:16≤k) (h2:k<16+n):(qaT ws n).take (k+1)=(qaT ws n).take k++[ext64 ((qaT ws n).take k) k]:=by
 have hpre:∀ d m,(qaT ws (m+d)).take (16+m)=qaT ws m:=by
  intro d
  induction d with
  | zero=>intro m;simp [List.take_of_length_le,qcB _ h]
  | succ d ih=>
   intro m
   rw [← Nat.add_assoc,qaT,List.take_append,ih,qcB _ h,show 16+m-(16+(m+d))=0 by omega];simp
 obtain ⟨m,rfl⟩:∃ m,k=16+m:=⟨k-16,by omega⟩
 have e1:=hpre (n-m) m;have e2:=hpre (n-(m+1)) (m+1)
 rw [show m+(n-m)=n by omega] at e1
 rw [show m+1+(n-(m+1))=n by omega] at e2
 rw [e1,show 16+m+1=16+(m+1) by omega,e2,qaT]
theorem pad_blocks128 (n:Nat):∃ q,n+(padL 128 16 n).length=128*q∧0<q:=by
 refine ⟨(n+(padL 128 16 n).length) / 128,?_,?_⟩ <;> simp only [padL,List.length_cons,List.length_append,List.length_replicate,qcU] <;> omega
def ldn (l:List UInt8):Nat:=l.foldl (fun v c=>v*256+c.toNat) 0
theorem ldn_snoc (l:List UInt8) (x:UInt8):ldn (l++[x])=ldn l*256+x.toNat:=by simp [ldn]
theorem ldn_lt (l:List UInt8):∀ n,n≤l.length→ldn (l.take n)<256^n:=by
 intro n
 induction n with
 | zero=>intro _;simp [ldn]
 | succ n ih=>
  intro hn
  have h1:=ih (by omega)
  have h2:=UInt8.toNat_lt (l[n]'(by omega))
  rw [List.take_succ_eq_append_getElem (by omega),ldn_snoc,Nat.pow_succ]
  omega
theorem or_shift64 (v c:Nat) (hv:v<72057594037927936) (hc:c<256):bits .or .u64 (IntKind.u64.wrap ((v:Int)*256)) (IntKind.u64.wrap (c:Int))=(v:Int)*256+c:=by
 have e1:IntKind.u64.wrap ((v:Int)*256)=(v:Int)*256:=by simp only [IntKind.wrap];exact Int.emod_eq_of_lt (by omega) (by show _<(18446744073709551616:Int);omega)
 have e2:IntKind.u64.wrap (c:Int)=(c:Int):=by simp only [IntKind.wrap];exact Int.emod_eq_of_lt (by omega) (by show _<(18446744073709551616:Int);omega)
 rw [e1,e2]
 go_bits2
theorem ld64_take (l:List UInt8):∀ n,n≤l.length→n≤8→ld64 (l.take n)=(ldn (l.take n):Int):=by
 intro n
 induction n with
 | zero=>intro _ _;simp [ldn,ld64]
 | succ n ih=>
  intro hn h8
  have h1:=ih (by omega) (by omega)
  have h2:=UInt8.toNat_lt (l[n]'(by omega))
  have h3:=ldn_lt l n (by omega)
  have h4:256^n≤256^7:=Nat.pow_le_pow_right (by omega) (by omega)
  rw [List.take_succ_eq_append_getElem (by omega),ldn_snoc]
  have e:ld64 (l.take n++[l[n]'(by omega)])=bits .or .u64 (IntKind.u64.wrap (ld64 (l.take n)*256)) (IntKind.u64.wrap ((l[n]'(by omega)).toNat:Int)):=by rw [ld64,List.foldl_append];rfl
  rw [e,h1,or_shift64 _ _ (by omega) h2]
  simp
def qeb (L:List UInt8) (a k:Nat):List UInt8:=(((L.drop a).take 128).drop (k*8)).take 8
theorem qfg (L:List UInt8) (a k:Nat) (hk:k<16) (h:a+128≤L.length):(qeb L a k).length=8:=by
 simp only [qeb,List.length_take,List.length_drop];omega
theorem eight_at (L:List UInt8) (a k n:Nat) (hk:k<16) (hn:n<8) (h:a+128≤L.length):∃ x,L[a+8*k+n]?=some x∧(qeb L a k).take (n+1)=(qeb L a k).take n++[x]:=by
 have hl:=qfg L a k hk h
 refine ⟨(qeb L a k)[n]'(by omega),?_,List.take_succ_eq_append_getElem (by omega)⟩
 rw [← List.getElem?_eq_getElem,qeb,List.getElem?_take,if_pos hn,List.getElem?_drop,List.getElem?_take,if_pos (by omega),List.getElem?_drop]
 congr 1;omega
theorem eight_word (L:List UInt8) (a k:Nat) (hk:k<16) (h:a+128≤L.length):(qa0 ((L.drop a).take 128)).getD k 0=(ldn ((qeb L a k).take 8):Int):=by
 have hl:=qfg L a k hk h
 rw [← ld64_take (qeb L a k) 8 (by omega) (by omega),List.take_of_length_le (show (qeb L a k).length≤8 by omega),qa0,List.getD_eq_getElem?_getD,List.getElem?_map,List.getElem?_range (by omega)]
 rfl
noncomputable def bodyT (i:Nat):Code:=(qdT (Tryz.f66.body.getD .skip)).getD i .skip
end
end Go.Proofs.YteomfleofeeofaaGreatDoor
