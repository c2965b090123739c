/- The reference's small functions. -/
import Derived.Test.YteomfleofeeofaaGreatDoorShaP
import Derived.Great.BuildSlice
namespace Go.Proofs.YteomfleofeeofaaGreatDoor
open Go.Lib (hid)
set_option maxHeartbeats 16000000
open Go.Proofs.Tryz
set_option maxRecDepth 100000
set_option linter.unusedSimpArgs false
set_option linter.unusedVariables false
section
open Go.RowKit Go.Sort
theorem qcK(v n:Int)(w:World)(h0:0≤n)(h1:n≤32):Rt 92 #[.int .u32 v,.int .i64 n] w (.int .u32 (qeL v n)):=by
 unfold Rt;go_enter func92,ntmps92;go_wp2_with fail;have e1:IntKind.i64.wrap (32-n)=32-n:=IntWalk.i64_in _ (by omega);have e2:(0:Int)≤32-n:=by omega
 go_quiet (fail)
 go_wp2;go_ret;refine⟨?_,below_drewN (Below.refl _ _) _⟩;simp[qeL]
theorem qcL(v n:Int)(w:World)(h0:0≤n)(h1:n≤64):Rt 121 #[.int .u64 v,.int .i64 n] w (.int .u64 (qeM v n)):=by
 unfold Rt;go_enter func121,ntmps121;go_wp2_with fail;have e1:IntKind.i64.wrap (64-n)=64-n:=IntWalk.i64_in _ (by omega);have e2:(0:Int)≤64-n:=by omega
 go_quiet (fail)
 go_wp2;go_ret;refine⟨?_,below_drewN (Below.refl _ _) _⟩;simp[qeM]
theorem constants_any(w:World):Calls Tryz.prog 89 #[] w fun e w'=>e=.returned (.slice (some ⟨w.heap.size,0,none⟩) 80 80)∧w.alloc (.cells (kList.map (Value.int .u64)).toArray 57)=w':=by
 go_enter func89,ntmps89;go_wp2_with (refine wpList_buildFlat rfl 97 57 80 _ rfl .u64 kList underlying97 (by kernel_rfl) (by kernel_rfl) (by kernel_rfl) (by omega) (by omega) (by kernel_rfl) ?_);go_ret;exact⟨rfl,rfl⟩
theorem qgv(w:World):Calls Tryz.prog 90 #[] w fun e w'=>e=.returned (.slice (some ⟨w.heap.size,0,none⟩) 8 8)∧w.alloc (.cells (hList.map (Value.int .u64)).toArray 57)=w':=by
 go_enter func90,ntmps90;go_wp2_with (refine wpList_buildFlat rfl 97 57 8 _ rfl .u64 hList underlying97 (by kernel_rfl) (by kernel_rfl) (by kernel_rfl) (by omega) (by omega) (by kernel_rfl) ?_);go_ret;exact⟨rfl,rfl⟩
theorem be_take(k x j:Nat)(h:j<k):(be k x).take (j+1)=(be k x).take j++[UInt8.ofNat (x/256^(k-1-j))]:=by
 induction k generalizing j with
 | zero=>omega
 | succ k ih=>
  cases j with
  | zero=>simp[be]
  | succ j=>
   have:=ih j (by omega);simp only[be,List.take_succ_cons,List.cons_append,List.cons.injEq,true_and];rw[this,show k+1-1-(j+1)=k-1-j by omega]
theorem byte_shift(n r:Nat):Lib.byteCells [UInt8.ofNat (n*8/256^r)]=[.int .u8 ((n:Int)*8/2^(8*r)%256)]:=by
 have e:(2:Int)^(8*r)=((256^r:Nat):Int):=by rw[Int.pow_mul];simp
 simp only[Lib.byteCells,List.map_cons,List.map_nil,UInt8.toNat_ofNat',e];congr 2
theorem byte_none(n r:Nat)(hn:n≤1048576)(h:8≤r):UInt8.ofNat (n*8/256^r)=0:=by
 have h1:256^8≤256^r:=Nat.pow_le_pow_right (by omega) h;have h2:n*8/256^r=0:=Nat.div_eq_of_lt (jl3 (by omega:n*8<256^8) h1);rw[h2];rfl
theorem snoc3(a b l:List UInt8)(x:UInt8):Lib.byteCells (a++128 :: (b++l))++Lib.byteCells [x]=Lib.byteCells (a++128 :: (b++(l++[x]))):=by
 simp[Lib.byteCells]
def sliceLen(v:Value):Nat:=match v with|.slice _ n _=>n|_=>0
theorem full64_any(s:ByteArray)(w:World)(hs:s.size≤1048576):Calls Tryz.prog 91 #[.string s,.int .i64 64,.int .i64 8] w fun e w'=>∃ ao z3,e=.returned (.slice ao (s.size+(padL 64 8 s.size).length) z3)∧Own w' w.heap.size (.slice ao (s.size+(padL 64 8 s.size).length) z3) (Lib.byteCells (s.data.toList++padL 64 8 s.size))∧Below w.heap.size w w':=by
 obtain⟨i0,hi,zn,zo,zp⟩:=info_parts qca;obtain⟨zz,ze,zF,z6,zj⟩:=qdk s w;obtain⟨z,hz⟩:∃ z,(2*64-(s.size%64+1+8))%64=z:=⟨_,rfl⟩;have hz64:z<64:=by omega
 have zs:=hid (show padL 64 8 s.size=128 :: (List.replicate z 0++be 8 (s.size*8)) from by rw[padL,hz]);have HZ:=hid hz;generalize zi:w.heap.size=B at *;have HBB:=hid zi;have zb:B≤(Lib.bytesWorld w 5 s).heap.size:=by rw[← zi];exact zj.size
 generalize Lib.bytesWorld w 5 s=W0 at *;have zd:=hid z6;have zv:(Lib.byteCells s.data.toList).length=s.size:=by rw[Lib.byteCells_length,← Lib.size_eq]
 have zy:=hid zv;clear zi hz z6 zv;go_enter func91,ntmps91;go_wp2_with (at_builtin;refine qaB rfl (.tmp 12) (.tmp 13) 41 rfl B 5 i0 (.int .u8 0) 1 underlying41 hi zn zo zp rfl zz s.size ze _ rfl (zd.out.alloc _) zy.out ⟨W0.heap.size,0,none⟩ 1 1 [.int .u8 128] rfl rfl (cell_one_new _ _ _) ?c2 ?c3 ?c4 ?c5 ?_)
 case c2=>intro u hu;simp at hu;subst hu;rfl
 case c3=>omega
 case c4=>omega
 case c5=>simp;omega
 intro zA zf W1 z5 z0;have zu:Below B w W1:=qaV (zj.alloc zb _) (by simp;omega) (zd.out.alloc _) z0;have zc:B≤W1.heap.size:=by have:=z0.size;simp at this;omega
 have e1:Lib.byteCells s.data.toList++[.int .u8 128]=Lib.byteCells (s.data.toList++128 :: List.replicate 0 0):=by rw[Lib.byteCells_append];rfl
 rw[e1]at z5;have zr:=hid z5;clear e1 z5 z0 zd zj zF zb;go_wp2_with fail
 go_loopw [7] (fun v wr=>∃ (q:Nat) (ao:Option Addr) (z3:Nat),q≤z∧v=.slice ao (s.size+1+q) z3∧Own wr B (.slice ao (s.size+1+q) z3) (Lib.byteCells (s.data.toList++128 :: List.replicate q 0))∧Below B w wr∧B≤wr.heap.size) (fun v _=>z+s.size+1-sliceLen v)
 case atStart=>exact⟨0,zA,zf,by omega,rfl,zr.out,zu,zc⟩
 case round=>
  clear zr zu zc;obtain⟨q,ao,z3,hq,rfl,z4,hb,z9⟩:=hrel;have HO:=hid z4;clear z4;have hl:(Lib.byteCells (s.data.toList++128 :: List.replicate q 0)).length=s.size+1+q:=by rw[Lib.byteCells_length,List.length_append,← Lib.size_eq];simp;omega
  have HL:=hid hl;clear hl;have zw:=HZ.out;by_cases hqz:q<z
  ·have hd:(((s.size:Int)+1+(q:Int)+8)%64 != 0)=true:=by rw[bne_iff_ne];omega
   clear zw;go_wp2_with (at_builtin;refine qaB rfl (.tmp 22) (.tmp 23) 41 rfl B 5 i0 (.int .u8 0) 1 underlying41 hi zn zo zp rfl ao (s.size+1+q) z3 _ rfl (HO.out.alloc _) HL.out ⟨wr.heap.size,0,none⟩ 1 1 [.int .u8 0] rfl rfl (cell_one_new _ _ _) ?d2 ?d3 ?d4 ?d5 ?_)
   case d2=>intro u hu;simp at hu;subst hu;rfl
   case d3=>omega
   case d4=>omega
   case d5=>simp;omega
   intro zB zg W2 z7 z1;have zD:Below B w W2:=qaV (hb.alloc z9 _) (by simp;omega) (HO.out.alloc _) z1;have zl:B≤W2.heap.size:=by have:=z1.size;simp at this;omega
   have e2:Lib.byteCells (s.data.toList++128 :: List.replicate q 0)++[.int .u8 0]=Lib.byteCells (s.data.toList++128 :: List.replicate (q+1) 0):=by
    rw[List.replicate_succ',← List.cons_append,← List.append_assoc,Lib.byteCells_append (s.data.toList++128 :: List.replicate q 0)];rfl
   rw[e2]at z7;clear e2 z1 HO hb z9 HL;go_wp2_with fail;go_roundw
   case rel=>exact⟨q+1,zB,zg,by omega,rfl,z7,zD,zl⟩
   case measure=>simp[sliceLen];omega
  ·have hd:(((s.size:Int)+1+(q:Int)+8)%64 != 0)=false:=by
    have:((s.size:Int)+1+(q:Int)+8)%64=0:=by omega
    simp[this]
   obtain rfl:q=z:=by omega
   clear zw;go_wp2_with fail
   go_loopw [7,9] (fun v i wr=>∃ (j r:Nat) (ao:Option Addr) (z3:Nat),j+r=8∧i=.int .i64 ((r:Int)-1)∧v=.slice ao (s.size+1+q+j) z3∧Own wr B (.slice ao (s.size+1+q+j) z3) (Lib.byteCells (s.data.toList++128 :: (List.replicate q 0++(be 8 (s.size*8)).take j)))∧Below B w wr∧B≤wr.heap.size) (fun _ i _=>(intOf i+1).toNat)
   case atStart=>exact⟨0,8,ao,z3,by omega,rfl,rfl,by simpa using HO.out,hb,z9⟩
   case round=>
    clear HO hb z9 HL hd;obtain⟨j,r,zt,za,zk,rfl,rfl,z4,hb,z9⟩:=hrel;have HO:=hid z4;clear z4;have hl:(Lib.byteCells (s.data.toList++128 :: (List.replicate q 0++(be 8 (s.size*8)).take j))).length=s.size+1+q+j:=by
     rw[Lib.byteCells_length,List.length_append,← Lib.size_eq];simp[qbL];omega
    have HL:=hid hl;have zx:=hid zk;by_cases hr:0<r
    ·obtain⟨r,rfl⟩:∃ r',r=r'+1:=⟨r-1,by omega⟩;have hd:decide ((0:Int)≤(r:Int)+1-1)=true:=by simp
     have HB:=hid (be_take 8 (s.size*8) j (by omega));have HR:=hid (show 8-1-j=r from by omega);have hr15:(r:Int)<8:=by omega
     have hj8:j≤8:=by omega
     clear hl zk;by_cases hr7:r≤7
     ·have hd7:decide ((7:Int)<(r:Int))=false:=by simp;omega
      have hr7':(r:Int)≤7:=by omega
      go_wp2_with (at_builtin;refine qaB rfl (.tmp 39) (.tmp 45) 41 rfl B 5 i0 (.int .u8 0) 1 underlying41 hi zn zo zp rfl zt (s.size+1+q+j) za _ rfl (HO.out.alloc _) HL.out ⟨wr.heap.size,0,none⟩ 1 1 [.int .u8 ((s.size:Int)*8/2^(8*r)%256)] rfl rfl (cell_one_new _ _ _) ?f2 ?f3 ?f4 ?f5 ?_)
      case f2=>intro u hu;simp at hu;subst hu;rfl
      case f3=>omega
      case f4=>omega
      case f5=>simp;omega
      intro zC zh W4 z8 z2;have zE:Below B w W4:=qaV (hb.alloc z9 _) (by simp;omega) (HO.out.alloc _) z2;have zm:B≤W4.heap.size:=by have:=z2.size;simp at this;omega
      have e4:Lib.byteCells (s.data.toList++128 :: (List.replicate q 0++(be 8 (s.size*8)).take j))++[.int .u8 ((s.size:Int)*8/2^(8*r)%256)]=Lib.byteCells (s.data.toList++128 :: (List.replicate q 0++(be 8 (s.size*8)).take (j+1))):=by
       rw[HB.out,HR.out,← snoc3,byte_shift]
      rw[e4]at z8;clear e4 z2 HO hb z9 HL;go_wp2_with fail;go_roundw
      case rel=>exact⟨j+1,r,zC,zh,by have:=zx.out;omega,by go_num,rfl,z8,zE,zm⟩
      case measure=>simp[intOf]
     ·omega
    ·obtain rfl:r=0:=by omega
     obtain rfl:j=8:=by omega
     have hd:decide ((0:Int)≤((0:Nat):Int)-1)=false:=by simp
     have HE:=hid (show s.data.toList++128 :: (List.replicate q 0++(be 8 (s.size*8)).take 8)=s.data.toList++padL 64 8 s.size from by
      rw[zs.out,jtl (by rw[qbL];omega)])
     have zq:=hid (show (padL 64 8 s.size).length=1+q+8 from by rw[zs.out];simp[qbL];omega);clear hl zk;go_wp2_with fail;go_ret;refine⟨zt,za,?_,?_,hb⟩
     ·rw[zq.out,← Nat.add_assoc,← Nat.add_assoc];rfl
     ·rw[zq.out,← HE.out,← Nat.add_assoc,← Nat.add_assoc];exact HO.out
theorem full128_any(s:ByteArray)(w:World)(hs:s.size≤1048576):Calls Tryz.prog 91 #[.string s,.int .i64 128,.int .i64 16] w fun e w'=>∃ ao z4,e=.returned (.slice ao (s.size+(padL 128 16 s.size).length) z4)∧Own w' w.heap.size (.slice ao (s.size+(padL 128 16 s.size).length) z4) (Lib.byteCells (s.data.toList++padL 128 16 s.size))∧Below w.heap.size w w':=by
 obtain⟨i0,hi,zf,zg,zh⟩:=info_parts qca;obtain⟨zC,zl,zG,z8,zp⟩:=qdk s w;obtain⟨z,hz⟩:∃ z,(2*128-(s.size%128+1+16))%128=z:=⟨_,rfl⟩;have hz64:z<128:=by omega
 have zw:=hid (show padL 128 16 s.size=128 :: (List.replicate z 0++be 16 (s.size*8)) from by rw[padL,hz]);have HZ:=hid hz;generalize zo:w.heap.size=B at *;have HBB:=hid zo;have zd:B≤(Lib.bytesWorld w 5 s).heap.size:=by rw[← zo];exact zp.size
 generalize Lib.bytesWorld w 5 s=W0 at *;have zi:=hid z8;have zy:(Lib.byteCells s.data.toList).length=s.size:=by rw[Lib.byteCells_length,← Lib.size_eq]
 have zA:=hid zy;clear zo hz z8 zy;go_enter func91,ntmps91;go_wp2_with (at_builtin;refine qaB rfl (.tmp 12) (.tmp 13) 41 rfl B 5 i0 (.int .u8 0) 1 underlying41 hi zf zg zh rfl zC s.size zl _ rfl (zi.out.alloc _) zA.out ⟨W0.heap.size,0,none⟩ 1 1 [.int .u8 128] rfl rfl (cell_one_new _ _ _) ?c2 ?c3 ?c4 ?c5 ?_)
 case c2=>intro u hu;simp at hu;subst hu;rfl
 case c3=>omega
 case c4=>omega
 case c5=>simp;omega
 intro zD zm W1 z6 z2;have zx:Below B w W1:=qaV (zp.alloc zd _) (by simp;omega) (zi.out.alloc _) z2;have ze:B≤W1.heap.size:=by have:=z2.size;simp at this;omega
 have e1:Lib.byteCells s.data.toList++[.int .u8 128]=Lib.byteCells (s.data.toList++128 :: List.replicate 0 0):=by rw[Lib.byteCells_append];rfl
 rw[e1]at z6;have zv:=hid z6;clear e1 z6 z2 zi zp zG zd;go_wp2_with fail
 go_loopw [7] (fun v wr=>∃ (q:Nat) (ao:Option Addr) (z4:Nat),q≤z∧v=.slice ao (s.size+1+q) z4∧Own wr B (.slice ao (s.size+1+q) z4) (Lib.byteCells (s.data.toList++128 :: List.replicate q 0))∧Below B w wr∧B≤wr.heap.size) (fun v _=>z+s.size+1-sliceLen v)
 case atStart=>exact⟨0,zD,zm,by omega,rfl,zv.out,zx,ze⟩
 case round=>
  clear zv zx ze;obtain⟨q,ao,z4,hq,rfl,z5,hb,z7⟩:=hrel;have HO:=hid z5;clear z5;have hl:(Lib.byteCells (s.data.toList++128 :: List.replicate q 0)).length=s.size+1+q:=by rw[Lib.byteCells_length,List.length_append,← Lib.size_eq];simp;omega
  have HL:=hid hl;clear hl;have zz:=HZ.out;by_cases hqz:q<z
  ·have hd:(((s.size:Int)+1+(q:Int)+16)%128 != 0)=true:=by rw[bne_iff_ne];omega
   clear zz;go_wp2_with (at_builtin;refine qaB rfl (.tmp 22) (.tmp 23) 41 rfl B 5 i0 (.int .u8 0) 1 underlying41 hi zf zg zh rfl ao (s.size+1+q) z4 _ rfl (HO.out.alloc _) HL.out ⟨wr.heap.size,0,none⟩ 1 1 [.int .u8 0] rfl rfl (cell_one_new _ _ _) ?d2 ?d3 ?d4 ?d5 ?_)
   case d2=>intro u hu;simp at hu;subst hu;rfl
   case d3=>omega
   case d4=>omega
   case d5=>simp;omega
   intro zE zn W2 z9 z3;have zF:Below B w W2:=qaV (hb.alloc z7 _) (by simp;omega) (HO.out.alloc _) z3;have zs:B≤W2.heap.size:=by have:=z3.size;simp at this;omega
   have e2:Lib.byteCells (s.data.toList++128 :: List.replicate q 0)++[.int .u8 0]=Lib.byteCells (s.data.toList++128 :: List.replicate (q+1) 0):=by
    rw[List.replicate_succ',← List.cons_append,← List.append_assoc,Lib.byteCells_append (s.data.toList++128 :: List.replicate q 0)];rfl
   rw[e2]at z9;clear e2 z3 HO hb z7 HL;go_wp2_with fail;go_roundw
   case rel=>exact⟨q+1,zE,zn,by omega,rfl,z9,zF,zs⟩
   case measure=>simp[sliceLen];omega
  ·have hd:(((s.size:Int)+1+(q:Int)+16)%128 != 0)=false:=by
    have:((s.size:Int)+1+(q:Int)+16)%128=0:=by omega
    simp[this]
   obtain rfl:q=z:=by omega
   clear zz;go_wp2_with fail
   go_loopw [7,9] (fun v i wr=>∃ (j r:Nat) (ao:Option Addr) (z4:Nat),j+r=16∧i=.int .i64 ((r:Int)-1)∧v=.slice ao (s.size+1+q+j) z4∧Own wr B (.slice ao (s.size+1+q+j) z4) (Lib.byteCells (s.data.toList++128 :: (List.replicate q 0++(be 16 (s.size*8)).take j)))∧Below B w wr∧B≤wr.heap.size) (fun _ i _=>(intOf i+1).toNat)
   case atStart=>exact⟨0,16,ao,z4,by omega,rfl,rfl,by simpa using HO.out,hb,z7⟩
   case round=>
    clear HO hb z7 HL hd;obtain⟨j,r,zj,za,zr,rfl,rfl,z5,hb,z7⟩:=hrel;have HO:=hid z5;clear z5;have hl:(Lib.byteCells (s.data.toList++128 :: (List.replicate q 0++(be 16 (s.size*8)).take j))).length=s.size+1+q+j:=by
     rw[Lib.byteCells_length,List.length_append,← Lib.size_eq];simp[qbL];omega
    have HL:=hid hl;have zt:=hid zr;by_cases hr:0<r
    ·obtain⟨r,rfl⟩:∃ r',r=r'+1:=⟨r-1,by omega⟩;have hd:decide ((0:Int)≤(r:Int)+1-1)=true:=by simp
     have HB:=hid (be_take 16 (s.size*8) j (by omega));have HR:=hid (show 16-1-j=r from by omega);have hr15:(r:Int)<16:=by omega
     have hj8:j≤16:=by omega
     clear hl zr;by_cases hr7:r≤7
     ·have zH:decide ((7:Int)<(r:Int))=false:=by simp;omega
      have hr7':(r:Int)≤7:=by omega
      go_wp2_with (at_builtin;refine qaB rfl (.tmp 39) (.tmp 45) 41 rfl B 5 i0 (.int .u8 0) 1 underlying41 hi zf zg zh rfl zj (s.size+1+q+j) za _ rfl (HO.out.alloc _) HL.out ⟨wr.heap.size,0,none⟩ 1 1 [.int .u8 ((s.size:Int)*8/2^(8*r)%256)] rfl rfl (cell_one_new _ _ _) ?f2 ?f3 ?f4 ?f5 ?_)
      case f2=>intro u hu;simp at hu;subst hu;rfl
      case f3=>omega
      case f4=>omega
      case f5=>simp;omega
      intro zk zb W4 z1 z0;have zq:Below B w W4:=qaV (hb.alloc z7 _) (by simp;omega) (HO.out.alloc _) z0;have zc:B≤W4.heap.size:=by have:=z0.size;simp at this;omega
      have e4:Lib.byteCells (s.data.toList++128 :: (List.replicate q 0++(be 16 (s.size*8)).take j))++[.int .u8 ((s.size:Int)*8/2^(8*r)%256)]=Lib.byteCells (s.data.toList++128 :: (List.replicate q 0++(be 16 (s.size*8)).take (j+1))):=by
       rw[HB.out,HR.out,← snoc3,byte_shift]
      rw[e4]at z1;clear e4 z0 HO hb z7 HL;go_wp2_with fail;go_roundw
      case rel=>exact⟨j+1,r,zk,zb,by have:=zt.out;omega,by go_num,rfl,z1,zq,zc⟩
      case measure=>simp[intOf]
     ·have zH:decide ((7:Int)<(r:Int))=true:=by simp;omega
      have zB:=hid (byte_none s.size r hs (by omega));go_wp2_with (at_builtin;refine qaB rfl (.tmp 36) (.tmp 37) 41 rfl B 5 i0 (.int .u8 0) 1 underlying41 hi zf zg zh rfl zj (s.size+1+q+j) za _ rfl (HO.out.alloc _) HL.out ⟨wr.heap.size,0,none⟩ 1 1 [.int .u8 (0)] rfl rfl (cell_one_new _ _ _) ?g2 ?g3 ?g4 ?g5 ?_)
      case g2=>intro u hu;simp at hu;subst hu;rfl
      case g3=>omega
      case g4=>omega
      case g5=>simp;omega
      intro zk zb W4 z1 z0;have zq:Below B w W4:=qaV (hb.alloc z7 _) (by simp;omega) (HO.out.alloc _) z0;have zc:B≤W4.heap.size:=by have:=z0.size;simp at this;omega
      have e4:Lib.byteCells (s.data.toList++128 :: (List.replicate q 0++(be 16 (s.size*8)).take j))++[.int .u8 (0)]=Lib.byteCells (s.data.toList++128 :: (List.replicate q 0++(be 16 (s.size*8)).take (j+1))):=by
       rw[HB.out,HR.out,← snoc3,zB.out];rfl
      rw[e4]at z1;clear e4 z0 HO hb z7 HL;go_wp2_with fail;go_roundw
      case rel=>exact⟨j+1,r,zk,zb,by have:=zt.out;omega,by go_num,rfl,z1,zq,zc⟩
      case measure=>simp[intOf]
    ·obtain rfl:r=0:=by omega
     obtain rfl:j=16:=by omega
     have hd:decide ((0:Int)≤((0:Nat):Int)-1)=false:=by simp
     have HE:=hid (show s.data.toList++128 :: (List.replicate q 0++(be 16 (s.size*8)).take 16)=s.data.toList++padL 128 16 s.size from by
      rw[zw.out,jtl (by rw[qbL];omega)])
     have zu:=hid (show (padL 128 16 s.size).length=1+q+16 from by rw[zw.out];simp[qbL];omega);clear hl zr;go_wp2_with fail;go_ret;refine⟨zj,za,?_,?_,hb⟩
     ·rw[zu.out,← Nat.add_assoc,← Nat.add_assoc];rfl
     ·rw[zu.out,← HE.out,← Nat.add_assoc,← Nat.add_assoc];exact HO.out
theorem info_u32:(Tryz.prog.info? 91).map (fun i=>(i.zero,i.size,i.bytes))=some (some (.int .u32 0),1,4):=by kernel_rfl
def qbV(l:List Int):List Value:=l.map (Value.int .u32)
theorem qdE(l:List Int):(qbV l).length=l.length:=by simp[qbV]
theorem qfz(l:List Int)(x:Int):qbV l++[.int .u32 x]=qbV (l++[x]):=by simp[qbV]
def qfU(H:Nat→Int)(n:Nat):List Int:=(List.range n).map fun j=>H j/4294967296%4294967296
theorem iniL32_snoc(H:Nat→Int)(n:Nat):qfU H (n+1)=qfU H n++[H n/4294967296%4294967296]:=by simp[qfU,List.range_succ]
structure RInv32 (W3 W:World) (B Hb Sb:Nat) (st:W8) (L:List UInt8):Prop where
 k:∀ t,t<80→W.cell? ⟨B,t,none⟩=some (.int .u64 (kf t))
 h:∀ j,j<8→W.cell? ⟨Hb,j,none⟩=some (.int .u32 (st.at j))
 f:∀ j,j<8→W.frozen? ⟨Hb,j,none⟩=false
 s:∀ j x,L[j]?=some x→W.cell? ⟨Sb,j,none⟩=some (.int .u8 x.toNat)
 but:But Hb W3 W
 lB:B<Hb
 lH:Hb<W3.heap.size
 lS:Sb<W3.heap.size
 ne:Sb≠Hb
theorem RInv32.step{W3 W W':World}{B Hb Sb:Nat}{st:W8}{L:List UInt8}(i:RInv32 W3 W B Hb Sb st L)(hb:Below W3.heap.size W W'):RInv32 W3 W' B Hb Sb st L:=by
 have lH:=i.lH;have lB:=i.lB;have lS:=i.lS;exact⟨fun t ht=>(hb.cell (by simp;omega)).trans (i.k t ht),fun j hj=>(hb.cell (by simpa using lH)).trans (i.h j hj),fun j hj=>(hb.frozen (by simpa using lH)).trans (i.f j hj),fun j x hj=>(hb.cell (by simpa using lS)).trans (i.s j x hj),
  ⟨hb.os.trans i.but.os,hb.tape.trans i.but.tape,hb.output.trans i.but.output,jlt i.but.size hb.size,fun k hk z0=>(hb.block k hk).trans (i.but.block k hk z0)⟩,lB,lH,lS,i.ne⟩
theorem pad_blocks64(n:Nat):∃ q,n+(padL 64 8 n).length=64*q∧0<q:=by
 refine⟨(n+(padL 64 8 n).length)/64,?_,?_⟩<;>simp only[padL,List.length_cons,List.length_append,List.length_replicate,qbL]<;>omega
theorem RInv32.set{W3 W:World}{B Hb Sb:Nat}{st z1:W8}{L:List UInt8}(i:RInv32 W3 W B Hb Sb st L)(k:Nat)(hk:k<8)(x:Int)(h1:z1.at k=x)(h2:∀ j,j<8→j≠k→z1.at j=st.at j):RInv32 W3 (W.setCell ⟨Hb,k,none⟩ (.int .u32 x)) B Hb Sb z1 L:=by
 have lB:=i.lB;have ne:=i.ne;refine⟨fun t ht=>(World.cell?_setCell_far _ _ _ _ (by simp;omega)).trans (i.k t ht),fun j hj=>?_,fun j hj=>by rw[World.frozen?_setCell];exact i.f j hj,fun j y hj=>(World.cell?_setCell_far _ _ _ _ (by simpa using ne.symm)).trans (i.s j y hj),i.but.trans (.setCell Hb _ _ _ rfl),lB,i.lH,i.lS,ne⟩;by_cases z0:j=k
 ·subst z0;rw[h1];exact World.cell?_setCell_same _ _ _ (i.h j hj)
 ·rw[h2 j hj z0,← i.h j hj];exact World.cell?_setCell_other _ _ _ _ (by first|(simp;done)|(simp;omega)|(intro e;cases e;exact z0 rfl))
def mixS(s t:W8)(k:Nat):W8:=⟨if 0<k then (s.a+t.a)%4294967296 else s.a,if 1<k then (s.b+t.b)%4294967296 else s.b,if 2<k then (s.c+t.c)%4294967296 else s.c,if 3<k then (s.d+t.d)%4294967296 else s.d,if 4<k then (s.e+t.e)%4294967296 else s.e,if 5<k then (s.f+t.f)%4294967296 else s.f,if 6<k then (s.g+t.g)%4294967296 else s.g,if 7<k then (s.h+t.h)%4294967296 else s.h⟩
theorem mixS_at(s t:W8)(k:Nat)(hk:k<8):(mixS s t (k+1)).at k=(s.at k+t.at k)%4294967296∧(mixS s t k).at k=s.at k∧∀ j,j<8→j≠k→(mixS s t (k+1)).at j=(mixS s t k).at j:=by
 refine⟨?_,?_,fun j hj z0=>?_⟩
 ·rcases lt8 hk with rfl|rfl|rfl|rfl|rfl|rfl|rfl|rfl<;>rfl
 ·rcases lt8 hk with rfl|rfl|rfl|rfl|rfl|rfl|rfl|rfl<;>rfl
 ·rcases lt8 hk with rfl|rfl|rfl|rfl|rfl|rfl|rfl|rfl<;>rcases lt8 hj with rfl|rfl|rfl|rfl|rfl|rfl|rfl|rfl<;>first|exact absurd rfl z0|rfl
structure VInv32 (W:World) (E V Wb:Nat) (r:W8) (ws:List Int):Prop where
 v:∀ j,j<8→W.cell? ⟨V,j,none⟩=some (.int .u32 (r.at j))
 w:∀ j,j<64→W.cell? ⟨Wb,j,none⟩=some (.int .u32 (ws.getD j 0))
 lV:E≤V
 lW:E≤Wb
theorem VInv32.step{W W':World}{E V Wb:Nat}{r:W8}{ws:List Int}(i:VInv32 W E V Wb r ws)(hb:Below W.heap.size W W'):VInv32 W' E V Wb r ws:=
 ⟨fun j hj=>(hb.cell (jbc (i.v j hj))).trans (i.v j hj),fun j hj=>(hb.cell (jbc (i.w j hj))).trans (i.w j hj),i.lV,i.lW⟩
theorem VInv32.set{W:World}{E V Wb Hb:Nat}{r:W8}{ws:List Int}(i:VInv32 W E V Wb r ws)(h:Hb<E)(k:Nat)(x:Value):VInv32 (W.setCell ⟨Hb,k,none⟩ x) E V Wb r ws:=by
 have lV:=i.lV;have lW:=i.lW;exact⟨fun j hj=>(World.cell?_setCell_far _ _ _ _ (by simp;omega)).trans (i.v j hj),fun j hj=>(World.cell?_setCell_far _ _ _ _ (by simp;omega)).trans (i.w j hj),lV,lW⟩
theorem four_new(w:World)(a b c d:Value)(t:TypeId):∀ j u,[a,b,c,d][j]?=some u→(w.alloc (.cells #[a,b,c,d] t)).cell? ((⟨w.heap.size,0,none⟩:Addr).add j)=some u:=fun j u hj=>by
 rw[Addr.add_lit,Nat.zero_add,jco _ _ _ _ _ _ (qad w _)];simpa using hj
theorem mixS_eight(s t:W8):mixS s t 8=add32 s t:=rfl
theorem dig32_four(s:W8)(k:Nat)(hk:k<8):(qcp s).take (4*(k+1))=(qcp s).take (4*k)++[qc9 (s.at k) 24,qc9 (s.at k) 16,qc9 (s.at k) 8,qc9 (s.at k) 0]:=by
 have h0:=qey s k 0 hk (by omega);have h1:=qey s k 1 hk (by omega);have h2:=qey s k 2 hk (by omega);have h3:=qey s k 3 hk (by omega);rw[show 4*(k+1)=4*k+3+1 by omega,h3,show 4*k+3=4*k+2+1 by omega,h2,show 4*k+2=4*k+1+1 by omega,h1,show 4*k+1=4*k+0+1 by omega,h0];simp
theorem or_bytes32(a b c d:UInt8):bits .or .u32 (bits .or .u32 (bits .or .u32 ((a.toNat:Int)%4294967296*16777216%4294967296) ((b.toNat:Int)%4294967296*65536%4294967296)) ((c.toNat:Int)%4294967296*256%4294967296)) ((d.toNat:Int)%4294967296)=ld32 [a,b,c,d]:=by
 have ha:=UInt8.toNat_lt a;have hb:=UInt8.toNat_lt b;have hc:=UInt8.toNat_lt c;have hd:=UInt8.toNat_lt d;have e1:bits .or .u32 (bits .or .u32 (bits .or .u32 ((a.toNat:Int)%4294967296*16777216%4294967296) ((b.toNat:Int)%4294967296*65536%4294967296)) ((c.toNat:Int)%4294967296*256%4294967296)) ((d.toNat:Int)%4294967296)=(a.toNat:Int)*16777216+(b.toNat:Int)*65536+(c.toNat:Int)*256+(d.toNat:Int):=by
  generalize a.toNat=a at *;generalize b.toNat=b at *;generalize c.toNat=c at *;generalize d.toNat=d at *;rw[show (a:Int)%4294967296=a by omega,show (b:Int)%4294967296=b by omega,show (c:Int)%4294967296=c by omega,show (d:Int)%4294967296=d by omega]
  go_bits2
 have e2:ld32 [a,b,c,d]=(a.toNat:Int)*16777216+(b.toNat:Int)*65536+(c.toNat:Int)*256+(d.toNat:Int):=by
  simp only[ld32,List.foldl_cons,List.foldl_nil];generalize a.toNat=a at *;generalize b.toNat=b at *;generalize c.toNat=c at *;generalize d.toNat=d at *;have q1:bits .or .u32 (0*256%4294967296) ((a:Int)%4294967296)=(a:Int):=by go_bits2
  rw[q1];have q2:bits .or .u32 ((a:Int)*256%4294967296) ((b:Int)%4294967296)=(a:Int)*256+b:=by go_bits2
  rw[q2];have q3:bits .or .u32 (((a:Int)*256+b)*256%4294967296) ((c:Int)%4294967296)=((a:Int)*256+b)*256+c:=by go_bits2
  rw[q3];have q4:bits .or .u32 ((((a:Int)*256+b)*256+c)*256%4294967296) ((d:Int)%4294967296)=(((a:Int)*256+b)*256+c)*256+d:=by go_bits2
  rw[q4];omega
 rw[e1,e2]
theorem four_bytes(L:List UInt8)(a k:Nat)(x0 x1 x2 x3:UInt8)(hk:k<16)(h0:L[a+4*k]?=some x0)(h1:L[a+4*k+1]?=some x1)(h2:L[a+4*k+2]?=some x2)(h3:L[a+4*k+3]?=some x3):((((L.drop a).take 64).drop (k*4)).take 4)=[x0,x1,x2,x3]:=by
 apply List.ext_getElem?;intro j;rw[List.getElem?_take,List.getElem?_drop,List.getElem?_take,List.getElem?_drop];rcases (by omega:j=0∨j=1∨j=2∨j=3∨4≤j)with rfl|rfl|rfl|rfl|hj
 ·rw[if_pos (by omega),if_pos (by omega),show a+(k*4+0)=a+4*k by omega,h0];rfl
 ·rw[if_pos (by omega),if_pos (by omega),show a+(k*4+1)=a+4*k+1 by omega,h1];rfl
 ·rw[if_pos (by omega),if_pos (by omega),show a+(k*4+2)=a+4*k+2 by omega,h2];rfl
 ·rw[if_pos (by omega),if_pos (by omega),show a+(k*4+3)=a+4*k+3 by omega,h3];rfl
 ·rw[if_neg (by omega),List.getElem?_eq_none (by simpa using hj)]
theorem sch32_take(ws:List Int)(h:ws.length=16)(n:Nat):∀ k,k<16→(qa5 ws n).take (k+1)=(qa5 ws n).take k++[ws.getD k 0]:=fun k hk=>by
 have z0:∀ n,(qa5 ws n).take 16=ws:=by
  intro n
  induction n with
  | zero=>simp[qa5,← h]
  | succ n ih=>
   rw[qa5,List.take_append,ih,qcR _ h,show 16-(16+n)=0 by omega];simp
 have e:∀ m,m≤16→(qa5 ws n).take m=ws.take m:=fun m hm=>by rw[← z0 n,List.take_take,Nat.min_eq_left hm,z0 n]
 rw[e _ (by omega),e _ (by omega),List.take_succ_eq_append_getElem (by omega)];simp[h,hk]
theorem sch32_take2(ws:List Int)(h:ws.length=16)(n k:Nat)(h1:16≤k)(h2:k<16+n):(qa5 ws n).take (k+1)=(qa5 ws n).take k++[ext32 ((qa5 ws n).take k) k]:=by
 have z0:∀ d m,(qa5 ws (m+d)).take (16+m)=qa5 ws m:=by
  intro d
  induction d with
  | zero=>intro m;simp[jtl,qcR _ h]
  | succ d ih=>
   intro m;rw[← Nat.add_assoc,qa5,List.take_append,ih,qcR _ h,show 16+m-(16+(m+d))=0 by omega];simp
 obtain⟨m,rfl⟩:∃ m,k=16+m:=⟨k-16,by omega⟩;have e1:=z0 (n-m) m;have e2:=z0 (n-(m+1)) (m+1);rw[show m+(n-m)=n by omega]at e1;rw[show m+1+(n-(m+1))=n by omega]at e2;rw[e1,show 16+m+1=16+(m+1) by omega,e2,qa5]
def qdX:Code→List Code
 | .loop c=>c :: qdX c
 | .seq a b=>qdX a++qdX b
 | .block _ c=>qdX c
 | .scope c=>qdX c
 | .cond _ a b=>qdX a++qdX b
 | _=>[]
noncomputable def body4:Code:=(qdX (f43.body.getD .skip)).getD 3 .skip
set_option maxRecDepth 1000000 in
theorem loop4_32{Q:Exit→Act→World→Prop}{W3 W:World}{B E Hb Sb Wb V0 r8 r9:Nat}{st:W8}{ws:List Int}{L:List UInt8}(rc:Hid (W3.heap.size=E)){c0 c1 c2 c4 c5 c6 c7 c8 tJ tK tL tM re rf tN tO tP tQ tR tS tT tU tV tW tX tY tZ s0 s1 s2 s3 s4 s5 s6 s7 s8 s9 sa sb sc sd se sf sg sh si sj sk sl sm sn so sp sq sr ss su sv sw sx sy sz sA sB sC sD sE sF sG sH sI sJ sK sL sM sN sO sP sQ sR sS sT sU sV sW sX sY sZ r0 r1 r2 r3 r4 r5 r6 r7 z4 z5 z6 z7 z8 z9 za zb zc zd ze zf zg zh zi zj zk zl zm zn zo zp zq zr zs zt zu zv zw zx zy zz zA zB zC zD zE zF zG zH zI zJ zK zL zM zN zO yJ yK yL yM yN yO yP yQ yR yS yT yU yV yW yX yY yZ x0 x1 x2 x3 x4 x5 x6 x7 x8 x9 xi xj xl xm xn xo xp xq xr xs xt xu xv xx xy xz xA xB xC xD xE xF xG xH xI xJ xK xL xM xN xO xQ xR xS xT xU xV xW xX xY xZ v0 v1 v2 v3 v4 v5 v6 v7 v8 v9 va vb vc vd ve vf vg vh vi vj vk vl vm vn vo vp vq vr vs vt vu vv vw vx vy vz vA vB vC vD vE vF vG vH vJ vK vL vM zP zQ zR zS zT zU zV zW zX zY zZ y0 y1 y2 y3 y4 y5 y6 y7 y8 y9 ya yb yc yd ye yf yg yh yi yj yk yl ym yn yo yp yq yr ys yt yu yv yw yx yy yz yA:Value}{c:Code}(hc:c=Code.loop body4)
  (yF:VInv32 W E V0 Wb st ws) (ra:RInv32 W3 W B Hb Sb st L) (yD:E≤W.heap.size)
  (hQ:∀ (wr:World) (V cv:Nat) (r:W8) (rg rh vQ vR vS vT vU vV vW vX vY vZ u0 u1 u2 u3 u4 u5 u6 u7 u8 u9 ua ub ud ue uf ug uh ui uj uk ul um un uo up uq ur us ut uu uv uw ux uy uz uA uB uC uD uE uF uG uH uI uJ uK uL uM uN uO uP uQ uR uS uT uU uV uW uX uY uZ t0 t1 t2 t3 t4 t5 t6 t7 t8 t9 ta tb tc td te tf tg th ti tj tk tl tm tn to tp tq tr ts tt tu tv tw tx ty tz tA tB tC tD tE tF tG tH tI:Value),Hid (qea (fun t=>kf t/4294967296) (fun t=>ws.getD t 0) st 64=r)→VInv32 wr E V Wb r ws→RInv32 W3 wr B Hb Sb st L→E≤wr.heap.size→Q (Exit.exit 6) ⟨List.toArray (c0 :: c1 :: c2 :: (.slice (some ⟨B,0,none⟩) 80 80)::c4 :: c5 :: c6 :: c7 :: c8 :: (.slice (some ⟨Wb,0,none⟩) 64 r8)::tJ :: tK :: tL :: tM :: (.slice (some ⟨V,0,none⟩) 8 cv)::(.int .i64 64)::rg :: rh :: tN :: tO :: tP :: tQ :: tR :: tS :: tT :: tU :: tV :: tW :: tX :: tY :: tZ :: s0 :: s1 :: s2 :: s3 :: s4 :: s5 :: s6 :: s7 :: s8 :: s9 :: sa :: sb :: sc :: sd :: se :: sf :: sg :: sh :: si :: sj :: sk :: sl :: sm :: sn :: so :: sp :: sq :: sr :: ss :: su :: sv :: sw :: sx :: sy :: sz :: sA :: sB :: sC :: sD :: sE :: sF :: sG :: sH :: sI :: sJ :: sK :: sL :: sM :: sN :: sO :: sP :: sQ :: sR :: sS :: sT :: sU :: sV :: sW :: sX :: sY :: sZ :: r0 :: r1 :: r2 :: r3 :: r4 :: r5 :: r6 :: r7 :: z4 :: z5 :: z6 :: z7 :: z8 :: z9 :: za :: zb :: zc :: zd :: ze :: zf :: zg :: zh :: zi :: zj :: zk :: zl :: zm :: zn :: zo :: zp :: zq :: zr :: zs :: zt :: zu :: zv :: zw :: zx :: zy :: zz :: zA :: zB :: zC :: zD :: zE :: zF :: zG :: zH :: zI :: zJ :: zK :: zL :: zM :: zN :: zO :: vQ :: vR :: vS :: vT :: vU :: vV :: vW :: vX :: vY :: vZ :: u0 :: u1 :: u2 :: u3 :: u4 :: u5 :: u6 :: u7 :: u8 :: u9 :: ua :: ub :: ud :: ue :: uf :: ug :: uh :: ui :: uj :: uk :: ul :: um :: un :: uo :: up :: uq :: ur :: us :: ut :: uu :: uv :: uw :: ux :: uy :: uz :: uA :: uB :: uC :: uD :: uE :: uF :: uG :: uH :: uI :: uJ :: uK :: uL :: uM :: uN :: uO :: uP :: uQ :: uR :: uS :: uT :: uU :: uV :: uW :: uX :: uY :: uZ :: t0 :: t1 :: t2 :: t3 :: t4 :: t5 :: t6 :: t7 :: t8 :: t9 :: ta :: tb :: tc :: td :: te :: tf :: tg :: th :: ti :: tj :: tk :: tl :: tm :: tn :: to :: tp :: tq :: tr :: ts :: tt :: tu :: tv :: tw :: tx :: ty :: tz :: tA :: tB :: tC :: tD :: tE :: tF :: tG :: tH :: tI :: zP :: zQ :: zR :: zS :: zT :: zU :: zV :: zW :: zX :: zY :: zZ :: y0 :: y1 :: y2 :: y3 :: y4 :: y5 :: y6 :: y7 :: y8 :: y9 :: ya :: yb :: yc :: yd :: ye :: yf :: yg :: yh :: yi :: yj :: yk :: yl :: ym :: yn :: yo :: yp :: yq :: yr :: ys :: yt :: yu :: yv :: yw :: yx :: yy :: yz :: yA :: []),[]⟩ wr) :
  Code.wp Tryz.prog c Q ⟨List.toArray (c0 :: c1 :: c2 :: (.slice (some ⟨B,0,none⟩) 80 80)::c4 :: c5 :: c6 :: c7 :: c8 :: (.slice (some ⟨Wb,0,none⟩) 64 r8)::tJ :: tK :: tL :: tM :: (.slice (some ⟨V0,0,none⟩) 8 r9)::(.int .i64 0)::re :: rf :: tN :: tO :: tP :: tQ :: tR :: tS :: tT :: tU :: tV :: tW :: tX :: tY :: tZ :: s0 :: s1 :: s2 :: s3 :: s4 :: s5 :: s6 :: s7 :: s8 :: s9 :: sa :: sb :: sc :: sd :: se :: sf :: sg :: sh :: si :: sj :: sk :: sl :: sm :: sn :: so :: sp :: sq :: sr :: ss :: su :: sv :: sw :: sx :: sy :: sz :: sA :: sB :: sC :: sD :: sE :: sF :: sG :: sH :: sI :: sJ :: sK :: sL :: sM :: sN :: sO :: sP :: sQ :: sR :: sS :: sT :: sU :: sV :: sW :: sX :: sY :: sZ :: r0 :: r1 :: r2 :: r3 :: r4 :: r5 :: r6 :: r7 :: z4 :: z5 :: z6 :: z7 :: z8 :: z9 :: za :: zb :: zc :: zd :: ze :: zf :: zg :: zh :: zi :: zj :: zk :: zl :: zm :: zn :: zo :: zp :: zq :: zr :: zs :: zt :: zu :: zv :: zw :: zx :: zy :: zz :: zA :: zB :: zC :: zD :: zE :: zF :: zG :: zH :: zI :: zJ :: zK :: zL :: zM :: zN :: zO :: yJ :: yK :: yL :: yM :: yN :: yO :: yP :: yQ :: yR :: yS :: yT :: yU :: yV :: yW :: yX :: yY :: yZ :: x0 :: x1 :: x2 :: x3 :: x4 :: x5 :: x6 :: x7 :: x8 :: x9 :: xi :: xj :: xl :: xm :: xn :: xo :: xp :: xq :: xr :: xs :: xt :: xu :: xv :: xx :: xy :: xz :: xA :: xB :: xC :: xD :: xE :: xF :: xG :: xH :: xI :: xJ :: xK :: xL :: xM :: xN :: xO :: xQ :: xR :: xS :: xT :: xU :: xV :: xW :: xX :: xY :: xZ :: v0 :: v1 :: v2 :: v3 :: v4 :: v5 :: v6 :: v7 :: v8 :: v9 :: va :: vb :: vc :: vd :: ve :: vf :: vg :: vh :: vi :: vj :: vk :: vl :: vm :: vn :: vo :: vp :: vq :: vr :: vs :: vt :: vu :: vv :: vw :: vx :: vy :: vz :: vA :: vB :: vC :: vD :: vE :: vF :: vG :: vH :: vJ :: vK :: vL :: vM :: zP :: zQ :: zR :: zS :: zT :: zU :: zV :: zW :: zX :: zY :: zZ :: y0 :: y1 :: y2 :: y3 :: y4 :: y5 :: y6 :: y7 :: y8 :: y9 :: ya :: yb :: yc :: yd :: ye :: yf :: yg :: yh :: yi :: yj :: yk :: yl :: ym :: yn :: yo :: yp :: yq :: yr :: ys :: yt :: yu :: yv :: yw :: yx :: yy :: yz :: yA :: []),[]⟩ W:=by
 subst hc
 conv=>arg 2;arg 1;whnf
 go_loopw [14,15] (fun v t wr=>∃ (k V cv:Nat) (r:W8),k≤64∧t=.int .i64 k∧v=.slice (some ⟨V,0,none⟩) 8 cv∧Hid (qea (fun t=>kf t/4294967296) (fun t=>ws.getD t 0) st k=r)∧VInv32 wr E V Wb r ws∧RInv32 W3 wr B Hb Sb st L∧E≤wr.heap.size) (fun _ t _=>64-(intOf t).toNat)
 case atStart=>exact⟨0,V0,r9,st,by omega,rfl,rfl,hid rfl,yF,ra,yD⟩
 case round=>
  clear yF ra yD;obtain⟨k,V,cv,⟨xa,xb,xc,xd,xe,xf,xg,xh⟩,hk,rfl,rfl,HR,rb,hv,vP⟩:=hrel;have z0:=hid rb;have HV:=hid hv;clear rb hv;by_cases vO:k<64
  ·have hd:decide ((k:Int)<64)=true:=by simp;omega
   have rd:=hid (show qea (fun t=>kf t/4294967296) (fun t=>ws.getD t 0) st (k+1)=rnd32 ⟨xa,xb,xc,xd,xe,xf,xg,xh⟩ (kf k/4294967296) (ws.getD k 0) from by rw[qea,HR.out]);have ck:=HV.out.k k (by omega);have cw:=z0.out.w k vO;have c4:=z0.out.v 4 (by omega);have c5:=z0.out.v 5 (by omega);have c6:=z0.out.v 6 (by omega);have c7:=z0.out.v 7 (by omega);simp only[W8.at]at c4 c5 c6 c7;generalize kf k=xk at *;generalize ws.getD k 0=xw at *;go_wp2_with fail;have q4:=jcr c4;have q5:=jcr c5;have q6:=jcr c6;have q7:=jcr c7;have qk:=jcr ck;have qw:=jcr cw;refine qav (by kernel_rfl) (by kernel_rfl) ?_
   repeat (first|go_big_quiet_step ((go_at_call 92;exact Calls.regrown_of (qcK _ _ _ (by omega) (by omega))))|quiet_step ((go_at_call 92;exact Calls.regrown_of (qcK _ _ _ (by omega) (by omega)))))
   refine jqn ?_;intro W6 yG;replace z0:=hid (z0.out.step yG);have yB:Below E wr W6:=yG.mono vP;have z1:E≤W6.heap.size:=jlt vP yG.size;clear q4 q5 q6 q7 qk qw c4 c5 c6 c7 ck cw yG;have c0:=z0.out.v 0 (by omega);have c1:=z0.out.v 1 (by omega);have c2:=z0.out.v 2 (by omega);simp only[W8.at]at c0 c1 c2;go_wp2_with fail;have q0:=jcr c0;have q1:=jcr c1;have q2:=jcr c2;refine qav (by kernel_rfl) (by kernel_rfl) ?_
   repeat (first|go_big_quiet_step ((go_at_call 92;exact Calls.regrown_of (qcK _ _ _ (by omega) (by omega))))|quiet_step ((go_at_call 92;exact Calls.regrown_of (qcK _ _ _ (by omega) (by omega)))))
   refine jqn ?_;intro W7 yH;replace z0:=hid (z0.out.step yH);have yC:Below E wr W7:=yB.trans (yH.mono z1);have z2:E≤W7.heap.size:=jlt z1 yH.size;clear q0 q1 q2 c0 c1 c2 yH yB z1;have c0:=z0.out.v 0 (by omega);have c1:=z0.out.v 1 (by omega);have c2:=z0.out.v 2 (by omega);have c3:=z0.out.v 3 (by omega);have c4:=z0.out.v 4 (by omega);have c5:=z0.out.v 5 (by omega);have c6:=z0.out.v 6 (by omega);simp only[W8.at]at c0 c1 c2 c3 c4 c5 c6;go_wp2_with fail;have q0:=jcr c0;have q1:=jcr c1;have q2:=jcr c2;have q3:=jcr c3;have q4:=jcr c4;have q5:=jcr c5;have q6:=jcr c6;refine qak 26 (by kernel_rfl) (by kernel_rfl) ?_;simp only[List.take_succ_cons,List.take_zero,List.drop_succ_cons,List.drop_zero]
   repeat (first|go_big_quiet_step (fail)|quiet_step (fail))
   refine jqn ?_;intro z3 yI;replace z0:=hid (z0.out.step yI);have vN:Below E wr z3:=yC.trans (yI.mono z2);have yE:E≤z3.heap.size:=jlt z2 yI.size;clear q0 q1 q2 q3 q4 q5 q6 c0 c1 c2 c3 c4 c5 c6 yI yC z2;go_wp2_with fail;go_roundw
   case rel=>
    refine⟨k+1,z3.heap.size,8,rnd32 ⟨xa,xb,xc,xd,xe,xf,xg,xh⟩ (xk/4294967296) xw,by omega,by go_num,rfl,rd,?_,HV.out.step (by rw[rc.out];exact vN.alloc yE _),by simp;omega⟩;refine⟨fun j hj=>?_,(z0.out.step (qaf z3 _)).w,yE,z0.out.lW⟩;rw[jco _ _ _ _ _ _ (qad z3 _)];rcases lt8 hj with rfl|rfl|rfl|rfl|rfl|rfl|rfl|rfl
    ·refine congrArg some (congrArg (Value.int .u32) ?_);simp only[rnd32,qfL,W8.at]
    ·rfl
    ·rfl
    ·rfl
    ·refine congrArg some (congrArg (Value.int .u32) ?_);simp only[rnd32,qfL,W8.at]
    ·rfl
    ·rfl
    ·rfl
   case measure=>simp[intOf];omega
  ·have hd:decide ((k:Int)<64)=false:=by simp;omega
   obtain rfl:k=64:=by omega
   go_wp2_with fail;exact hQ _ _ _ _ _ _ _ _ _ _ _ _ _ _ _ _ _ _ _ _ _ _ _ _ _ _ _ _ _ _ _ _ _ _ _ _ _ _ _ _ _ _ _ _ _ _ _ _ _ _ _ _ _ _ _ _ _ _ _ _ _ _ _ _ _ _ _ _ _ _ _ _ _ _ _ _ _ _ _ _ _ _ _ _ _ _ _ _ _ _ _ _ _ _ _ _ _ _ _ _ _ _ _ _ _ _ _ _ _ _ _ _ _ _ _ _ _ _ _ _ _ _ HR z0.out HV.out vP
theorem info_u64:(Tryz.prog.info? 57).map (fun i=>(i.zero,i.size,i.bytes))=some (some (.int .u64 0),1,8):=by kernel_rfl
def qb6(l:List Int):List Value:=l.map (Value.int .u64)
theorem qgi(l:List Int):(qb6 l).length=l.length:=by simp[qb6]
theorem wcells64_snoc(l:List Int)(x:Int):qb6 l++[.int .u64 x]=qb6 (l++[x]):=by simp[qb6]
structure RInv64 (W3 W:World) (B Hb Sb:Nat) (st:W8) (L:List UInt8):Prop where
 k:∀ t,t<80→W.cell? ⟨B,t,none⟩=some (.int .u64 (kf t))
 h:∀ j,j<8→W.cell? ⟨Hb,j,none⟩=some (.int .u64 (st.at j))
 f:∀ j,j<8→W.frozen? ⟨Hb,j,none⟩=false
 s:∀ j x,L[j]?=some x→W.cell? ⟨Sb,j,none⟩=some (.int .u8 x.toNat)
 but:But Hb W3 W
 lB:B<Hb
 lH:Hb<W3.heap.size
 lS:Sb<W3.heap.size
 ne:Sb≠Hb
theorem RInv64.step{W3 W W':World}{B Hb Sb:Nat}{st:W8}{L:List UInt8}(i:RInv64 W3 W B Hb Sb st L)(hb:Below W3.heap.size W W'):RInv64 W3 W' B Hb Sb st L:=by
 have lH:=i.lH;have lB:=i.lB;have lS:=i.lS;exact⟨fun t ht=>(hb.cell (by simp;omega)).trans (i.k t ht),fun j hj=>(hb.cell (by simpa using lH)).trans (i.h j hj),fun j hj=>(hb.frozen (by simpa using lH)).trans (i.f j hj),fun j x hj=>(hb.cell (by simpa using lS)).trans (i.s j x hj),
  ⟨hb.os.trans i.but.os,hb.tape.trans i.but.tape,hb.output.trans i.but.output,jlt i.but.size hb.size,fun k hk z0=>(hb.block k hk).trans (i.but.block k hk z0)⟩,lB,lH,lS,i.ne⟩
theorem RInv64.set{W3 W:World}{B Hb Sb:Nat}{st z1:W8}{L:List UInt8}(i:RInv64 W3 W B Hb Sb st L)(k:Nat)(hk:k<8)(x:Int)(h1:z1.at k=x)(h2:∀ j,j<8→j≠k→z1.at j=st.at j):RInv64 W3 (W.setCell ⟨Hb,k,none⟩ (.int .u64 x)) B Hb Sb z1 L:=by
 have lB:=i.lB;have ne:=i.ne;refine⟨fun t ht=>(World.cell?_setCell_far _ _ _ _ (by simp;omega)).trans (i.k t ht),fun j hj=>?_,fun j hj=>by rw[World.frozen?_setCell];exact i.f j hj,fun j y hj=>(World.cell?_setCell_far _ _ _ _ (by simpa using ne.symm)).trans (i.s j y hj),i.but.trans (.setCell Hb _ _ _ rfl),lB,i.lH,i.lS,ne⟩;by_cases z0:j=k
 ·subst z0;rw[h1];exact World.cell?_setCell_same _ _ _ (i.h j hj)
 ·rw[h2 j hj z0,← i.h j hj];exact World.cell?_setCell_other _ _ _ _ (by first|(simp;done)|(simp;omega)|(intro e;cases e;exact z0 rfl))
def mixT(s t:W8)(k:Nat):W8:=⟨if 0<k then IntKind.u64.wrap (s.a+t.a) else s.a,if 1<k then IntKind.u64.wrap (s.b+t.b) else s.b,if 2<k then IntKind.u64.wrap (s.c+t.c) else s.c,if 3<k then IntKind.u64.wrap (s.d+t.d) else s.d,if 4<k then IntKind.u64.wrap (s.e+t.e) else s.e,if 5<k then IntKind.u64.wrap (s.f+t.f) else s.f,if 6<k then IntKind.u64.wrap (s.g+t.g) else s.g,if 7<k then IntKind.u64.wrap (s.h+t.h) else s.h⟩
theorem mixT_at(s t:W8)(k:Nat)(hk:k<8):(mixT s t (k+1)).at k=IntKind.u64.wrap (s.at k+t.at k)∧(mixT s t k).at k=s.at k∧∀ j,j<8→j≠k→(mixT s t (k+1)).at j=(mixT s t k).at j:=by
 refine⟨?_,?_,fun j hj z0=>?_⟩
 ·rcases lt8 hk with rfl|rfl|rfl|rfl|rfl|rfl|rfl|rfl<;>rfl
 ·rcases lt8 hk with rfl|rfl|rfl|rfl|rfl|rfl|rfl|rfl<;>rfl
 ·rcases lt8 hk with rfl|rfl|rfl|rfl|rfl|rfl|rfl|rfl<;>rcases lt8 hj with rfl|rfl|rfl|rfl|rfl|rfl|rfl|rfl<;>first|exact absurd rfl z0|rfl
structure VInv64 (W:World) (E V Wb:Nat) (r:W8) (ws:List Int):Prop where
 v:∀ j,j<8→W.cell? ⟨V,j,none⟩=some (.int .u64 (r.at j))
 w:∀ j,j<80→W.cell? ⟨Wb,j,none⟩=some (.int .u64 (ws.getD j 0))
 lV:E≤V
 lW:E≤Wb
theorem VInv64.step{W W':World}{E V Wb:Nat}{r:W8}{ws:List Int}(i:VInv64 W E V Wb r ws)(hb:Below W.heap.size W W'):VInv64 W' E V Wb r ws:=
 ⟨fun j hj=>(hb.cell (jbc (i.v j hj))).trans (i.v j hj),fun j hj=>(hb.cell (jbc (i.w j hj))).trans (i.w j hj),i.lV,i.lW⟩
theorem VInv64.set{W:World}{E V Wb Hb:Nat}{r:W8}{ws:List Int}(i:VInv64 W E V Wb r ws)(h:Hb<E)(k:Nat)(x:Value):VInv64 (W.setCell ⟨Hb,k,none⟩ x) E V Wb r ws:=by
 have lV:=i.lV;have lW:=i.lW;exact⟨fun j hj=>(World.cell?_setCell_far _ _ _ _ (by simp;omega)).trans (i.v j hj),fun j hj=>(World.cell?_setCell_far _ _ _ _ (by simp;omega)).trans (i.w j hj),lV,lW⟩
theorem mixT_eight(s t:W8):mixT s t 8=add64 s t:=rfl
theorem sch64_take(ws:List Int)(h:ws.length=16)(n:Nat):∀ k,k<16→(qa3 ws n).take (k+1)=(qa3 ws n).take k++[ws.getD k 0]:=fun k hk=>by
 have z0:∀ n,(qa3 ws n).take 16=ws:=by
  intro n
  induction n with
  | zero=>simp[qa3,← h]
  | succ n ih=>
   rw[qa3,List.take_append,ih,qcS _ h,show 16-(16+n)=0 by omega];simp
 have e:∀ m,m≤16→(qa3 ws n).take m=ws.take m:=fun m hm=>by rw[← z0 n,List.take_take,Nat.min_eq_left hm,z0 n]
 rw[e _ (by omega),e _ (by omega),List.take_succ_eq_append_getElem (by omega)];simp[h,hk]
theorem sch64_take2(ws:List Int)(h:ws.length=16)(n k:Nat)(h1:16≤k)(h2:k<16+n):(qa3 ws n).take (k+1)=(qa3 ws n).take k++[ext64 ((qa3 ws n).take k) k]:=by
 have z0:∀ d m,(qa3 ws (m+d)).take (16+m)=qa3 ws m:=by
  intro d
  induction d with
  | zero=>intro m;simp[jtl,qcS _ h]
  | succ d ih=>
   intro m;rw[← Nat.add_assoc,qa3,List.take_append,ih,qcS _ h,show 16+m-(16+(m+d))=0 by omega];simp
 obtain⟨m,rfl⟩:∃ m,k=16+m:=⟨k-16,by omega⟩;have e1:=z0 (n-m) m;have e2:=z0 (n-(m+1)) (m+1);rw[show m+(n-m)=n by omega]at e1;rw[show m+1+(n-(m+1))=n by omega]at e2;rw[e1,show 16+m+1=16+(m+1) by omega,e2,qa3]
theorem pad_blocks128(n:Nat):∃ q,n+(padL 128 16 n).length=128*q∧0<q:=by
 refine⟨(n+(padL 128 16 n).length)/128,?_,?_⟩<;>simp only[padL,List.length_cons,List.length_append,List.length_replicate,qbL]<;>omega
def ldn(l:List UInt8):Nat:=l.foldl (fun v c=>v*256+c.toNat) 0
theorem ldn_snoc(l:List UInt8)(x:UInt8):ldn (l++[x])=ldn l*256+x.toNat:=by simp[ldn]
theorem ldn_lt(l:List UInt8):∀ n,n≤l.length→ldn (l.take n)<256^n:=by
 intro n
 induction n with
 | zero=>intro _;simp[ldn]
 | succ n ih=>
  intro hn;have h1:=ih (by omega);have h2:=UInt8.toNat_lt (l[n]'(by omega));rw[List.take_succ_eq_append_getElem (by omega),ldn_snoc,Nat.pow_succ];omega
theorem or_shift64(v c:Nat)(hv:v<72057594037927936)(hc:c<256):bits .or .u64 (IntKind.u64.wrap ((v:Int)*256)) (IntKind.u64.wrap (c:Int))=(v:Int)*256+c:=by
 have e1:IntKind.u64.wrap ((v:Int)*256)=(v:Int)*256:=by simp only[IntKind.wrap];exact Int.emod_eq_of_lt (by omega) (by show _<(18446744073709551616:Int);omega)
 have e2:IntKind.u64.wrap (c:Int)=(c:Int):=by simp only[IntKind.wrap];exact Int.emod_eq_of_lt (by omega) (by show _<(18446744073709551616:Int);omega)
 rw[e1,e2]
 go_bits2
theorem ld64_take(l:List UInt8):∀ n,n≤l.length→n≤8→ld64 (l.take n)=(ldn (l.take n):Int):=by
 intro n
 induction n with
 | zero=>intro _ _;simp[ldn,ld64]
 | succ n ih=>
  intro hn h8;have h1:=ih (by omega) (by omega);have h2:=UInt8.toNat_lt (l[n]'(by omega));have h3:=ldn_lt l n (by omega);have h4:256^n≤256^7:=Nat.pow_le_pow_right (by omega) (by omega);rw[List.take_succ_eq_append_getElem (by omega),ldn_snoc];have e:ld64 (l.take n++[l[n]'(by omega)])=bits .or .u64 (IntKind.u64.wrap (ld64 (l.take n)*256)) (IntKind.u64.wrap ((l[n]'(by omega)).toNat:Int)):=by rw[ld64,List.foldl_append];rfl
  rw[e,h1,or_shift64 _ _ (by omega) h2];simp
def qez(L:List UInt8)(a k:Nat):List UInt8:=(((L.drop a).take 128).drop (k*8)).take 8
theorem qfS(L:List UInt8)(a k:Nat)(hk:k<16)(h:a+128≤L.length):(qez L a k).length=8:=by
 simp only[qez,List.length_take,List.length_drop];omega
theorem eight_at(L:List UInt8)(a k n:Nat)(hk:k<16)(hn:n<8)(h:a+128≤L.length):∃ x,L[a+8*k+n]?=some x∧(qez L a k).take (n+1)=(qez L a k).take n++[x]:=by
 have hl:=qfS L a k hk h;refine⟨(qez L a k)[n]'(by omega),?_,List.take_succ_eq_append_getElem (by omega)⟩;rw[← List.getElem?_eq_getElem,qez,List.getElem?_take,if_pos hn,List.getElem?_drop,List.getElem?_take,if_pos (by omega),List.getElem?_drop];congr 1;omega
theorem eight_word(L:List UInt8)(a k:Nat)(hk:k<16)(h:a+128≤L.length):(qbg ((L.drop a).take 128)).getD k 0=(ldn ((qez L a k).take 8):Int):=by
 have hl:=qfS L a k hk h;rw[← ld64_take (qez L a k) 8 (by omega) (by omega),jtl (show (qez L a k).length≤8 by omega),qbg,List.getD_eq_getElem?_getD,List.getElem?_map,List.getElem?_range (by omega)]
 rfl
noncomputable def bodyT (i:Nat):Code:=(qdX (f66.body.getD .skip)).getD i .skip
end
end Go.Proofs.YteomfleofeeofaaGreatDoor
